package tests

import (
	"math"
	"slices"
	"strings"
	"testing"

	"loop.example/g03314/impl"
)

// Promise 4: blocks are nested, and functions follow one another.

// linesOf reads the lines of a text in which they are separated by semicolons.
func linesOf(t *testing.T, text string) []impl.Line {
	t.Helper()
	var p []impl.Line
	for _, line := range strings.Split(text, ";") {
		if line != "" {
			p = append(p, mustParseLine(t, line))
		}
	}
	return p
}

// outside are indices of no line of a program.
func outside(p []impl.Line) []int {
	return []int{math.MinInt, -len(p), -2, -1, len(p), len(p) + 1, math.MaxInt}
}

func opensBlock(x impl.Line) bool {
	return x.Kind == impl.LineFun || x.Kind == impl.LineIf || x.Kind == impl.LineWhile
}

// wantEndOf counts again for each line behind k.
func wantEndOf(p []impl.Line, k int) int {
	if k < 0 || k >= len(p) || !opensBlock(p[k]) {
		return -1
	}
	for at := k + 1; at < len(p); at++ {
		opens, ends := 0, 0
		for _, x := range p[k : at+1] {
			if opensBlock(x) {
				opens++
			}
			if x.Kind == impl.LineEnd {
				ends++
			}
		}
		if opens == ends {
			return at
		}
	}
	return -1
}

// wantElseOf asks for each LineElse whether a further block contains it.
func wantElseOf(p []impl.Line, k int) int {
	end := wantEndOf(p, k)
	if end < 0 || p[k].Kind != impl.LineIf {
		return -1
	}
	for at := k + 1; at < end; at++ {
		within := false
		for further := k + 1; further < at; further++ {
			block := p[further].Kind == impl.LineIf || p[further].Kind == impl.LineWhile
			within = within || block && wantEndOf(p, further) > at
		}
		if p[at].Kind == impl.LineElse && !within {
			return at
		}
	}
	return -1
}

func wantLocalsOf(p []impl.Line, k int) []string {
	end := wantEndOf(p, k)
	if end < 0 || p[k].Kind != impl.LineFun {
		return nil
	}
	names := p[k].Args[:len(p[k].Args):len(p[k].Args)]
	for _, x := range p[k:end] {
		if x.Kind == impl.LineSet && !slices.Contains(names, x.Name) {
			names = append(names, x.Name)
		}
	}
	return names
}

// wantProgramOk goes through the document's conditions one by one.
func wantProgramOk(p []impl.Line) bool {
	ok := len(p) >= 1 && len(p) <= impl.MaxLines && p[0].Kind == impl.LineFun && p[0].Name == "main" && len(p[0].Args) == 0
	arity := map[string]int{}
	for _, x := range p {
		ok = ok && impl.LineOk(x)
		if x.Kind == impl.LineFun {
			_, twice := arity[x.Name]
			ok = ok && !twice
			arity[x.Name] = len(x.Args)
		}
	}
	ok = ok && len(arity) <= impl.MaxFunctions
	for k, x := range p {
		switch x.Kind {
		case impl.LineFun:
			ok = ok && wantFunctionOk(p, k, arity)
		case impl.LineElse:
			ok = ok && belongsToIf(p, k)
		}
	}
	return ok
}

func belongsToIf(p []impl.Line, at int) bool {
	for k := range p {
		if wantElseOf(p, k) == at {
			return true
		}
	}
	return false
}

func wantFunctionOk(p []impl.Line, k int, arity map[string]int) bool {
	end, locals := wantEndOf(p, k), wantLocalsOf(p, k)
	if end < 0 || end+1 < len(p) && p[end+1].Kind != impl.LineFun || len(locals) > impl.MaxLocals {
		return false
	}
	for at := k + 1; at < end; at++ {
		open := 0
		for before := k + 1; before <= at; before++ {
			if opensBlock(p[before]) && wantEndOf(p, before) >= at {
				open++
			}
		}
		if p[at].Kind == impl.LineFun || open > impl.MaxNesting {
			return false
		}
		for _, x := range p[at].Expr {
			args, isFunction := arity[x.Name]
			if x.Kind == impl.TokVariable && !slices.Contains(locals, x.Name) || x.Kind == impl.TokCall && (!isFunction || args != x.Num) {
				return false
			}
		}
	}
	return true
}

// wantStructure compares all questions about a list of lines with the document's words.
func wantStructure(t *testing.T, p []impl.Line) {
	t.Helper()
	for k := -1; k <= len(p); k++ {
		if got, want := impl.EndOf(p, k), wantEndOf(p, k); got != want {
			t.Fatalf("EndOf(%q, %d) = %d, want %d", impl.FormatProgram(p), k, got, want)
		}
		if got, want := impl.ElseOf(p, k), wantElseOf(p, k); got != want {
			t.Fatalf("ElseOf(%q, %d) = %d, want %d", impl.FormatProgram(p), k, got, want)
		}
		if got, want := impl.LocalsOf(p, k), wantLocalsOf(p, k); !slices.Equal(got, want) {
			t.Fatalf("LocalsOf(%q, %d) = %q, want %q", impl.FormatProgram(p), k, got, want)
		}
	}
	if got, want := impl.ProgramOk(p), wantProgramOk(p); got != want {
		t.Fatalf("ProgramOk(%q) = %v, want %v", impl.FormatProgram(p), got, want)
	}
}

func wantOk(t *testing.T, text string, want bool) {
	t.Helper()
	p := linesOf(t, text)
	if got := impl.ProgramOk(p); got != want {
		t.Errorf("ProgramOk(%q) = %v, want %v", text, got, want)
	}
	if wantProgramOk(p) != want {
		t.Errorf("the test's own reading of %q is %v", text, !want)
	}
}

func TestPromise4Constants(t *testing.T) {
	if impl.MaxFunctions != 6 || impl.MaxLocals != 8 || impl.MaxNesting != 4 {
		t.Error("a limit differs from the document's")
	}
}

type structureCase struct {
	text  string
	ends  []int
	elses []int
}

// structureCases have the EndOf and the ElseOf of each line.
func structureCases() []structureCase {
	return []structureCase{
		{"fun f;end", []int{1, -1}, []int{-1, -1}},
		{"fun f;out 1;end;fun g;end", []int{2, -1, -1, 4, -1}, []int{-1, -1, -1, -1, -1}},
		{"if 1;end", []int{1, -1}, []int{-1, -1}},
		{"if 1;else;end", []int{2, -1, -1}, []int{1, -1, -1}},
		{"while 1;else;end", []int{2, -1, -1}, []int{-1, -1, -1}},
		{"fun f;else;end", []int{2, -1, -1}, []int{-1, -1, -1}},
		{"if 1;else;else;end", []int{3, -1, -1, -1}, []int{1, -1, -1, -1}},
		{"if 1;end;else;end", []int{1, -1, -1, -1}, []int{-1, -1, -1, -1}},
		{"fun f;if 1;while 0;end;else;out 1;end;end", []int{7, 6, 3, -1, -1, -1, -1, -1}, []int{-1, 4, -1, -1, -1, -1, -1, -1}},
		{"if 1;if 2;else;end;end", []int{4, 3, -1, -1, -1}, []int{-1, 2, -1, -1, -1}},
		{"if 1;if 2;else;end;else;end", []int{5, 3, -1, -1, -1, -1}, []int{4, 2, -1, -1, -1, -1}},
		{"if 1;while 2;else;end;end", []int{4, 3, -1, -1, -1}, []int{-1, -1, -1, -1, -1}},
		{"if 1;while 2;else;end;else;end", []int{5, 3, -1, -1, -1, -1}, []int{4, -1, -1, -1, -1, -1}},
		{"if 1;else;if 2;else;end;end", []int{5, -1, 4, -1, -1, -1}, []int{1, -1, 3, -1, -1, -1}},
		{"if 1;fun f;else;end;end", []int{4, 3, -1, -1, -1}, []int{2, -1, -1, -1, -1}},
		{"if 1;fun f;if 2;else;end;else;end;else;end", []int{8, 6, 4, -1, -1, -1, -1, -1, -1}, []int{5, -1, 3, -1, -1, -1, -1, -1, -1}},
		{"fun f", []int{-1}, []int{-1}},
		{"if 1", []int{-1}, []int{-1}},
		{"while 1;out 1", []int{-1, -1}, []int{-1, -1}},
		{"if 1;else", []int{-1, -1}, []int{-1, -1}},
		{"if 1;else;if 2;else;end", []int{-1, -1, 4, -1, -1}, []int{-1, -1, 3, -1, -1}},
		{"fun f;fun g;end", []int{-1, 2, -1}, []int{-1, -1, -1}},
		{"end;if 1;end", []int{-1, 2, -1}, []int{-1, -1, -1}},
		{"end", []int{-1}, []int{-1}},
		{"else", []int{-1}, []int{-1}},
	}
}

func TestPromise4Blocks(t *testing.T) {
	for _, c := range structureCases() {
		p := linesOf(t, c.text)
		for k := range p {
			if got := impl.EndOf(p, k); got != c.ends[k] {
				t.Errorf("EndOf(%q, %d) = %d, want %d", c.text, k, got, c.ends[k])
			}
			if got := impl.ElseOf(p, k); got != c.elses[k] {
				t.Errorf("ElseOf(%q, %d) = %d, want %d", c.text, k, got, c.elses[k])
			}
		}
	}
}

func TestPromise4NoSuchLine(t *testing.T) {
	programs := [][]impl.Line{nil, {}, {endOne}}
	for _, c := range structureCases() {
		programs = append(programs, linesOf(t, c.text))
	}
	for _, p := range programs {
		for _, k := range outside(p) {
			if e, o, l := impl.EndOf(p, k), impl.ElseOf(p, k), impl.LocalsOf(p, k); e != -1 || o != -1 || len(l) != 0 {
				t.Errorf("line %d of %q: EndOf = %d, ElseOf = %d, LocalsOf = %q", k, impl.FormatProgram(p), e, o, l)
			}
		}
	}
}

func TestPromise4OtherKinds(t *testing.T) {
	// Only the kind of a line counts for its block, also if the line is not valid.
	for kind := -2; kind <= impl.LineEnd+2; kind++ {
		p := []impl.Line{{Kind: kind}, elseOne, {Kind: -1}, {Kind: impl.LineEnd + 1}, endOne, endOne}
		e, o := -1, -1
		if opensBlock(p[0]) {
			e = 4
		}
		if kind == impl.LineIf {
			o = 1
		}
		if impl.EndOf(p, 0) != e || impl.ElseOf(p, 0) != o {
			t.Errorf("kind %d: EndOf = %d, ElseOf = %d, want %d, %d", kind, impl.EndOf(p, 0), impl.ElseOf(p, 0), e, o)
		}
		if impl.ProgramOk(p) {
			t.Errorf("kind %d: ProgramOk is true", kind)
		}
	}
}

func TestPromise4LongLists(t *testing.T) {
	// EndOf and ElseOf know no limits.
	count := 2000
	p := slices.Concat(slices.Repeat([]impl.Line{exprLine(impl.LineIf, oneTok)}, count), []impl.Line{elseOne}, slices.Repeat([]impl.Line{endOne}, count))
	if impl.EndOf(p, 0) != 2*count || impl.EndOf(p, count-1) != count+1 || impl.ElseOf(p, 0) != -1 || impl.ElseOf(p, count-1) != count {
		t.Error("deep blocks", impl.EndOf(p, 0), impl.EndOf(p, count-1), impl.ElseOf(p, 0), impl.ElseOf(p, count-1))
	}
	if impl.EndOf(p[:2*count], 0) != -1 || impl.ElseOf(p[:count+1], count-1) != -1 || impl.ProgramOk(p) {
		t.Error("deep blocks without their ends")
	}
}

func TestPromise4FunctionLines(t *testing.T) {
	for _, c := range []struct {
		text string
		want []int
	}{
		{"", nil},
		{"end", nil},
		{"set fun 1;out fun;if 1;else;while 1;return 1;end", nil},
		{"fun main", []int{0}},
		{"end;fun main;end", []int{1}},
		{"fun main;end;fun f x;out x;end;fun g;end", []int{0, 2, 5}},
		{"fun f;fun f;fun f", []int{0, 1, 2}},
	} {
		if got := impl.FunctionLines(linesOf(t, c.text)); !slices.Equal(got, c.want) {
			t.Errorf("FunctionLines(%q) = %v, want %v", c.text, got, c.want)
		}
	}
	if got := impl.FunctionLines([]impl.Line{{Kind: -1}, {}, {Kind: 8}, {Expr: oneExpr}}); !slices.Equal(got, []int{1, 3}) {
		t.Error("FunctionLines of lines that are not valid", got)
	}
	if got := impl.FunctionLines(slices.Repeat([]impl.Line{{}}, 100)); len(got) != 100 || got[0] != 0 || got[99] != 99 {
		t.Error("FunctionLines of 100 functions", got)
	}
}

func TestPromise4FindFunction(t *testing.T) {
	text := "set g 1;fun f x;set h x;end;fun main;end;fun f;end;fun g f;end"
	p := linesOf(t, text)
	for _, c := range []struct {
		name string
		want int
	}{
		{"f", 1}, {"main", 4}, {"g", 8}, {"h", -1}, {"x", -1}, {"", -1}, {"F", -1}, {"mai", -1}, {"mainx", -1}, {"fun", -1}, {"f ", -1}, {"end", -1},
	} {
		if got := impl.FindFunction(p, c.name); got != c.want {
			t.Errorf("FindFunction(%q, %q) = %d, want %d", text, c.name, got, c.want)
		}
		if got := impl.FindFunction(nil, c.name); got != -1 {
			t.Errorf("FindFunction of no lines = %d", got)
		}
	}
	odd := []impl.Line{{Kind: impl.LineEnd, Name: "F"}, {Kind: -1, Name: "F"}, funLine("F"), funLine("")}
	if impl.FindFunction(odd, "F") != 2 || impl.FindFunction(odd, "") != 3 {
		t.Error("names that are not valid", impl.FindFunction(odd, "F"), impl.FindFunction(odd, ""))
	}
}

func TestPromise4LocalsOf(t *testing.T) {
	for _, c := range []struct {
		text string
		k    int
		want []string
	}{
		{"fun main;end", 0, nil},
		{"fun f x;end", 0, []string{"x"}},
		{"fun f d c b a;end", 0, []string{"d", "c", "b", "a"}},
		{"fun main;set b 1;set a 2;end", 0, []string{"b", "a"}},
		{"fun f x y;set z 1;set y 2;set z 3;set a x;set x 1;end", 0, []string{"x", "y", "z", "a"}},
		{"fun main;if 1;set b 1;else;while 1;set a 1;end;end;set c b;end", 0, []string{"b", "a", "c"}},
		{"fun main;set a 1;end;fun f x;set b 1;end;fun g y;set c 1;end", 0, []string{"a"}},
		{"fun main;set a 1;end;fun f x;set b 1;end;fun g y;set c 1;end", 3, []string{"x", "b"}},
		{"fun main;set a 1;end;fun f x;set b 1;end;fun g y;set c 1;end", 6, []string{"y", "c"}},
		{"fun main;out x;return + y z;end", 0, nil},
		{"fun f f;set g 1;set f 2;end", 0, []string{"f", "g"}},
		{"fun f x;fun g y;set a 1;end;set b 1;end;set c 1", 0, []string{"x", "a", "b"}},
		{"fun f x;fun g y;set a 1;end;set b 1;end;set c 1", 1, []string{"y", "a"}},
		{"set z 1;fun f;end", 1, nil},
		{"fun f x", 0, nil},
		{"fun f x;set a 1", 0, nil},
		{"fun f x;if 1;set a 1;end", 0, nil},
		{"fun f x;if 1;set a 1;end;end", 1, nil},
		{"while 1;set a 1;end", 0, nil},
		{"set a 1;end", 0, nil},
		{"fun f x;set a 1;end", 1, nil},
		{"fun f x;set a 1;end", 2, nil},
	} {
		if got := impl.LocalsOf(linesOf(t, c.text), c.k); !slices.Equal(got, c.want) {
			t.Errorf("LocalsOf(%q, %d) = %q, want %q", c.text, c.k, got, c.want)
		}
	}
}

func TestPromise4LocalsOfInvalidLines(t *testing.T) {
	p := []impl.Line{funLine("F", "x", "", "x", "Y", "z", "z"), setLine(""), setLine("Y"), setLine("Z"), {Kind: -1, Name: "q"}, {Kind: impl.LineOut, Name: "r"}, endOne}
	if got := impl.LocalsOf(p, 0); !slices.Equal(got, []string{"x", "", "x", "Y", "z", "z", "Z"}) {
		t.Errorf("LocalsOf of lines that are not valid = %q", got)
	}
}

func TestPromise4ProgramOk(t *testing.T) {
	for _, text := range []string{
		"fun main;end",
		"fun main;out 1;end",
		"fun main;set a f/1 2;out a;end;fun f x;return * 3 x;end",
		"fun main;if 1;while 0;end;else;out 1;end;end",
		"fun main;if 1;end;if 1;else;end;end",
		"fun main;if 1;if 2;else;end;else;while 1;if 3;else;end;end;end;end",
		"fun main;while 1;if 1;else;end;if 2;else;end;end;end",
		"fun main;return main/0;end",
		"fun main;out f/0;end;fun f;out g/2 1 f/0;end;fun g a b;return + a b;end",
		"fun main;out x;set x 1;end",
		"fun main;if 0;set x 1;end;out x;end",
		"fun main;set f f/1 1;end;fun f f;set f f/1 f;set main main/0;return f;end",
		"fun main;return 1;return 2;end",
		"fun main;set x x;while x;end;end",
		"fun main;set end 1;set fun end;out fun;end",
		"fun main;end;fun f a b c d;out f/4 a b c d;end",
	} {
		wantOk(t, text, true)
	}
}

func TestPromise4ProgramsThatAreNone(t *testing.T) {
	for _, text := range []string{
		"",
		"end", "out 1", "else", "set a 1", "if 1;end", "while 1;end",
		"fun f;end", "fun f;end;fun main;end", "fun main x;end", "fun main a b;out a;end", "fun maine;end",
		"out 1;fun main;end", "end;fun main;end", "set a 1;fun main;out a;end",
		"fun main", "fun main;out 1", "fun main;if 1;end", "fun main;while 1;out 1;end", "fun main;end;fun f", "fun main;end;fun f;if 1;end",
		"fun main;end;end", "fun main;end;out 1", "fun main;end;else", "fun main;end;if 1;end", "fun main;end;while 0;end;fun f;end",
		"fun main;end;set a 1;fun f;end", "fun main;end;end;fun f;end", "fun main;end;return 1;fun f;end", "fun main;end;fun f;end;out 1",
		"fun main;fun f;end;end", "fun main;if 1;fun f;end;end;end", "fun main;fun f;end;end;end", "fun main;fun f;end", "fun main;end;fun f;out 1;fun g;end;end",
		"fun main;end;fun main;end", "fun main;end;fun f;end;fun f;end", "fun main;end;fun f;end;fun f x;end", "fun main;end;fun g;end;fun f;end;fun g;end", "fun main;end;fun f;end;fun main x;end",
		"fun main;else;end", "fun main;while 1;else;end;end", "fun main;if 1;else;else;end;end", "fun main;if 1;end;else;end", "fun main;else;if 1;end;end",
		"fun main;if 1;while 1;else;end;end;end", "fun main;if 1;while 1;else;end;else;end;end", "fun main;if 1;else;if 1;else;else;end;end;end", "fun main;if 1;else;if 1;end;else;end;end", "fun main;end;fun f;else;end",
		"fun main;out x;end", "fun main;set a x;end", "fun main;if x;end;end", "fun main;while x;end;end", "fun main;return x;end", "fun main;out + 1 - 2 x;end",
		"fun main;set x 1;end;fun f;out x;end", "fun main;out x;end;fun f x;set x 1;end", "fun main;out main;end", "fun main;end;fun f x;out y;end", "fun main;end;fun f x;out f;end",
		"fun main;out f/0;end", "fun main;set f f/0;end", "fun main;out main/1 1;end", "fun main;out f/1 1;end;fun f;end", "fun main;out f/0;end;fun f x;end",
		"fun main;out f/2 1 2;end;fun f x;end", "fun main;out f/1 2;end;fun f x y;end", "fun main;out f/4 1 2 3 4;end;fun f x y z;end", "fun main;out f/1 g/0;end;fun f x;end", "fun main;out + 1 f/0;end;fun g;end",
		"fun main;end;fun f x;return x/0;end",
	} {
		wantOk(t, text, false)
	}
}

func TestPromise4InvalidLines(t *testing.T) {
	text := "fun main;set x 1;out x;end"
	for _, bad := range invalidLines() {
		p := linesOf(t, text)
		for at := range len(p) + 1 {
			if impl.ProgramOk(slices.Insert(slices.Clone(p), at, bad)) {
				t.Errorf("ProgramOk is true with %v as line %d", bad, at)
			}
		}
		for at := range p {
			replaced := slices.Clone(p)
			replaced[at] = bad
			if impl.ProgramOk(replaced) {
				t.Errorf("ProgramOk is true with %v in the place of line %d", bad, at)
			}
		}
	}
	if impl.ProgramOk(nil) || impl.ProgramOk([]impl.Line{}) || impl.ProgramOk([]impl.Line{{}}) {
		t.Error("ProgramOk is true without a function")
	}
}

func TestPromise4MaxFunctions(t *testing.T) {
	for count := 1; count <= impl.MaxFunctions+2; count++ {
		text := "fun main;out 1;end"
		for i := 1; i < count; i++ {
			text += ";fun " + strings.Repeat("f", i) + " x;out x;end"
		}
		wantOk(t, text, count <= impl.MaxFunctions)
	}
}

func TestPromise4MaxNesting(t *testing.T) {
	openers := []string{"if 1;", "while 0;"}
	for depth := range impl.MaxNesting + 3 {
		for choice := range 1 << depth {
			blocks := ""
			for i := range depth {
				blocks += openers[choice>>i&1]
			}
			ends := strings.Repeat("end;", depth)
			wantOk(t, "fun main;"+blocks+ends+"end", depth <= impl.MaxNesting)
			wantOk(t, "fun main;"+blocks+"out 1;"+ends+blocks+ends+"end;fun f;"+blocks+ends+"end", depth <= impl.MaxNesting)
		}
	}
	deep := strings.Repeat("if 1;", impl.MaxNesting-1)
	ends := strings.Repeat("end;", impl.MaxNesting-1)
	wantOk(t, "fun main;"+deep+"while 1;end;if 2;else;end;while 3;end;"+ends+"end", true)
	wantOk(t, "fun main;"+deep+"if 1;else;out 1;end;else;if 1;end;"+ends+"end", true)
	wantOk(t, "fun main;"+deep+"if 1;else;while 1;end;end;"+ends+"end", false)
	wantOk(t, "fun main;end;fun f;"+deep+"while 1;if 2;end;end;"+ends+"end", false)
	wantOk(t, "fun main;"+strings.Repeat("if 1;end;", 2*impl.MaxNesting)+"end", true)
}

func TestPromise4MaxLocals(t *testing.T) {
	names := []string{"a", "b", "c", "d", "e", "f", "g", "h", "i", "j"}
	for args := range impl.MaxArity + 1 {
		for count := args; count <= len(names); count++ {
			text := "fun main;end;" + strings.TrimSuffix("fun f "+strings.Join(names[:args], " "), " ")
			for _, name := range names[:count] {
				text += ";set " + name + " 1;set " + name + " 2"
			}
			text += ";end"
			wantOk(t, text, count <= impl.MaxLocals)
		}
	}
	set := "set " + strings.Join(names[:impl.MaxLocals], " 1;set ") + " 1;"
	wantOk(t, "fun main;"+set+"end;fun f;"+set+"end", true)
	wantOk(t, "fun main;"+set+"end;fun f z;"+set+"end", false)
	wantOk(t, "fun main;"+set+"if 1;while 1;set z 1;end;end;end", false)
	wantOk(t, "fun main;"+set+"if 1;while 1;set a 1;end;end;end", true)
}

func TestPromise4MaxLines(t *testing.T) {
	for count := impl.MaxLines - 1; count <= impl.MaxLines+2; count++ {
		wantOk(t, "fun main;"+strings.Repeat("out 1;", count-2)+"end", count <= impl.MaxLines)
		wantOk(t, "fun main;"+strings.Repeat("out 1;", count-4)+"end;fun f;end", count <= impl.MaxLines)
	}
	if impl.ProgramOk(slices.Repeat([]impl.Line{funLine("main"), endOne}, 5000)) {
		t.Error("ProgramOk is true for 10000 lines")
	}
}

func TestPromise4AllBlocks(t *testing.T) {
	// Each list of up to five of these lines, alone and as the lines of a function.
	lines := linesOf(t, "fun f;if 1;else;while 1;out 1;set x 1;end")
	for _, list := range listsUpTo(lines, 5) {
		wantStructure(t, list)
		wantStructure(t, slices.Concat([]impl.Line{funLine("main")}, list, []impl.Line{endOne}))
	}
}

func TestPromise4AllNames(t *testing.T) {
	// Each list of up to four of these lines between the ends of two functions, each of which lacks what some of them use.
	lines := linesOf(t, "end;fun f x;fun g;set x 1;out x;out f/1 2;out g/0;out main/0")
	for _, list := range listsUpTo(lines, 4) {
		wantStructure(t, slices.Concat([]impl.Line{funLine("main")}, list, []impl.Line{endOne}))
	}
}

func TestPromise4ArgumentsAreKept(t *testing.T) {
	args, list := []string{"x", "y", "spare", "more"}, []impl.Tok{varTok, addTok}
	lines := []impl.Line{funLine("main"), setLine("x", list[:1]...), endOne, funLine("f", args[:2]...), setLine("z", list[:1]...), exprLine(impl.LineIf, oneTok), elseOne, endOne, endOne, {Kind: 9}}
	before := slices.Clone(lines)
	p := lines[:9]
	if !impl.ProgramOk(p) {
		t.Error("the program is not taken")
	}
	for k := range p {
		impl.EndOf(p, k)
		impl.ElseOf(p, k)
		impl.LocalsOf(p, k)
	}
	impl.FunctionLines(p)
	impl.FindFunction(p, "f")
	if !sameProgram(lines, before) || !slices.Equal(args, []string{"x", "y", "spare", "more"}) || !slices.Equal(list, []impl.Tok{varTok, addTok}) {
		t.Error("the lines have changed", lines, args, list)
	}
}

func TestPromise4ResultsShareNoMemory(t *testing.T) {
	args := []string{"x", "y", "spare"}
	p := []impl.Line{funLine("f", args[:2]...), endOne, funLine("g"), endOne}
	first := impl.LocalsOf(p, 0)
	first[0] = "q"
	_ = append(first, "r")
	if !slices.Equal(args, []string{"x", "y", "spare"}) || !slices.Equal(impl.LocalsOf(p, 0), []string{"x", "y"}) {
		t.Error("the variables share memory with the line", args)
	}
	starts := impl.FunctionLines(p)
	starts[0] = 7
	if !slices.Equal(impl.FunctionLines(p), []int{0, 2}) {
		t.Error("two results share memory", impl.FunctionLines(p))
	}
}
