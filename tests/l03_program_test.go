package tests

import (
	"math"
	"reflect"
	"slices"
	"strings"
	"testing"

	"loop.example/g03314/impl"
)

// Promise 3: programs can be parsed from their texts.

var (
	oneExpr = []impl.Tok{oneTok}
	elseOne = impl.Line{Kind: impl.LineElse}
	endOne  = impl.Line{Kind: impl.LineEnd}
)

func funLine(name string, args ...string) impl.Line {
	return impl.Line{Kind: impl.LineFun, Name: name, Args: args}
}

func setLine(name string, list ...impl.Tok) impl.Line {
	return impl.Line{Kind: impl.LineSet, Name: name, Expr: list}
}

func exprLine(kind int, list ...impl.Tok) impl.Line {
	return impl.Line{Kind: kind, Expr: list}
}

// exprKinds have an Expr and no Name, bareKinds have neither.
func exprKinds() []int { return []int{impl.LineOut, impl.LineIf, impl.LineWhile, impl.LineReturn} }

func bareKinds() []int { return []int{impl.LineElse, impl.LineEnd} }

type textOfLine struct {
	text string
	line impl.Line
}

// textsOfLines has lines of each kind, with the texts that the document gives them.
func textsOfLines() []textOfLine {
	return []textOfLine{
		{"fun main", funLine("main")},
		{"fun f x", funLine("f", "x")},
		{"fun abcdefgh a b c d", funLine("abcdefgh", "a", "b", "c", "d")},
		{"fun f f", funLine("f", "f")},
		{"fun fun fun end", funLine("fun", "fun", "end")},
		{"set x 1", setLine("x", oneTok)},
		{"set a f/1 x", setLine("a", callTok("f", 1), varTok)},
		{"set set set", setLine("set", impl.Tok{Kind: impl.TokVariable, Name: "set"})},
		{"out 999", exprLine(impl.LineOut, impl.Tok{Num: 999})},
		{"out f/0", exprLine(impl.LineOut, callTok("f", 0))},
		{"out out", exprLine(impl.LineOut, impl.Tok{Kind: impl.TokVariable, Name: "out"})},
		{"if < x 1", exprLine(impl.LineIf, lessTok, varTok, oneTok)},
		{"else", elseOne},
		{"while = x 0", exprLine(impl.LineWhile, impl.Tok{Kind: impl.TokSame}, varTok, impl.Tok{})},
		{"return * 3 x", exprLine(impl.LineReturn, impl.Tok{Kind: impl.TokMul}, impl.Tok{Num: 3}, varTok)},
		{"return - + f/2 x 1 g/0 1", exprLine(impl.LineReturn, impl.Tok{Kind: impl.TokSub}, addTok, callTok("f", 2), varTok, oneTok, callTok("g", 0), oneTok)},
		{"end", endOne},
	}
}

// invalidLines have a Kind out of range, or a Name, Args or an Expr that their kind may not have or must have.
func invalidLines() []impl.Line {
	var list []impl.Line
	for _, kind := range []int{-1, impl.LineEnd + 1, impl.LineEnd + 2, math.MinInt, math.MaxInt} {
		list = append(list, impl.Line{Kind: kind}, exprLine(kind, oneTok), impl.Line{Kind: kind, Name: "f"}, impl.Line{Kind: kind, Name: "f", Args: []string{"x"}, Expr: oneExpr})
	}
	for _, name := range []string{"", "abcdefghi", "X", "f1", "f g", " f", "f\n", "é"} {
		list = append(list, funLine(name), funLine(name, "x"), funLine("f", name), funLine("f", "x", name), funLine("f", name, "x"), setLine(name, oneTok))
	}
	list = append(list,
		impl.Line{Kind: impl.LineFun, Name: "f", Expr: oneExpr},
		impl.Line{Kind: impl.LineFun, Name: "f", Args: []string{"x"}, Expr: oneExpr},
		funLine("f", "a", "b", "c", "d", "e"),
		impl.Line{Kind: impl.LineSet, Name: "x", Args: []string{"y"}, Expr: oneExpr},
		impl.Line{Kind: impl.LineSet, Name: "x", Args: []string{""}, Expr: oneExpr},
	)
	for _, kind := range exprKinds() {
		list = append(list, impl.Line{Kind: kind, Name: "x", Expr: oneExpr}, impl.Line{Kind: kind, Args: []string{"x"}, Expr: oneExpr}, impl.Line{Kind: kind, Args: []string{""}, Expr: oneExpr})
	}
	for _, kind := range bareKinds() {
		list = append(list, impl.Line{Kind: kind, Name: "x"}, impl.Line{Kind: kind, Args: []string{"x"}}, impl.Line{Kind: kind, Args: []string{""}}, exprLine(kind, oneTok))
	}
	for _, bad := range [][]impl.Tok{nil, {}, {addTok}, {addTok, oneTok}, {oneTok, oneTok}, {{Num: impl.MaxLiteral + 1}}, {{Kind: -1}}, exprOfLength(impl.MaxTokens + 1)} {
		list = append(list, setLine("x", bad...))
		for _, kind := range exprKinds() {
			list = append(list, exprLine(kind, bad...))
		}
	}
	return list
}

func mustParseLine(t *testing.T, text string) impl.Line {
	t.Helper()
	x, ok := impl.ParseLine(text)
	if !ok {
		t.Fatalf("ParseLine(%q) has none", text)
	}
	return x
}

// wantLine does not rely on SameLine: reflect holds nil and empty slices apart, so it makes them equal first.
func wantLine(t *testing.T, text string, want impl.Line) {
	t.Helper()
	got, ok := impl.ParseLine(text)
	if !ok || !reflect.DeepEqual(plainLine(got), plainLine(want)) {
		t.Errorf("ParseLine(%q) = %v, %v, want %v", text, got, ok, want)
	}
}

func plainLine(x impl.Line) impl.Line {
	if len(x.Args) == 0 {
		x.Args = nil
	}
	if len(x.Expr) == 0 {
		x.Expr = nil
	}
	return x
}

func wantNoLine(t *testing.T, text string) {
	t.Helper()
	got, ok := impl.ParseLine(text)
	if ok || !reflect.DeepEqual(plainLine(got), impl.Line{}) {
		t.Errorf("ParseLine(%q) = %v, %v, want none", text, got, ok)
	}
}

func wantNoProgram(t *testing.T, text string) {
	t.Helper()
	if got, ok := impl.ParseProgram(text); ok || len(got) != 0 {
		t.Errorf("ParseProgram(%q) = %v, %v, want none", text, got, ok)
	}
}

func sameProgram(a []impl.Line, b []impl.Line) bool {
	return slices.EqualFunc(a, b, func(x impl.Line, y impl.Line) bool { return reflect.DeepEqual(plainLine(x), plainLine(y)) })
}

func TestPromise3Constants(t *testing.T) {
	if impl.MaxLines != 60 {
		t.Error("a limit differs from the document's")
	}
	kinds := []int{impl.LineFun, impl.LineSet, impl.LineOut, impl.LineIf, impl.LineElse, impl.LineWhile, impl.LineReturn, impl.LineEnd}
	if !slices.Equal(kinds, []int{0, 1, 2, 3, 4, 5, 6, 7}) {
		t.Error("a kind differs from the document's", kinds)
	}
}

func TestPromise3LineOk(t *testing.T) {
	for _, c := range textsOfLines() {
		if !impl.LineOk(c.line) {
			t.Errorf("LineOk(%v) is false", c.line)
		}
	}
	for _, x := range invalidLines() {
		if impl.LineOk(x) {
			t.Errorf("LineOk(%v) is true", x)
		}
	}
	if impl.LineOk(impl.Line{}) {
		t.Error("LineOk of the zero Line is true")
	}
}

func TestPromise3LineOkEmptySlices(t *testing.T) {
	for _, x := range []impl.Line{
		{Kind: impl.LineFun, Name: "f", Args: []string{}, Expr: []impl.Tok{}},
		{Kind: impl.LineSet, Name: "x", Args: []string{}, Expr: oneExpr},
		{Kind: impl.LineOut, Args: []string{}, Expr: oneExpr},
		{Kind: impl.LineElse, Args: []string{}, Expr: []impl.Tok{}},
		{Kind: impl.LineEnd, Args: []string{}, Expr: []impl.Tok{}},
	} {
		if !impl.LineOk(x) {
			t.Errorf("LineOk(%v) with empty slices is false", x)
		}
	}
}

func TestPromise3MaxArity(t *testing.T) {
	names := []string{"a", "b", "c", "d", "e", "g"}
	for count := range len(names) + 1 {
		x := funLine("f", names[:count]...)
		text := strings.Join(append([]string{"fun", "f"}, names[:count]...), " ")
		if count > impl.MaxArity {
			wantNoLine(t, text)
			text = ""
		} else {
			wantLine(t, text, x)
		}
		if impl.LineOk(x) != (text != "") || impl.FormatLine(x) != text {
			t.Errorf("with %d arguments: LineOk is %v, FormatLine is %q", count, impl.LineOk(x), impl.FormatLine(x))
		}
	}
	many := make([]string, 30)
	for i := range many {
		many[i] = strings.Repeat(string(rune('a'+i%26)), 1+i/26)
	}
	wantNoLine(t, "fun f "+strings.Join(many, " "))
	if impl.LineOk(funLine("f", many...)) {
		t.Error("LineOk is true for 30 arguments")
	}
}

func TestPromise3EqualArguments(t *testing.T) {
	for count := 2; count <= impl.MaxArity; count++ {
		for second := range count {
			for first := range second {
				args := slices.Clone([]string{"a", "b", "c", "d"}[:count])
				args[second] = args[first]
				if impl.LineOk(funLine("f", args...)) || impl.FormatLine(funLine("f", args...)) != "" {
					t.Errorf("the arguments %v are taken", args)
				}
				wantNoLine(t, "fun f "+strings.Join(args, " "))
			}
		}
	}
	wantLine(t, "fun f a aa aaa aaaa", funLine("f", "a", "aa", "aaa", "aaaa"))
}

func TestPromise3FormatLine(t *testing.T) {
	for _, c := range textsOfLines() {
		if got := impl.FormatLine(c.line); got != c.text {
			t.Errorf("FormatLine(%v) = %q, want %q", c.line, got, c.text)
		}
	}
	for _, x := range invalidLines() {
		if got := impl.FormatLine(x); got != "" {
			t.Errorf("FormatLine(%v) = %q", x, got)
		}
	}
}

func TestPromise3ParseLine(t *testing.T) {
	for _, c := range textsOfLines() {
		wantLine(t, c.text, c.line)
	}
}

func TestPromise3ParseLineSpaces(t *testing.T) {
	for _, c := range textsOfLines() {
		for _, text := range []string{" " + c.text, c.text + " ", "  " + c.text, c.text + "\n", c.text + "\r", c.text + "\t", "\n" + c.text, c.text + "\x00"} {
			wantNoLine(t, text)
		}
		words := strings.Split(c.text, " ")
		for i := 1; i < len(words); i++ {
			left, right := strings.Join(words[:i], " "), strings.Join(words[i:], " ")
			for _, between := range []string{"  ", "   ", "\t", "\n", " \t", ",", "\u00a0"} {
				wantNoLine(t, left+between+right)
			}
		}
	}
}

func TestPromise3ParseLineInvalid(t *testing.T) {
	for _, text := range []string{
		"", " ", "\n", "x", "1", "+", "f/1", "fu", "func", "function", "ret", "elseif", "ends", "let x 1", "print 1", "Out 1", "OUT 1", "END", "Else", "else:", "é",
		"fun", "fun F", "fun f1", "fun 1", "fun abcdefghi", "fun f X", "fun f 1", "fun f/1", "fun f x/1", "fun f + 1 2", "fun f abcdefghi", "fun f x,y",
		"set", "set x", "set 1 x", "set 1", "set X 1", "set x 1 2", "set x + 1", "set x = 1", "set x y z", "set abcdefghi 1", "set x -1", "set x 01", "set x 1000",
		"out", "out 1 2", "out +", "out + 1", "out 1 + 2", "out X", "out 1000", "out 007", "out abcdefghi", "out f/1", "out f/5 1 1 1 1 1", "out f/0 1",
		"if", "if 1 2", "if x then", "while", "while < 1", "while x do", "return", "return 1 2", "return f/2 1",
		"else x", "else 1", "else if", "end x", "end 1", "end end", "out1", "setx 1", "outx", "returnx", "endend",
	} {
		wantNoLine(t, text)
	}
}

func TestPromise3ParseLineLong(t *testing.T) {
	wantNoLine(t, strings.Repeat("a", impl.MaxLineLen+1))
	wantNoLine(t, "out x"+strings.Repeat(" ", impl.MaxLineLen))
	wantNoLine(t, strings.Repeat("end ", 100))
	wantNoLine(t, "set x "+strings.Repeat("+ 1 ", 100)+"1")
}

func TestPromise3MaxTokensInLines(t *testing.T) {
	for _, prefix := range []string{"set abcdefgh ", "out ", "if ", "while ", "return "} {
		for length := impl.MaxTokens - 1; length <= impl.MaxTokens+1; length++ {
			var words []string
			for _, tok := range exprOfLength(length) {
				words = append(words, impl.FormatTok(tok))
			}
			text := prefix + strings.Join(words, " ")
			got, ok := impl.ParseLine(text)
			if ok != (length <= impl.MaxTokens) || ok && !slices.Equal(got.Expr, exprOfLength(length)) {
				t.Errorf("ParseLine(%q) = %v, %v", text, got, ok)
			}
		}
	}
}

func TestPromise3LongestLine(t *testing.T) {
	list := slices.Repeat([]impl.Tok{callTok("abcdefgh", 1)}, impl.MaxTokens-1)
	x := setLine("zyxwvuts", append(list, callTok("abcdefgh", 0))...)
	text := "set zyxwvuts " + strings.Repeat("abcdefgh/1 ", impl.MaxTokens-1) + "abcdefgh/0"
	if got := impl.FormatLine(x); got != text {
		t.Errorf("FormatLine = %q, want %q", got, text)
	}
	wantLine(t, text, x)
}

func TestPromise3ParseLineEveryByte(t *testing.T) {
	// With one byte put in or replaced, a text either has no line or exactly the line that is written like this.
	for _, c := range textsOfLines() {
		for at := range len(c.text) {
			for b := range 256 {
				in := string([]byte{byte(b)})
				for _, text := range []string{c.text[:at] + in + c.text[at:], c.text[:at] + in + c.text[at+1:]} {
					x, ok := impl.ParseLine(text)
					if ok && (impl.FormatLine(x) != text || !impl.LineOk(x)) {
						t.Fatalf("ParseLine(%q) = %v", text, x)
					}
					if !ok && !reflect.DeepEqual(plainLine(x), impl.Line{}) {
						t.Fatalf("ParseLine(%q) = %v and false", text, x)
					}
				}
			}
		}
	}
}

// isLine tells by the document's words alone, but without its limits, whether words are those of a line.
func isLine(words []string) bool {
	if len(words) == 0 {
		return false
	}
	rest := words[1:]
	switch words[0] {
	case "else", "end":
		return len(rest) == 0
	case "fun":
		for i, name := range rest {
			if !impl.NameOk(name) || i > 0 && slices.Contains(rest[1:i], name) {
				return false
			}
		}
		return len(rest) > 0
	case "set":
		if len(rest) == 0 || !impl.NameOk(rest[0]) {
			return false
		}
		rest = rest[1:]
	case "out", "if", "while", "return":
	default:
		return false
	}
	_, ok := impl.ParseExpr(rest)
	return ok
}

func TestPromise3ParseLineAllWords(t *testing.T) {
	vocabulary := []string{"fun", "set", "out", "if", "else", "while", "return", "end", "x", "1", "+", "f/1", "X"}
	for _, words := range listsUpTo(vocabulary, 4) {
		text := strings.Join(words, " ")
		x, ok := impl.ParseLine(text)
		if ok != isLine(words) {
			t.Fatalf("ParseLine(%q) = %v, %v", text, x, ok)
		}
		if ok && impl.FormatLine(x) != text {
			t.Fatalf("%q comes back as %q", text, impl.FormatLine(x))
		}
	}
}

// everyLineText is no program that makes sense, but its lines are valid.
func everyLineText() (string, []impl.Line) {
	var text string
	var p []impl.Line
	for _, c := range textsOfLines() {
		text += c.text + "\n"
		p = append(p, c.line)
	}
	return text, p
}

func TestPromise3Program(t *testing.T) {
	text, p := everyLineText()
	if got := impl.FormatProgram(p); got != text {
		t.Errorf("FormatProgram = %q, want %q", got, text)
	}
	if got, ok := impl.ParseProgram(text); !ok || !sameProgram(got, p) {
		t.Errorf("ParseProgram = %v, %v, want %v", got, ok, p)
	}
	for _, c := range textsOfLines() {
		if got := impl.FormatProgram([]impl.Line{c.line}); got != c.text+"\n" {
			t.Errorf("FormatProgram of one line = %q", got)
		}
		if got, ok := impl.ParseProgram(c.text + "\n"); !ok || !sameProgram(got, []impl.Line{c.line}) {
			t.Errorf("ParseProgram(%q) = %v, %v", c.text+"\n", got, ok)
		}
	}
}

func TestPromise3ProgramWithoutLines(t *testing.T) {
	if impl.FormatProgram(nil) != "" || impl.FormatProgram([]impl.Line{}) != "" {
		t.Error("FormatProgram of no lines is not empty")
	}
	if got, ok := impl.ParseProgram(""); !ok || len(got) != 0 {
		t.Errorf("ParseProgram of the empty string = %v, %v", got, ok)
	}
}

func TestPromise3FormatProgramInvalid(t *testing.T) {
	_, p := everyLineText()
	for _, bad := range invalidLines() {
		if got := impl.FormatProgram([]impl.Line{bad}); got != "" {
			t.Errorf("FormatProgram of %v alone = %q", bad, got)
		}
		for at := range p {
			if got := impl.FormatProgram(slices.Concat(p[:at], []impl.Line{bad}, p[at:])); got != "" {
				t.Errorf("FormatProgram with %v as line %d = %q", bad, at, got)
			}
		}
		if got := impl.FormatProgram(append(slices.Clone(p), bad)); got != "" {
			t.Errorf("FormatProgram with %v at the end = %q", bad, got)
		}
	}
}

func TestPromise3ParseProgramInvalid(t *testing.T) {
	text, _ := everyLineText()
	wantNoProgram(t, strings.TrimSuffix(text, "\n"))
	for _, bad := range []string{
		"\n", "\n\n", " ", " \n", "\r\n", "end", "end\nend", "end\n\n", "\nend\n", "end\n\nend\n", "end\r\n", "end\r", "end\rend\n", "end\n ", "end\n \n", "end end\n",
		" end\n", "end \n", "end\n end\n", "end \nend\n", "out  1\n", "out 1 \n", " out 1\n", "end\nout 1  \nend\n", "end\x00\n", "end\n\x00", "end\v\n", "end\u2028", "end;end\n",
		"x\n", "end\nx\n", "x\nend\n", "fun main\nout 1\nend\nstop\n", "fun f x x\n", "fun f a b c d e\n", "out\n", "out\n1\n", "set x\n", "else 1\n", "END\n",
	} {
		wantNoProgram(t, bad)
	}
}

func TestPromise3ParseProgramDamaged(t *testing.T) {
	text, p := everyLineText()
	at := 0
	for k := range p {
		wantNoProgram(t, text[:at]+"\n"+text[at:])
		wantNoProgram(t, text[:at]+" "+text[at:])
		wantNoProgram(t, text[:at]+"stop\n"+text[at:])
		at += len(impl.FormatLine(p[k])) + 1
		wantNoProgram(t, text[:at-1])
		wantNoProgram(t, text[:at-1]+" "+text[at-1:])
		wantNoProgram(t, text[:at-1]+"\r"+text[at-1:])
		if got, ok := impl.ParseProgram(text[:at]); !ok || !sameProgram(got, p[:k+1]) {
			t.Errorf("ParseProgram of %d lines = %v, %v", k+1, got, ok)
		}
	}
}

func TestPromise3MaxLines(t *testing.T) {
	for _, c := range textsOfLines() {
		for count := impl.MaxLines - 1; count <= impl.MaxLines+2; count++ {
			p, text := slices.Repeat([]impl.Line{c.line}, count), strings.Repeat(c.text+"\n", count)
			if count > impl.MaxLines {
				wantNoProgram(t, text)
				text = ""
			} else if got, ok := impl.ParseProgram(text); !ok || !sameProgram(got, p) {
				t.Errorf("ParseProgram of %d lines %q gives %d lines, %v", count, c.text, len(got), ok)
			}
			if got := impl.FormatProgram(p); got != text {
				t.Errorf("FormatProgram of %d lines %q has %d bytes, want %d", count, c.text, len(got), len(text))
			}
		}
	}
	full := strings.Repeat("end\n", impl.MaxLines)
	for _, behind := range []string{"end", "\n", " ", "x\n", " \n"} {
		wantNoProgram(t, full+behind)
	}
	wantNoProgram(t, strings.Repeat("out 1\n", 10000))
}

func TestPromise3SameLine(t *testing.T) {
	list := []impl.Line{{}, endOne, elseOne, {Kind: -1}, {Kind: impl.LineEnd + 1},
		funLine("f"), funLine("g"), funLine("f", "x"), funLine("f", "y"), funLine("f", "x", "y"), funLine("f", "y", "x"), funLine("f", "x", "x"), funLine("f", ""), funLine("", "f"),
		setLine("x", oneTok), setLine("y", oneTok), setLine("x", varTok), setLine("x"), setLine("x", oneTok, oneTok), setLine("x", addTok, oneTok, varTok), setLine("x", addTok, varTok, oneTok),
		setLine("x", impl.Tok{Num: 2}), setLine("x", callTok("f", 1)), setLine("x", callTok("g", 1)), setLine("x", callTok("f", 2)), setLine("x", impl.Tok{}),
		{Kind: impl.LineSet, Name: "x", Args: []string{"x"}, Expr: oneExpr}, exprLine(impl.LineOut, oneTok), exprLine(impl.LineReturn, oneTok),
	}
	for i, a := range list {
		for j, b := range list {
			b.Args, b.Expr = slices.Clone(b.Args), slices.Clone(b.Expr)
			if impl.SameLine(a, b) != (i == j) {
				t.Errorf("SameLine(%v, %v) is %v", a, b, i != j)
			}
		}
	}
}

func TestPromise3SameLineEmptySlices(t *testing.T) {
	withNil := impl.Line{Kind: impl.LineFun, Name: "f"}
	withEmpty := impl.Line{Kind: impl.LineFun, Name: "f", Args: []string{}, Expr: []impl.Tok{}}
	if !impl.SameLine(withNil, withEmpty) || !impl.SameLine(withEmpty, withNil) {
		t.Error("SameLine holds nil and empty slices apart")
	}
	for _, c := range textsOfLines() {
		if !impl.SameLine(mustParseLine(t, c.text), c.line) {
			t.Errorf("SameLine holds %q apart from its line", c.text)
		}
	}
}

func TestPromise3ArgumentsAreKept(t *testing.T) {
	args, list := []string{"x", "y", "z", "spare"}, []impl.Tok{oneTok, varTok, addTok}
	p := []impl.Line{funLine("f", args[:2]...), setLine("x", list[:1]...), endOne, {Kind: 9}}
	for _, x := range p[:3] {
		impl.LineOk(x)
		impl.FormatLine(x)
		impl.SameLine(x, p[0])
	}
	impl.FormatProgram(p[:3])
	if !slices.Equal(args, []string{"x", "y", "z", "spare"}) || !slices.Equal(list, []impl.Tok{oneTok, varTok, addTok}) {
		t.Error("the slices of a line have changed", args, list)
	}
	if !sameProgram(p, []impl.Line{funLine("f", "x", "y"), setLine("x", oneTok), endOne, {Kind: 9}}) {
		t.Error("the lines of a program have changed", p)
	}
}

func TestPromise3ResultsShareNoMemory(t *testing.T) {
	text := "fun f x y\nfun f x y\nset a + 1 x\nset a + 1 x\n"
	first, _ := impl.ParseProgram(text)
	first[0].Args = append(first[0].Args, "z")
	first[0].Args[0] = "q"
	first[2].Expr = append(first[2].Expr, oneTok)
	first[2].Expr[0] = lessTok
	if got := impl.FormatLine(first[1]) + "\n" + impl.FormatLine(first[3]); got != "fun f x y\nset a + 1 x" {
		t.Errorf("two lines share memory: %q", got)
	}
	if second, ok := impl.ParseProgram(text); !ok || impl.FormatProgram(second) != text {
		t.Errorf("two results share memory: %v", second)
	}
}
