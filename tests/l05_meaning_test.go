package tests

import (
	"math"
	"math/rand"
	"slices"
	"strconv"
	"strings"
	"testing"

	"loop.example/g03314/impl"
)

// Promise 5: runs visit lines in order, with the calls around them, up to a limit.

const largestLimit = 1000

// runCase has the text of a program for linesOf, and its visits as visitsText tells them.
type runCase struct {
	text   string
	limit  int
	out    []int
	visits string
	value  int
	code   int
}

// visitsText tells the lines of a visit with > between them, and a space between two visits.
func visitsText(visits [][]int) string {
	var texts []string
	for _, visit := range visits {
		var lines []string
		for _, line := range visit {
			lines = append(lines, strconv.Itoa(line))
		}
		texts = append(texts, strings.Join(lines, ">"))
	}
	return strings.Join(texts, " ")
}

func sameRun(a impl.Run, b impl.Run) bool {
	return slices.Equal(a.Out, b.Out) && slices.EqualFunc(a.Visits, b.Visits, slices.Equal[[]int]) && a.Value == b.Value && a.Code == b.Code
}

// wantRun checks the test's own reading of the document as well.
func wantRun(t *testing.T, c runCase) {
	t.Helper()
	p := linesOf(t, c.text)
	for who, r := range map[string]impl.Run{"Interpret": impl.Interpret(p, c.limit), "the test's own reading": readRun(p, c.limit)} {
		if !slices.Equal(r.Out, c.out) || visitsText(r.Visits) != c.visits || r.Value != c.value || r.Code != c.code {
			t.Errorf("%s of %q up to %d is %v %q %d %d, want %v %q %d %d", who, c.text, c.limit, r.Out, visitsText(r.Visits), r.Value, r.Code, c.out, c.visits, c.value, c.code)
		}
	}
}

// wantDone checks a run that is done long before its limit.
func wantDone(t *testing.T, text string, out []int, visits string, value int) {
	t.Helper()
	wantRun(t, runCase{text, 100, out, visits, value, impl.RunDone})
}

func wantBadRun(t *testing.T, p []impl.Line, limit int) {
	t.Helper()
	if r := impl.Interpret(p, limit); !sameRun(r, impl.Run{Code: impl.RunBad}) {
		t.Errorf("Interpret(%q, %d) = %v, want no run", impl.FormatProgram(p), limit, r)
	}
}

// reading is a second interpreter: it performs a program block by block, and marks a run that ended early instead of leaving it.
type reading struct {
	p     []impl.Line
	ends  []int
	elses []int
	limit int
	ended bool
	run   impl.Run
}

func readRun(p []impl.Line, limit int) impl.Run {
	if !wantProgramOk(p) || limit < 0 || limit > largestLimit {
		return impl.Run{Code: impl.RunBad}
	}
	r := reading{p: p, limit: limit}
	for k := range p {
		r.ends = append(r.ends, wantEndOf(p, k))
		r.elses = append(r.elses, wantElseOf(p, k))
	}
	value, _ := r.block(1, r.ends[0], map[string]int32{}, nil)
	if !r.ended {
		r.run.Value = int(value)
	}
	return r.run
}

func (r *reading) end(code int) {
	r.ended, r.run.Code = true, code
}

// block performs the lines from an index up to another one; it tells what was returned, and whether anything was.
func (r *reading) block(from int, to int, vars map[string]int32, calls []int) (int32, bool) {
	for at := from; at < to && !r.ended; at++ {
		x, value, returned := r.p[at], int32(0), false
		switch x.Kind {
		case impl.LineSet:
			vars[x.Name] = r.ask(at, vars, calls)
		case impl.LineOut:
			if value = r.ask(at, vars, calls); !r.ended {
				r.run.Out = append(r.run.Out, int(value))
			}
		case impl.LineReturn:
			value, returned = r.ask(at, vars, calls), true
		case impl.LineIf:
			value, returned = r.choose(at, vars, calls)
			at = r.ends[at]
		case impl.LineWhile:
			for !returned && r.ask(at, vars, calls) != 0 {
				value, returned = r.block(at+1, r.ends[at], vars, calls)
			}
			at = r.ends[at]
		}
		if returned {
			return value, true
		}
	}
	return 0, false
}

func (r *reading) choose(at int, vars map[string]int32, calls []int) (int32, bool) {
	end, between := r.ends[at], r.elses[at]
	if between < 0 {
		between = end
	}
	if r.ask(at, vars, calls) != 0 {
		return r.block(at+1, between, vars, calls)
	}
	return r.block(between+1, end, vars, calls)
}

// ask visits a line and returns the value of its expression; 0 if the run has ended.
func (r *reading) ask(at int, vars map[string]int32, calls []int) int32 {
	if r.ended {
		return 0
	}
	if len(r.run.Visits) >= r.limit {
		r.end(impl.RunVisits)
		return 0
	}
	visit := slices.Concat(calls, []int{at})
	r.run.Visits = append(r.run.Visits, visit)
	value, _ := r.value(r.p[at].Expr, vars, visit)
	if r.ended {
		return 0
	}
	return value
}

// value takes an expression from the beginning of a list, and returns its value and the rest of the list.
func (r *reading) value(list []impl.Tok, vars map[string]int32, visit []int) (int32, []impl.Tok) {
	t, rest := list[0], list[1:]
	switch t.Kind {
	case impl.TokNumber:
		return int32(t.Num), rest
	case impl.TokVariable:
		return vars[t.Name], rest
	case impl.TokCall:
		operands := make([]int32, t.Num)
		for i := range operands {
			operands[i], rest = r.value(rest, vars, visit)
		}
		return r.call(t.Name, operands, visit), rest
	}
	a, rest := r.value(rest, vars, visit)
	b, rest := r.value(rest, vars, visit)
	holds := map[bool]int32{true: 1}
	return map[int]int32{impl.TokAdd: a + b, impl.TokSub: a - b, impl.TokMul: a * b, impl.TokLess: holds[a < b], impl.TokSame: holds[a == b]}[t.Kind], rest
}

func (r *reading) call(name string, operands []int32, visit []int) int32 {
	underWay := len(visit) - 1
	if !r.ended && underWay == impl.MaxDepth {
		r.end(impl.RunDepth)
	}
	if r.ended {
		return 0
	}
	k := slices.IndexFunc(r.p, func(x impl.Line) bool { return x.Kind == impl.LineFun && x.Name == name })
	vars := map[string]int32{}
	for i, arg := range r.p[k].Args {
		vars[arg] = operands[i]
	}
	value, _ := r.block(k+1, r.ends[k], vars, visit)
	return value
}

func TestPromise5Constants(t *testing.T) {
	if impl.MaxDepth != 6 || impl.RunDone != 0 || impl.RunVisits != 1 || impl.RunDepth != 2 || impl.RunBad != 3 {
		t.Error("a constant differs from the document's")
	}
}

func TestPromise5Order(t *testing.T) {
	wantDone(t, "fun main;end", nil, "", 0)
	wantDone(t, "fun main;out 7;out 0;end", []int{7, 0}, "1 2", 0)
	wantDone(t, "fun main;set a f/1 2;out a;end;fun f x;return * 3 x;end", []int{6}, "1 1>5 2", 0)
	wantDone(t, "fun main;set a 1;set b 2;set a b;set b 3;out a;out b;end", []int{2, 3}, "1 2 3 4 5 6", 0)
	wantDone(t, "fun main;end;fun f;out 1;end", nil, "", 0)
	wantDone(t, "fun main;out f/0;end;fun f;out 4;return g/0;end;fun g;out 8;end", []int{4, 8, 0}, "1 1>4 1>5 1>5>8", 0)
}

func TestPromise5Operators(t *testing.T) {
	wantDone(t, "fun main;out + 3 4;out - 3 4;out * 3 4;out < 3 4;out < 4 3;out < 3 3;out = 3 3;out = 3 4;end", []int{7, -1, 12, 1, 0, 0, 1, 0}, "1 2 3 4 5 6 7 8", 0)
	wantDone(t, "fun main;return - * 2 + 3 4 - 1 < 0 9;end", nil, "1", 14)
	wantDone(t, "fun main;out < - 0 1 0;out = - 1 2 - 0 1;out 999;end", []int{1, 1, 999}, "1 2 3", 0)
}

func TestPromise5WrappedNumbers(t *testing.T) {
	high := "set x 1;set i 31;while i;set x + x x;set i - i 1;end;"
	r := impl.Interpret(linesOf(t, "fun main;"+high+"out x;out - x 1;out + x x;out * x x;out < x 0;out - 0 x;out f/1 - x 1;return - x 2;end;fun f y;return + y 1;end"), 200)
	if !slices.Equal(r.Out, []int{math.MinInt32, math.MaxInt32, 0, 0, 1, math.MinInt32, math.MinInt32}) || r.Value != math.MaxInt32-1 || r.Code != impl.RunDone {
		t.Error("numbers that are doubled up to 2^31", r.Out, r.Value, r.Code)
	}
	want, product := []int{}, int32(1)
	for range 6 {
		product *= 999
		want = append(want, int(product))
	}
	r = impl.Interpret(linesOf(t, "fun main;set x 1;set i 6;while i;set x * x 999;out x;set i - i 1;end;return * * * 999 999 999 999;end"), 100)
	if !slices.Equal(r.Out, want) || r.Value != want[3] {
		t.Error("products", r.Out, r.Value, want)
	}
	// A product that is a multiple of 2^32 is 0 as a condition too.
	wantDone(t, "fun main;set x * 256 256;if * x x;out 1;else;out 2;end;while * x x;out 3;end;end", []int{2}, "1 2 5 7", 0)
}

func TestPromise5Variables(t *testing.T) {
	wantDone(t, "fun main;out x;set x 3;out x;end", []int{0, 3}, "1 2 3", 0)
	wantDone(t, "fun main;set x x;if 0;set y 1;end;out + x y;end", []int{0}, "1 2 5", 0)
	wantDone(t, "fun main;out f/2 7 2;end;fun f a b;return - a b;end", []int{5}, "1 1>4", 0)
	wantDone(t, "fun main;return f/4 1 2 3 4;end;fun f a b c d;return + a * 10 + b * 10 + c * 10 d;end", nil, "1 1>4", 4321)
	wantDone(t, "fun main;set a 4;out f/1 a;out a;end;fun f a;set a + a 1;return a;end", []int{5, 4}, "1 2 2>6 2>7 3", 0)
	wantDone(t, "fun main;out f/0;out f/0;end;fun f;set x + x 1;return x;end", []int{1, 1}, "1 1>5 1>6 2 2>5 2>6", 0)
	wantDone(t, "fun main;set x 5;out f/1 2;out x;end;fun f y;out x;set x y;return x;end", []int{0, 2, 5}, "1 2 2>6 2>7 2>8 3", 0)
	wantDone(t, "fun main;set x f/1 x;set x f/1 x;return + x f/1 x;end;fun f x;return + x 1;end", nil, "1 1>6 2 2>6 3 3>6", 5)
	// Each call of f has an n, an m and a k of its own.
	wantDone(t, "fun main;return f/1 3;end;fun f n;set m n;if n;set k f/1 - n 1;return + * 10 k m;end;return k;end", nil,
		"1 1>4 1>5 1>6 1>6>4 1>6>5 1>6>6 1>6>6>4 1>6>6>5 1>6>6>6 1>6>6>6>4 1>6>6>6>5 1>6>6>6>9 1>6>6>7 1>6>7 1>7", 123)
}

func TestPromise5CallsInOperands(t *testing.T) {
	wantDone(t, "fun main;out - f/1 1 f/1 2;end;fun f x;out x;return * x 10;end", []int{1, 2, -10}, "1 1>4 1>5 1>4 1>5", 0)
	wantDone(t, "fun main;return g/3 f/1 1 f/1 2 f/1 3;end;fun f x;out x;return x;end;fun g a b c;return + c * 10 + b * 10 a;end", []int{1, 2, 3},
		"1 1>4 1>5 1>4 1>5 1>4 1>5 1>8", 123)
	wantDone(t, "fun main;out f/1 + f/1 1 f/1 2;end;fun f x;out x;return * 2 x;end", []int{1, 2, 6, 12}, "1 1>4 1>5 1>4 1>5 1>4 1>5", 0)
	wantDone(t, "fun main;if f/1 0;else;while f/1 0;end;end;set x f/1 3;return + x f/1 4;end;fun f y;out y;return y;end", []int{0, 0, 3, 4},
		"1 1>10 1>11 3 3>10 3>11 6 6>10 6>11 7 7>10 7>11", 7)
	// The operands of a comparison are both evaluated, whatever the first one is.
	wantDone(t, "fun main;out * 0 f/0;out < 5 f/0;out = f/0 f/0;end;fun f;out 1;return 2;end", []int{1, 0, 1, 0, 1, 1, 1}, "1 1>6 1>7 2 2>6 2>7 3 3>6 3>7 3>6 3>7", 0)
}

func TestPromise5If(t *testing.T) {
	for _, c := range []struct {
		condition string
		holds     bool
	}{
		{"0", false}, {"1", true}, {"2", true}, {"999", true}, {"- 0 1", true}, {"- 1 1", false}, {"x", false}, {"* 2 0", false}, {"= 3 3", true}, {"< 3 3", false},
	} {
		alone := "fun main;if " + c.condition + ";out 2;end;out 3;set x 1;end"
		both := "fun main;if " + c.condition + ";out 2;else;out 4;end;out 3;set x 1;end"
		bare := "fun main;if " + c.condition + ";else;end;out 3;set x 1;end"
		if c.holds {
			wantDone(t, alone, []int{2, 3}, "1 2 4 5", 0)
			wantDone(t, both, []int{2, 3}, "1 2 6 7", 0)
		} else {
			wantDone(t, alone, []int{3}, "1 4 5", 0)
			wantDone(t, both, []int{4, 3}, "1 4 6 7", 0)
		}
		wantDone(t, bare, []int{3}, "1 4 5", 0)
	}
}

func TestPromise5IfWithinIf(t *testing.T) {
	within := ";if 0;out 3;else;out 5;end;else;out 8;end;out 10;end"
	wantDone(t, "fun main;if 1"+within, []int{5, 10}, "1 2 5 10", 0)
	wantDone(t, "fun main;if 0"+within, []int{8, 10}, "1 8 10", 0)
	wantDone(t, "fun main;if 0;else;if 1;out 4;else;out 6;end;end;out 9;end", []int{4, 9}, "1 3 4 9", 0)
	wantDone(t, "fun main;if 1;out 2;else;if 1;out 4;else;out 6;end;end;out 9;end", []int{2, 9}, "1 2 10", 0)
	wantDone(t, "fun main;if 0;if 1;else;out 4;end;end;out 7;end", []int{7}, "1 7", 0)
	wantDone(t, "fun main;if 1;while 0;end;else;out 1;end;end", nil, "1 2", 0)
	wantDone(t, "fun main;if 0;while 0;end;else;out 1;end;end", []int{1}, "1 5", 0)
}

func TestPromise5While(t *testing.T) {
	wantDone(t, "fun main;while 0;out 2;end;out 4;end", []int{4}, "1 4", 0)
	wantDone(t, "fun main;set i 3;while i;set i - i 1;out i;end;out 9;end", []int{2, 1, 0, 9}, "1 2 3 4 2 3 4 2 3 4 2 6", 0)
	wantDone(t, "fun main;set i - 0 2;while i;set i + i 1;end;out i;end", []int{0}, "1 2 3 2 3 2 5", 0)
	wantDone(t, "fun main;set i 2;while i;set i - i 1;if i;out 1;else;out 2;end;end;end", []int{1, 2}, "1 2 3 4 5 2 3 4 7 2", 0)
	wantDone(t, "fun main;set i 2;while i;set i - i 1;if 0;end;end;out 7;end", []int{7}, "1 2 3 4 2 3 4 2 7", 0)
	wantDone(t, "fun main;set i 2;while i;set i - i 1;set j 2;while j;set j - j 1;end;end;out 9;end", []int{9}, "1 2 3 4 5 6 5 6 5 2 3 4 5 6 5 6 5 2 9", 0)
	wantDone(t, "fun main;while f/0;end;end;fun f;return 0;end", nil, "1 1>5", 0)
	wantDone(t, "fun main;set i 2;while f/1 i;set i 0;end;end;fun f x;return x;end", nil, "1 2 2>7 3 2 2>7", 0)
	wantRun(t, runCase{"fun main;while 1;end;out 3;end", 4, nil, "1 1 1 1", 0, impl.RunVisits})
	wantRun(t, runCase{"fun main;while 1;out x;set x + x 1;end;end", 8, []int{0, 1, 2}, "1 2 3 1 2 3 1 2", 0, impl.RunVisits})
	wantRun(t, runCase{"fun main;while 1;if f/0;out 3;end;end;end;fun f;return 1;end", 6, []int{3}, "1 2 2>8 3 1 2", 0, impl.RunVisits})
}

func TestPromise5Return(t *testing.T) {
	wantDone(t, "fun main;return 5;out 1;end", nil, "1", 5)
	wantDone(t, "fun main;return - 0 5;end", nil, "1", -5)
	wantDone(t, "fun main;out f/0;out 1;end;fun f;if 1;while 1;return 8;end;end;out 2;end", []int{8, 1}, "1 1>5 1>6 1>7 2", 0)
	wantDone(t, "fun main;if 0;return 1;else;return 2;end;return 3;end", nil, "1 4", 2)
	wantDone(t, "fun main;while 1;out 1;return 7;end;end", []int{1}, "1 2 3", 7)
	wantDone(t, "fun main;set i 3;while i;set i - i 1;if = i 1;return * 10 i;end;end;return 9;end", nil, "1 2 3 4 2 3 4 5", 10)
	wantDone(t, "fun main;while f/0;return 6;end;end;fun f;return 1;return 0;end", nil, "1 1>6 2", 6)
}

func TestPromise5FunctionWithoutReturn(t *testing.T) {
	wantDone(t, "fun main;out f/0;end;fun f;end", []int{0}, "1", 0)
	wantDone(t, "fun main;out f/0;end;fun f;out 3;end", []int{3, 0}, "1 1>4", 0)
	wantDone(t, "fun main;out f/1 5;end;fun f x;set x 7;end", []int{0}, "1 1>4", 0)
	wantDone(t, "fun main;out + f/1 1 f/1 0;end;fun f x;if x;return 4;end;end", []int{4}, "1 1>4 1>5 1>4", 0)
	wantDone(t, "fun main;set x 5;out x;end", []int{5}, "1 2", 0)
}

func TestPromise5Limits(t *testing.T) {
	text := "fun main;out 1;out + f/0 g/0;return 9;end;fun f;out 2;return 3;end;fun g;out 4;return 5;end"
	visits := strings.Fields("1 2 2>6 2>7 2>10 2>11 3")
	out := []int{1, 2, 4, 8}
	for limit, put := range []int{0, 1, 1, 2, 2, 3, 4} {
		wantRun(t, runCase{text, limit, out[:put], strings.Join(visits[:limit], " "), 0, impl.RunVisits})
	}
	for _, limit := range []int{7, 8, 9, largestLimit - 1, largestLimit} {
		wantRun(t, runCase{text, limit, out, strings.Join(visits, " "), 9, impl.RunDone})
	}
	for _, limit := range []int{math.MinInt, -1000, -2, -1, largestLimit + 1, largestLimit + 2, 1 << 32, math.MaxInt} {
		wantRun(t, runCase{text, limit, nil, "", 0, impl.RunBad})
		wantRun(t, runCase{"fun main;end", limit, nil, "", 0, impl.RunBad})
	}
}

func TestPromise5LimitOfZero(t *testing.T) {
	wantRun(t, runCase{"fun main;end", 0, nil, "", 0, impl.RunDone})
	for _, line := range []string{"set x 1", "out 1", "return 1", "out f/0", "if 0;end", "if 1;else;end", "while 0;end"} {
		wantRun(t, runCase{"fun main;" + line + ";end;fun f;end", 0, nil, "", 0, impl.RunVisits})
		wantRun(t, runCase{"fun main;return 4;" + line + ";end;fun f;end", 1, nil, "1", 4, impl.RunDone})
	}
	// The visit of the line is the last one; the call of f needs none.
	wantRun(t, runCase{"fun main;out f/0;end;fun f;end", 1, []int{0}, "1", 0, impl.RunDone})
	wantRun(t, runCase{"fun main;out + 1 f/0;end;fun f;return 2;end", 1, nil, "1", 0, impl.RunVisits})
}

func TestPromise5LargestLimit(t *testing.T) {
	loop := "fun main;set i 499;while i;set i - i 1;end;"
	endless := strings.TrimSpace(strings.Repeat("1 ", largestLimit))
	round := "1" + strings.Repeat(" 2 3", 499) + " 2"
	wantRun(t, runCase{loop + "end", largestLimit, nil, round, 0, impl.RunDone})
	wantRun(t, runCase{loop + "end", largestLimit - 1, nil, strings.TrimSuffix(round, " 2"), 0, impl.RunVisits})
	wantRun(t, runCase{loop + "return 4;end", largestLimit, nil, round, 0, impl.RunVisits})
	wantRun(t, runCase{"fun main;while 1;end;end", largestLimit, nil, endless, 0, impl.RunVisits})
	wantRun(t, runCase{"fun main;while 1;end;end", largestLimit - 1, nil, endless[2:], 0, impl.RunVisits})
}

// wantDepth checks a run that one call too many ends, unless a lower limit ends it before.
func wantDepth(t *testing.T, text string, out []int, visits string) {
	t.Helper()
	count := len(strings.Fields(visits))
	for _, limit := range []int{count, count + 1, largestLimit} {
		wantRun(t, runCase{text, limit, out, visits, 0, impl.RunDepth})
	}
	if r := impl.Interpret(linesOf(t, text), count-1); r.Code != impl.RunVisits || len(r.Visits) != count-1 || r.Value != 0 {
		t.Errorf("Interpret(%q, %d) = %v, want RunVisits", text, count-1, r)
	}
}

func TestPromise5Depth(t *testing.T) {
	// f puts out its argument and calls itself with one less, up to 0.
	body := ";end;fun f x;out x;if x;return + 1 f/1 - x 1;end;end"
	wantDone(t, "fun main;return f/1 1"+body, []int{1, 0}, "1 1>4 1>5 1>6 1>6>4 1>6>5", 1)
	for calls := 1; calls <= impl.MaxDepth+2; calls++ {
		text := "fun main;return f/1 " + strconv.Itoa(calls-1) + body
		var out []int
		visits, around := []string{"1"}, "1"
		for n := calls - 1; n >= 0 && len(out) < impl.MaxDepth; n-- {
			out = append(out, n)
			visits = append(visits, around+">4", around+">5")
			if n > 0 {
				visits = append(visits, around+">6")
			}
			around += ">6"
		}
		if calls <= impl.MaxDepth {
			wantDone(t, text, out, strings.Join(visits, " "), calls-1)
		} else {
			wantDepth(t, text, out, strings.Join(visits, " "))
		}
	}
}

func TestPromise5DepthOfMain(t *testing.T) {
	// main, which is not a call, and six calls of main.
	wantDepth(t, "fun main;out 1;return main/0;end", []int{1, 1, 1, 1, 1, 1, 1},
		"1 2 2>1 2>2 2>2>1 2>2>2 2>2>2>1 2>2>2>2 2>2>2>2>1 2>2>2>2>2 2>2>2>2>2>1 2>2>2>2>2>2 2>2>2>2>2>2>1 2>2>2>2>2>2>2")
	wantDepth(t, "fun main;set x main/0;end", nil, "1 1>1 1>1>1 1>1>1>1 1>1>1>1>1 1>1>1>1>1>1 1>1>1>1>1>1>1")
	wantDepth(t, "fun main;if f/0;end;end;fun f;while main/0;end;end", nil, "1 1>5 1>5>1 1>5>1>5 1>5>1>5>1 1>5>1>5>1>5 1>5>1>5>1>5>1")
}

func TestPromise5DepthThroughOperands(t *testing.T) {
	// A call begins behind its operands: these calls follow one another.
	wantDone(t, "fun main;out f/1 f/1 f/1 f/1 f/1 f/1 f/1 f/1 1;end;fun f x;return + x 1;end", []int{9}, "1 1>4 1>4 1>4 1>4 1>4 1>4 1>4 1>4", 0)
	wantDone(t, "fun main;out + f/0 + f/0 + f/0 + f/0 + f/0 + f/0 + f/0 f/0;end;fun f;return 1;end", []int{8}, "1 1>4 1>4 1>4 1>4 1>4 1>4 1>4 1>4", 0)
	// f is called by itself first, and then calls g through the operands of g.
	deep := ";end;fun f x;if x;return f/1 - x 1;end;out 3;return g/1 g/1 g/1 1;end;fun g y;out y;return * 2 y;end"
	wantDone(t, "fun main;return f/1 4"+deep, []int{3, 1, 2, 4},
		"1 1>4 1>5 1>5>4 1>5>5 1>5>5>4 1>5>5>5 1>5>5>5>4 1>5>5>5>5 1>5>5>5>5>4 1>5>5>5>5>7 1>5>5>5>5>8"+
			strings.Repeat(" 1>5>5>5>5>8>11 1>5>5>5>5>8>12", 3), 8)
	wantDepth(t, "fun main;return f/1 5"+deep, []int{3},
		"1 1>4 1>5 1>5>4 1>5>5 1>5>5>4 1>5>5>5 1>5>5>5>4 1>5>5>5>5 1>5>5>5>5>4 1>5>5>5>5>5 1>5>5>5>5>5>4 1>5>5>5>5>5>7 1>5>5>5>5>5>8")
	// The first operand calls as deep as allowed, the second one deeper; nothing is put out for the line.
	two := ";end;fun f x;if x;return f/1 - x 1;end;out 3;return 1;end"
	wantDone(t, "fun main;out + f/1 0 f/1 1"+two, []int{3, 3, 2}, "1 1>4 1>7 1>8 1>4 1>5 1>5>4 1>5>7 1>5>8", 0)
	wantDepth(t, "fun main;out + f/1 0 f/1 6"+two, []int{3},
		"1 1>4 1>7 1>8 1>4 1>5 1>5>4 1>5>5 1>5>5>4 1>5>5>5 1>5>5>5>4 1>5>5>5>5 1>5>5>5>5>4 1>5>5>5>5>5 1>5>5>5>5>5>4 1>5>5>5>5>5>5")
}

func TestPromise5DepthWithoutVisits(t *testing.T) {
	// A call counts even if it would visit no line.
	text := ";end;fun f x;if x;return f/1 - x 1;end;out 1;out e/0;out 2;end;fun e;end"
	wantDone(t, "fun main;return f/1 4"+text, []int{1, 0, 2},
		"1 1>4 1>5 1>5>4 1>5>5 1>5>5>4 1>5>5>5 1>5>5>5>4 1>5>5>5>5 1>5>5>5>5>4 1>5>5>5>5>7 1>5>5>5>5>8 1>5>5>5>5>9", 0)
	wantDepth(t, "fun main;return f/1 5"+text, []int{1},
		"1 1>4 1>5 1>5>4 1>5>5 1>5>5>4 1>5>5>5 1>5>5>5>4 1>5>5>5>5 1>5>5>5>5>4 1>5>5>5>5>5 1>5>5>5>5>5>4 1>5>5>5>5>5>7 1>5>5>5>5>5>8")
}

// invalidPrograms are lists of lines that ProgramOk rejects.
func invalidPrograms(t *testing.T) [][]impl.Line {
	t.Helper()
	list := [][]impl.Line{{{}}}
	for _, text := range []string{
		"", "end", "out 1", "return 1", "fun f;out 1;end", "fun main x;out x;end", "fun main", "fun main;out 1", "fun main;if 1;end", "fun main;end;end",
		"fun main;out 1;end;out 2", "fun main;fun f;end;end", "fun main;end;fun main;end", "fun main;else;end", "fun main;if 1;else;else;end;end",
		"fun main;while 1;else;end;end", "fun main;out x;end", "fun main;out 1;end;fun f;out x;end", "fun main;out f/0;end", "fun main;out f/0;end;fun f x;end",
		"fun main;if 0;out f/0;end;end", "fun main;return 1;out x;end", "fun main;if 1;if 1;if 1;if 1;if 1;end;end;end;end;end;end",
		"fun main" + strings.Repeat(";out 1", impl.MaxLines-1) + ";end",
	} {
		list = append(list, linesOf(t, text))
	}
	good := linesOf(t, "fun main;set x 1;out x;end")
	for _, bad := range invalidLines() {
		for at := range good {
			replaced := slices.Clone(good)
			replaced[at] = bad
			list = append(list, replaced)
		}
	}
	return append(list, slices.Repeat(good, 2000))
}

func TestPromise5InvalidPrograms(t *testing.T) {
	for _, p := range invalidPrograms(t) {
		for _, limit := range []int{math.MinInt, -1, 0, 1, 60, largestLimit, largestLimit + 1, math.MaxInt} {
			wantBadRun(t, p, limit)
		}
	}
}

func TestPromise5AllShortPrograms(t *testing.T) {
	// Each list of up to five of these lines as the lines of main, which has a function for them to call.
	lines := linesOf(t, "if x;else;while < x 2;out f/1 x;set x + x 1;return x;end")
	rest := linesOf(t, "end;fun f y;if = y 1;out y;return + y 5;end;end")
	ran := 0
	for _, list := range listsUpTo(lines, 5) {
		p := slices.Concat(linesOf(t, "fun main"), list, rest)
		for _, limit := range []int{0, 1, 2, 5, 30} {
			want := readRun(p, limit)
			if got := impl.Interpret(p, limit); !sameRun(got, want) {
				t.Fatalf("Interpret(%q, %d) = %v, want %v", impl.FormatProgram(p), limit, got, want)
			}
			if want.Code != impl.RunBad {
				ran++
			}
		}
	}
	if ran < 1000 {
		t.Error("only", ran, "of the runs have a program")
	}
}

// programMaker writes programs line by line, at random.
type programMaker struct {
	random *rand.Rand
	lines  []string
	arity  []int
	names  []string
}

func madeProgram(seed int64) string {
	m := programMaker{random: rand.New(rand.NewSource(seed)), arity: []int{0}}
	for range m.random.Intn(4) {
		m.arity = append(m.arity, m.random.Intn(impl.MaxArity+1))
	}
	for f, args := range m.arity {
		m.names = strings.Fields("a b c d")[:args]
		m.lines = append(m.lines, strings.Join(append([]string{"fun", functionName(f)}, m.names...), " "))
		m.names = append(slices.Clone(m.names), "x", "y")
		m.block(0, 2+m.random.Intn(4))
		m.lines = append(m.lines, "set x 1", "set y x", "end")
	}
	return strings.Join(m.lines, ";")
}

func functionName(f int) string { return strings.Fields("main f g h k l")[f] }

func (m *programMaker) block(depth int, count int) {
	for range count {
		kind := m.random.Intn(9)
		switch {
		case kind < 3:
			m.lines = append(m.lines, "set "+m.names[m.random.Intn(len(m.names))]+" "+m.expr(3))
		case kind < 5:
			m.lines = append(m.lines, "out "+m.expr(3))
		case kind < 6 && depth > 0:
			m.lines = append(m.lines, "return "+m.expr(2))
		case kind < 7 && depth < 3:
			m.lines = append(m.lines, "while < x "+m.expr(1), "set x + x 1")
			m.block(depth+1, m.random.Intn(3))
			m.lines = append(m.lines, "end")
		case depth < 3:
			m.lines = append(m.lines, "if "+m.expr(2))
			m.block(depth+1, m.random.Intn(3))
			if m.random.Intn(2) == 0 {
				m.lines = append(m.lines, "else")
				m.block(depth+1, m.random.Intn(3))
			}
			m.lines = append(m.lines, "end")
		}
	}
}

func (m *programMaker) expr(depth int) string {
	kind := m.random.Intn(12)
	switch {
	case depth > 0 && kind < 5:
		return "+-*<="[kind:kind+1] + " " + m.expr(depth-1) + " " + m.expr(depth-1)
	case depth > 0 && kind < 7:
		f := m.random.Intn(len(m.arity))
		words := []string{functionName(f) + "/" + strconv.Itoa(m.arity[f])}
		for range m.arity[f] {
			words = append(words, m.expr(depth-2))
		}
		return strings.Join(words, " ")
	case kind < 9:
		return m.names[m.random.Intn(len(m.names))]
	case kind == 9:
		return strconv.Itoa(m.random.Intn(impl.MaxLiteral + 1))
	}
	return strconv.Itoa(m.random.Intn(3))
}

// madePrograms are the programs among those that are made: some have too many lines or tokens.
func madePrograms() [][]impl.Line {
	var programs [][]impl.Line
	for seed := range int64(3000) {
		p, ok := impl.ParseProgram(strings.ReplaceAll(madeProgram(seed), ";", "\n") + "\n")
		if ok && impl.ProgramOk(p) {
			programs = append(programs, p)
		}
	}
	return programs
}

func TestPromise5MadePrograms(t *testing.T) {
	codes := map[int]int{}
	for i, p := range madePrograms() {
		longest := readRun(p, largestLimit)
		count := len(longest.Visits)
		codes[longest.Code]++
		for _, limit := range []int{largestLimit, count, max(count-1, 0), i % (count + 1), min(i, largestLimit) * count / largestLimit} {
			want, got := readRun(p, limit), impl.Interpret(p, limit)
			if !sameRun(got, want) {
				t.Fatalf("Interpret(%q, %d) = %v, want %v", impl.FormatProgram(p), limit, got, want)
			}
		}
	}
	if codes[impl.RunDone] < 100 || codes[impl.RunDepth] < 100 || codes[impl.RunVisits] < 20 || codes[impl.RunBad] > 0 {
		t.Error("the programs that were made end too much alike", codes)
	}
}

func TestPromise5LimitCutsRuns(t *testing.T) {
	// With a lower limit a run begins in the same way.
	for i, p := range madePrograms() {
		whole := impl.Interpret(p, largestLimit)
		if i%20 > 0 || len(whole.Visits) > 60 {
			continue
		}
		for limit := range len(whole.Visits) {
			part := impl.Interpret(p, limit)
			if part.Code != impl.RunVisits || part.Value != 0 || !slices.EqualFunc(part.Visits, whole.Visits[:limit], slices.Equal[[]int]) || !slices.Equal(part.Out, whole.Out[:len(part.Out)]) {
				t.Fatalf("Interpret(%q, %d) = %v, but up to %d it is %v", impl.FormatProgram(p), limit, part, largestLimit, whole)
			}
		}
	}
}

func TestPromise5NoStateBetweenRuns(t *testing.T) {
	p := linesOf(t, "fun main;set x + x 1;out x;return f/1 x;end;fun f y;set z + z y;return z;end")
	q := linesOf(t, "fun main;out 1;return main/0;end")
	first := impl.Interpret(p, 60)
	for _, limit := range []int{0, 2, 60, -1} {
		impl.Interpret(p, limit)
		impl.Interpret(q, limit)
		impl.Interpret(nil, limit)
		if again := impl.Interpret(p, 60); !sameRun(first, again) || again.Code != impl.RunDone {
			t.Error("a run depends on those before", first, again)
		}
	}
}

func TestPromise5ArgumentsAreKept(t *testing.T) {
	args, list := []string{"x", "y", "spare"}, []impl.Tok{callTok("f", 2), varTok, oneTok, addTok}
	lines := []impl.Line{funLine("main"), setLine("x", oneTok), setLine("x", list[:3]...), exprLine(impl.LineOut, list[1:2]...), endOne, funLine("f", args[:2]...), setLine("y", varTok), exprLine(impl.LineReturn, varTok), endOne, {Kind: 9}}
	before := slices.Clone(lines)
	for limit := range 9 {
		if r := impl.Interpret(lines[:9], limit); r.Code == impl.RunBad {
			t.Error("the program is not taken")
		}
	}
	if !sameProgram(lines, before) || !slices.Equal(args, []string{"x", "y", "spare"}) || !slices.Equal(list, []impl.Tok{callTok("f", 2), varTok, oneTok, addTok}) {
		t.Error("the program has changed", lines, args, list)
	}
}

func TestPromise5ResultsShareNoMemory(t *testing.T) {
	p := linesOf(t, "fun main;out f/0;out f/0;end;fun f;out 1;return g/0;end;fun g;out 2;return 3;end")
	want := visitsText(impl.Interpret(p, 60).Visits)
	r := impl.Interpret(p, 60)
	for i, visit := range r.Visits {
		kept := slices.Clone(visit)
		for k, other := range r.Visits {
			if k != i {
				other = other[:cap(other)]
				for n := range other {
					other[n] = -2
				}
			}
		}
		if !slices.Equal(visit, kept) {
			t.Fatal("two visits share memory", visit, kept)
		}
		r = impl.Interpret(p, 60)
	}
	r.Out[0] = 99
	if again := impl.Interpret(p, 60); visitsText(again.Visits) != want || !slices.Equal(again.Out, []int{1, 2, 3, 1, 2, 3}) {
		t.Error("two results share memory", again)
	}
}
