package tests

import (
	"math"
	"math/rand"
	"slices"
	"strconv"
	"strings"
	"testing"

	"loop.example/g03314/impl"
)

// Promise 8: jumps stay inside of functions, and every statement has a start.

// opWords are the words of the codes in the texts of items: load and store are those of the stack.
func opWords() []string {
	return strings.Fields("const loadf storef load store add sub mul less same jump zero call enter leave space return out")
}

// itemText has the word of the instruction and its argument, the lines of the replaced calls and of the item with > between them and a ! for a start, and the depth, or an f within a frame.
func itemText(x impl.Item) string {
	text := "op " + strconv.Itoa(x.Op.Code)
	if impl.OpSize(x.Op.Code) > 0 {
		text = opWords()[x.Op.Code]
	}
	if impl.OpSize(x.Op.Code) != 1 || x.Op.Arg != 0 {
		text += " " + strconv.Itoa(x.Op.Arg)
	}
	text += " @" + visitsText([][]int{slices.Concat(x.Chain, []int{x.Line})})
	if x.Start {
		text += "!"
	}
	if x.Entered && x.Depth == 0 {
		return text + " :f"
	}
	text += " :" + strconv.Itoa(x.Depth)
	if x.Entered {
		text += " entered"
	}
	return text
}

func sameItem(a impl.Item, b impl.Item) bool {
	return a.Op == b.Op && a.Line == b.Line && a.Start == b.Start && slices.Equal(a.Chain, b.Chain) && a.Depth == b.Depth && a.Entered == b.Entered
}

func itemTexts(items []impl.Item) string {
	var texts []string
	for _, x := range items {
		texts = append(texts, itemText(x))
	}
	return strings.Join(texts, "\n")
}

// wantItems checks the test's own reading of the document as well. The items of want are separated by semicolons or line feeds.
func wantItems(t *testing.T, text string, f int, b impl.Build, want string) {
	t.Helper()
	var texts []string
	for _, part := range strings.FieldsFunc(want, func(r rune) bool { return r == ';' || r == '\n' }) {
		if part = strings.TrimSpace(part); part != "" {
			texts = append(texts, part)
		}
	}
	want = strings.Join(texts, "\n")
	p := linesOf(t, text)
	for who, items := range map[string][]impl.Item{"CompileFunction": impl.CompileFunction(p, f, b), "the test's own reading": readItems(p, f, b)} {
		if got := itemTexts(items); got != want {
			t.Errorf("%s of function %d of %q with %v has the items\n%s\nwant\n%s", who, f, text, b, got, want)
		}
	}
}

func wantNoItems(t *testing.T, p []impl.Line, f int, b impl.Build) {
	t.Helper()
	if items := impl.CompileFunction(p, f, b); len(items) != 0 {
		t.Errorf("CompileFunction(%q, %d, %v) = %q, want none", impl.FormatProgram(p), f, b, itemTexts(items))
	}
}

// mark is a place among the items.
type mark struct{ at int }

// spot is where a variable lies: so many words below the return address, or the word with this number above it.
type spot struct {
	argument bool
	n        int
}

// readItem is an item without what depends on the number of words for variables.
type readItem struct {
	item   impl.Item
	to     *mark
	access *spot
	values int
}

// scope is a function that is compiled, or that replaces a call.
type scope struct {
	name   string
	around *scope
	chain  []int
	spots  map[string]spot
	free   int
	back   *mark
}

// compiling is a second compiler: it goes through the blocks of a function, and finds the words, depths and jumps at the end.
type compiling struct {
	p         []impl.Line
	ends      []int
	elses     []int
	build     impl.Build
	numbers   map[string]int
	arguments int
	framed    bool
	words     int
	values    int
	items     []readItem
}

func readItems(p []impl.Line, f int, b impl.Build) []impl.Item {
	if !wantProgramOk(p) || b.Frames < 0 || b.Frames > 63 || b.Inline < 0 || b.Inline > 3 {
		return nil
	}
	c := compiling{build: b, numbers: map[string]int{}}
	var starts []int
	for k, x := range p {
		if b.Fold {
			x.Expr = readFold(x.Expr)
		}
		if x.Kind == impl.LineFun {
			c.numbers[x.Name] = len(starts)
			starts = append(starts, k)
		}
		c.p, c.ends, c.elses = append(c.p, x), append(c.ends, wantEndOf(p, k)), append(c.elses, wantElseOf(p, k))
	}
	if f < 0 || f >= len(starts) {
		return nil
	}
	k := starts[f]
	c.arguments, c.framed = len(p[k].Args), b.Frames&(1<<f) != 0
	s := &scope{name: p[k].Name, spots: map[string]spot{}}
	for j, name := range wantLocalsOf(p, k) {
		s.spots[name] = spot{true, c.arguments - j}
		if j >= c.arguments {
			s.spots[name] = spot{false, s.free}
			s.free++
		}
	}
	c.words = s.free
	first := map[bool]int{false: impl.OpSpace, true: impl.OpEnter}[c.framed]
	c.items = append(c.items, readItem{item: impl.Item{Op: impl.Op{Code: first}, Line: k}})
	c.block(k+1, c.ends[k], s)
	c.add(s, c.ends[k], impl.OpConst, 0, 1)
	c.giveBack(s, c.ends[k])
	return c.finished()
}

// finished fills in what is known at the end.
func (c *compiling) finished() []impl.Item {
	var items []impl.Item
	for i, r := range c.items {
		x := r.item
		x.Entered = c.framed && i > 0
		if !c.framed && i > 0 {
			x.Depth = c.words + r.values
		}
		if i == 0 {
			x.Op.Arg = c.words
		}
		if x.Op.Code == impl.OpReturn {
			x.Op.Arg = c.arguments + 16*c.words
		}
		if r.to != nil {
			x.Op.Arg = r.to.at
		}
		if r.access != nil {
			x.Op.Arg = c.address(*r.access, x.Depth)
		}
		items = append(items, x)
	}
	return items
}

// address counts from the frame address, or from the top of the stack with so many words above the return address.
func (c *compiling) address(v spot, depth int) int {
	switch {
	case c.framed && v.argument:
		return 1 + v.n
	case c.framed:
		return -1 - v.n
	case v.argument:
		return depth + v.n
	}
	return depth - 1 - v.n
}

func (c *compiling) add(s *scope, line int, code int, arg int, pushed int) *readItem {
	c.items = append(c.items, readItem{item: impl.Item{Op: impl.Op{Code: code, Arg: arg}, Line: line, Chain: s.chain}, values: c.values})
	c.values += pushed
	return &c.items[len(c.items)-1]
}

func (c *compiling) addAccess(s *scope, line int, store bool, v spot) {
	code, pushed := impl.OpLoadStack, 1
	if store {
		code, pushed = impl.OpStoreStack, -1
	}
	if c.framed {
		code += impl.OpLoadFrame - impl.OpLoadStack
	}
	c.add(s, line, code, 0, pushed).access = &v
}

func (c *compiling) giveBack(s *scope, line int) {
	switch {
	case s.back != nil:
		c.add(s, line, impl.OpJump, 0, -1).to = s.back
	case c.framed:
		c.add(s, line, impl.OpLeave, c.arguments, -1)
	default:
		c.add(s, line, impl.OpReturn, 0, -1)
	}
}

// ask evaluates the expression of a line, and marks the first item of the visit.
func (c *compiling) ask(at int, s *scope) {
	first := len(c.items)
	c.expr(c.p[at].Expr, at, s, first)
	c.items[first].item.Start = true
}

func (c *compiling) expr(list []impl.Tok, at int, s *scope, first int) []impl.Tok {
	t, rest := list[0], list[1:]
	operands := map[int]int{impl.TokNumber: 0, impl.TokVariable: 0, impl.TokCall: t.Num}
	count, few := operands[t.Kind]
	if !few {
		count = 2
	}
	for range count {
		rest = c.expr(rest, at, s, first)
	}
	switch {
	case t.Kind == impl.TokNumber:
		c.add(s, at, impl.OpConst, t.Num, 1)
	case t.Kind == impl.TokVariable:
		c.addAccess(s, at, false, s.spots[t.Name])
	case t.Kind != impl.TokCall:
		words := map[int]int{impl.TokAdd: impl.OpAdd, impl.TokSub: impl.OpSub, impl.TokMul: impl.OpMul, impl.TokLess: impl.OpLess, impl.TokSame: impl.OpSame}
		c.add(s, at, words[t.Kind], 0, -1)
	case c.replaced(t.Name, s):
		c.replace(t.Name, at, s, first)
	default:
		c.add(s, at, impl.OpCall, c.numbers[t.Name], 1-t.Num)
	}
	return rest
}

func (c *compiling) find(name string) int {
	return slices.IndexFunc(c.p, func(x impl.Line) bool { return x.Kind == impl.LineFun && x.Name == name })
}

func (c *compiling) replaced(name string, s *scope) bool {
	depth := 0
	for inside := s; inside != nil; inside = inside.around {
		if inside.name == name {
			return false
		}
		depth++
	}
	k := c.find(name)
	return depth <= c.build.Inline && c.ends[k] <= k+9 && len(c.items) <= 199
}

func (c *compiling) replace(name string, at int, s *scope, first int) {
	k := c.find(name)
	inner := &scope{name: name, around: s, chain: slices.Concat(s.chain, []int{at}), spots: map[string]spot{}, free: s.free, back: &mark{}}
	names := wantLocalsOf(c.p, k)
	for _, local := range names {
		inner.spots[local] = spot{false, inner.free}
		inner.free++
	}
	c.words = max(c.words, inner.free)
	args := c.p[k].Args
	for j := len(args) - 1; j >= 0; j-- {
		c.addAccess(s, at, true, inner.spots[args[j]])
	}
	for _, local := range names[len(args):] {
		c.add(s, at, impl.OpConst, 0, 1)
		c.addAccess(s, at, true, inner.spots[local])
	}
	if len(c.items) == first {
		c.add(s, at, impl.OpSpace, 0, 0)
	}
	c.block(k+1, c.ends[k], inner)
	c.add(inner, c.ends[k], impl.OpConst, 0, 1)
	inner.back.at = len(c.items)
}

// block compiles the lines from an index up to another one.
func (c *compiling) block(from int, to int, s *scope) {
	for at := from; at < to; at++ {
		switch c.p[at].Kind {
		case impl.LineSet:
			c.ask(at, s)
			c.addAccess(s, at, true, s.spots[c.p[at].Name])
		case impl.LineOut:
			c.ask(at, s)
			c.add(s, at, impl.OpOut, 0, -1)
		case impl.LineReturn:
			c.ask(at, s)
			c.giveBack(s, at)
		case impl.LineIf:
			c.choice(at, s)
			at = c.ends[at]
		case impl.LineWhile:
			top, behind := &mark{len(c.items)}, &mark{}
			c.ask(at, s)
			c.add(s, at, impl.OpZero, 0, -1).to = behind
			c.block(at+1, c.ends[at], s)
			c.add(s, c.ends[at], impl.OpJump, 0, 0).to = top
			at = c.ends[at]
			behind.at = len(c.items)
		}
	}
}

func (c *compiling) choice(at int, s *scope) {
	otherwise, behind, between := &mark{}, &mark{}, c.elses[at]
	c.ask(at, s)
	c.add(s, at, impl.OpZero, 0, -1).to = otherwise
	if between < 0 {
		c.block(at+1, c.ends[at], s)
		otherwise.at = len(c.items)
		return
	}
	c.block(at+1, between, s)
	c.add(s, between, impl.OpJump, 0, 0).to = behind
	otherwise.at = len(c.items)
	c.block(between+1, c.ends[at], s)
	behind.at = len(c.items)
}

// call is a call under way: its return address lies at a place of the stack.
type call struct {
	f     int
	item  int
	place int
	lines []int
}

// performing performs the items of all functions, and checks at each of them that its Depth tells where the return address is.
type performing struct {
	items  [][]impl.Item
	stack  []int
	sp, fp int
	calls  []call
	limit  int
	steps  int
	run    impl.Run
	wrong  string
}

// Runs are not deeper than MaxDepth calls, or one call more that ends them.
const (
	itemStack = 2000
	mostSteps = 1000000
)

// performItems stops when another visit would begin after some visits, with the code RunVisits.
func performItems(items [][]impl.Item, limit int) (impl.Run, string) {
	m := performing{items: items, stack: make([]int, itemStack), sp: itemStack - 1, fp: -1, limit: limit}
	m.calls = []call{{place: m.sp}}
	for len(m.calls) > 0 && m.wrong == "" && m.run.Code == impl.RunDone {
		m.step()
	}
	if len(m.calls) == 0 && m.wrong == "" {
		m.run.Value = m.pop()
		if m.sp != itemStack {
			m.wrong = "words are left on the stack"
		}
	}
	return m.run, m.wrong
}

func (m *performing) push(x int) {
	m.sp--
	m.stack[m.sp] = x
}

func (m *performing) pop() int {
	m.sp++
	return m.stack[m.sp-1]
}

func (m *performing) step() {
	now := &m.calls[len(m.calls)-1]
	m.steps++
	if now.item < 0 || now.item >= len(m.items[now.f]) || m.steps > mostSteps {
		m.wrong = "there is no item " + strconv.Itoa(now.item) + " in function " + strconv.Itoa(now.f)
		return
	}
	x := m.items[now.f][now.item]
	place := m.sp + x.Depth
	if x.Entered {
		place = m.fp + 1
	}
	if place != now.place || x.Entered && x.Depth != 0 {
		m.wrong = "the return address is not where item " + strconv.Itoa(now.item) + " of function " + strconv.Itoa(now.f) + " has it: " + itemText(x)
		return
	}
	lines := slices.Concat(now.lines, x.Chain, []int{x.Line})
	if x.Start {
		if len(m.run.Visits) == m.limit {
			m.run.Code = impl.RunVisits
			return
		}
		m.run.Visits = append(m.run.Visits, lines)
	}
	now.item++
	m.perform(x.Op, now, lines)
}

func (m *performing) perform(x impl.Op, now *call, lines []int) {
	switch x.Code {
	case impl.OpConst:
		m.push(x.Arg)
	case impl.OpLoadFrame:
		m.push(m.stack[m.fp+x.Arg])
	case impl.OpLoadStack:
		m.push(m.stack[m.sp+x.Arg])
	case impl.OpStoreFrame:
		m.stack[m.fp+x.Arg] = m.pop()
	case impl.OpStoreStack:
		address := m.sp + x.Arg
		m.stack[address] = m.pop()
	case impl.OpJump:
		now.item = x.Arg
	case impl.OpZero:
		if m.pop() == 0 {
			now.item = x.Arg
		}
	case impl.OpCall:
		m.push(-1)
		m.calls = append(m.calls, call{f: x.Arg, place: m.sp, lines: lines})
	case impl.OpEnter, impl.OpSpace:
		if x.Code == impl.OpEnter {
			m.push(m.fp)
			m.fp = m.sp
		}
		for range x.Arg {
			m.push(0)
		}
	case impl.OpLeave, impl.OpReturn:
		m.giveBack(x)
	case impl.OpOut:
		m.run.Out = append(m.run.Out, m.pop())
	default:
		b, a := m.pop(), m.pop()
		m.push(impl.Apply(x.Code-impl.OpAdd+impl.TokAdd, a, b))
	}
}

func (m *performing) giveBack(x impl.Op) {
	value, arguments := m.pop(), x.Arg
	if x.Code == impl.OpLeave {
		m.sp = m.fp
		m.fp = m.pop()
	} else {
		m.sp += x.Arg / 16
		arguments = x.Arg % 16
	}
	if m.sp != m.calls[len(m.calls)-1].place {
		m.wrong = "a function does not return to its return address"
	}
	m.sp += 1 + arguments
	m.calls = m.calls[:len(m.calls)-1]
	m.push(value)
}

func functionCount(p []impl.Line) int {
	return len(slices.DeleteFunc(slices.Clone(p), func(x impl.Line) bool { return x.Kind != impl.LineFun }))
}

func compiledFunctions(p []impl.Line, b impl.Build) [][]impl.Item {
	var items [][]impl.Item
	for f := range functionCount(p) {
		items = append(items, impl.CompileFunction(p, f, b))
	}
	return items
}

// wantPromise8 checks what the promise says of the items of all functions of a program.
func wantPromise8(t *testing.T, p []impl.Line, b impl.Build, functions [][]impl.Item) {
	t.Helper()
	started := make([]bool, len(p))
	for f, items := range functions {
		if len(items) < 3 {
			t.Fatalf("function %d of %q with %v has only the items %v", f, impl.FormatProgram(p), b, items)
		}
		for _, x := range items {
			jump := x.Op.Code == impl.OpJump || x.Op.Code == impl.OpZero
			if jump && (x.Op.Arg < 0 || x.Op.Arg >= len(items)) || x.Line < 0 || x.Line >= len(p) || !impl.OpOk(x.Op) {
				t.Fatalf("function %d of %q with %v has the item %s of %d items", f, impl.FormatProgram(p), b, itemText(x), len(items))
			}
			if x.Start && len(x.Chain) == 0 {
				started[x.Line] = true
			}
		}
	}
	for k, x := range p {
		if started[k] != (len(x.Expr) > 0) {
			t.Fatalf("line %d of %q with %v has a start: %v", k, impl.FormatProgram(p), b, started[k])
		}
	}
}

// wantSameItems compares all functions with the test's own reading.
func wantSameItems(t *testing.T, p []impl.Line, b impl.Build, functions [][]impl.Item) {
	t.Helper()
	for f, got := range functions {
		if want := readItems(p, f, b); !slices.EqualFunc(got, want, sameItem) {
			t.Fatalf("CompileFunction(%q, %d, %v) has the items\n%s\nwant\n%s", impl.FormatProgram(p), f, b, itemTexts(got), itemTexts(want))
		}
	}
}

// wantSameMeaning compares what the items put out and visit with a run of the program, and returns its code.
func wantSameMeaning(t *testing.T, p []impl.Line, b impl.Build, functions [][]impl.Item) int {
	t.Helper()
	want := impl.Interpret(p, largestLimit)
	got, wrong := performItems(functions, len(want.Visits))
	same := wrong == "" && slices.EqualFunc(got.Visits, want.Visits, slices.Equal[[]int])
	if want.Code == impl.RunDepth {
		// The items know no such limit, and go on up to the next visit.
		same = same && len(got.Out) >= len(want.Out) && slices.Equal(got.Out[:len(want.Out)], want.Out)
	} else {
		same = same && sameRun(got, want)
	}
	if !same {
		t.Fatalf("the items of %q with %v: %s %v, want %v", impl.FormatProgram(p), b, wrong, got, want)
	}
	return want.Code
}

// wantCompiled checks everything about a program and a build.
func wantCompiled(t *testing.T, p []impl.Line, b impl.Build) int {
	t.Helper()
	functions := compiledFunctions(p, b)
	wantPromise8(t, p, b, functions)
	wantSameItems(t, p, b, functions)
	return wantSameMeaning(t, p, b, functions)
}

// fewBuilds has each number of replaced calls, with no frame, with all of them, and with some.
func fewBuilds() []impl.Build {
	var builds []impl.Build
	for inline := range impl.MaxInline + 1 {
		for i, frames := range []int{0, 63, 42, 21} {
			builds = append(builds, impl.Build{Frames: frames, Inline: inline, Fold: (inline+i)%2 == 0, Split: i > 1})
		}
	}
	return builds
}

func TestPromise8Constants(t *testing.T) {
	if impl.MaxInline != 3 || impl.InlineLines != 9 || impl.InlineItems != 200 {
		t.Error("a constant differs from the document's")
	}
}

func TestPromise8BuildOk(t *testing.T) {
	for frames := -3; frames <= 70; frames++ {
		for inline := -2; inline <= 6; inline++ {
			for i := range 4 {
				b := impl.Build{Frames: frames, Inline: inline, Fold: i&1 > 0, Split: i&2 > 0}
				if got, want := impl.BuildOk(b), frames >= 0 && frames <= 63 && inline >= 0 && inline <= 3; got != want {
					t.Errorf("BuildOk(%v) = %v, want %v", b, got, want)
				}
			}
		}
	}
	for _, n := range []int{math.MinInt, math.MinInt + 1, -64, -63, 127, 128, 256, 1 << 32, 1<<32 + 1, math.MaxInt} {
		for _, b := range []impl.Build{{Frames: n}, {Inline: n}, {Frames: n, Inline: n}, {Frames: 63, Inline: n}, {Frames: n, Inline: 3}} {
			if impl.BuildOk(b) {
				t.Errorf("BuildOk(%v) = true, want false", b)
			}
		}
	}
}

func TestPromise8VariableWords(t *testing.T) {
	for code := -2; code <= 20; code++ {
		for _, arg := range []int{0, 1, 7, 255, 256, -1, -5, math.MaxInt, math.MinInt} {
			want := -1
			if code == impl.OpEnter || code == impl.OpSpace {
				want = arg
			}
			x := impl.Item{Op: impl.Op{Code: code, Arg: arg}, Line: 3, Start: true, Chain: []int{9}, Depth: 2}
			for _, second := range []int{impl.OpEnter, impl.OpSpace, impl.OpConst} {
				behind := impl.Item{Op: impl.Op{Code: second, Arg: 77}}
				if got := impl.VariableWords([]impl.Item{x, behind}); got != want {
					t.Errorf("VariableWords of %s and %s = %d, want %d", itemText(x), itemText(behind), got, want)
				}
			}
			if got := impl.VariableWords([]impl.Item{x}); got != want {
				t.Errorf("VariableWords of %s = %d, want %d", itemText(x), got, want)
			}
		}
	}
	if impl.VariableWords(nil) != -1 || impl.VariableWords([]impl.Item{}) != -1 {
		t.Error("VariableWords of no items is not -1")
	}
}

func TestPromise8ShortestFunction(t *testing.T) {
	wantItems(t, "fun main;end", 0, impl.Build{}, "space 0 @0 :0; const 0 @1 :0; return 0 @1 :1")
	wantItems(t, "fun main;end", 0, impl.Build{Frames: 1}, "enter 0 @0 :0; const 0 @1 :f; leave 0 @1 :f")
	wantItems(t, "fun main;end;fun f a b c d;end", 1, impl.Build{}, "space 0 @2 :0; const 0 @3 :0; return 4 @3 :1")
	wantItems(t, "fun main;end;fun f a b c d;end", 1, impl.Build{Frames: 2}, "enter 0 @2 :0; const 0 @3 :f; leave 4 @3 :f")
}

func TestPromise8LinesAndOperators(t *testing.T) {
	text := "fun main;set a 1;set b - a 2;out * a + b 999;return = < b a a;end"
	wantItems(t, text, 0, impl.Build{}, `space 2 @0 :0
		const 1 @1! :2; store 2 @1 :3
		load 1 @2! :2; const 2 @2 :3; sub @2 :4; store 1 @2 :3
		load 1 @3! :2; load 1 @3 :3; const 999 @3 :4; add @3 :5; mul @3 :4; out @3 :3
		load 0 @4! :2; load 2 @4 :3; less @4 :4; load 2 @4 :3; same @4 :4; return 32 @4 :3
		const 0 @5 :2; return 32 @5 :3`)
	wantItems(t, text, 0, impl.Build{Frames: 1}, `enter 2 @0 :0
		const 1 @1! :f; storef -1 @1 :f
		loadf -1 @2! :f; const 2 @2 :f; sub @2 :f; storef -2 @2 :f
		loadf -1 @3! :f; loadf -2 @3 :f; const 999 @3 :f; add @3 :f; mul @3 :f; out @3 :f
		loadf -2 @4! :f; loadf -1 @4 :f; less @4 :f; loadf -1 @4 :f; same @4 :f; leave 0 @4 :f
		const 0 @5 :f; leave 0 @5 :f`)
}

func TestPromise8Arguments(t *testing.T) {
	text := "fun main;return f/4 1 2 3 4;end;fun f a b c d;set e + a d;set b c;return e;end"
	wantItems(t, text, 0, impl.Build{}, "space 0 @0 :0; const 1 @1! :0; const 2 @1 :1; const 3 @1 :2; const 4 @1 :3; call 1 @1 :4; return 0 @1 :1; const 0 @2 :0; return 0 @2 :1")
	wantItems(t, text, 1, impl.Build{}, `space 1 @3 :0
		load 5 @4! :1; load 3 @4 :2; add @4 :3; store 1 @4 :2
		load 3 @5! :1; store 5 @5 :2
		load 0 @6! :1; return 20 @6 :2
		const 0 @7 :1; return 20 @7 :2`)
	wantItems(t, text, 1, impl.Build{Frames: 2}, `enter 1 @3 :0
		loadf 5 @4! :f; loadf 2 @4 :f; add @4 :f; storef -1 @4 :f
		loadf 3 @5! :f; storef 4 @5 :f
		loadf -1 @6! :f; leave 4 @6 :f
		const 0 @7 :f; leave 4 @7 :f`)
}

func TestPromise8EachFrame(t *testing.T) {
	text := "fun main;out f/1 1;end;fun f x;return x;end;fun g x;return x;end;fun h x;return x;end;fun k x;return x;end;fun l x;return x;end"
	p := linesOf(t, text)
	for frames := range 64 {
		for f := range 6 {
			items := impl.CompileFunction(p, f, impl.Build{Frames: frames})
			code, back, entered := impl.OpSpace, impl.OpReturn, false
			if frames>>f%2 == 1 {
				code, back, entered = impl.OpEnter, impl.OpLeave, true
			}
			last := items[len(items)-1]
			if items[0].Op.Code != code || items[0].Entered || last.Op.Code != back || last.Entered != entered {
				t.Errorf("function %d with the frames %d has the items %q", f, frames, itemTexts(items))
			}
		}
		wantCompiled(t, p, impl.Build{Frames: frames})
		wantCompiled(t, p, impl.Build{Frames: frames, Inline: 1})
	}
}

func TestPromise8If(t *testing.T) {
	wantItems(t, "fun main;if 1;out 2;else;out 3;end;out 4;end", 0, impl.Build{}, `space 0 @0 :0
		const 1 @1! :0; zero 6 @1 :1; const 2 @2! :0; out @2 :1; jump 8 @3 :0
		const 3 @4! :0; out @4 :1
		const 4 @6! :0; out @6 :1; const 0 @7 :0; return 0 @7 :1`)
	wantItems(t, "fun main;if 1;out 2;end;end", 0, impl.Build{}, "space 0 @0 :0; const 1 @1! :0; zero 5 @1 :1; const 2 @2! :0; out @2 :1; const 0 @4 :0; return 0 @4 :1")
	wantItems(t, "fun main;if 1;out 2;end;end", 0, impl.Build{Frames: 1}, "enter 0 @0 :0; const 1 @1! :f; zero 5 @1 :f; const 2 @2! :f; out @2 :f; const 0 @4 :f; leave 0 @4 :f")
}

func TestPromise8While(t *testing.T) {
	wantItems(t, "fun main;while < x 3;set x + x 1;end;out 2;end", 0, impl.Build{}, `space 1 @0 :0
		load 0 @1! :1; const 3 @1 :2; less @1 :3; zero 10 @1 :2
		load 0 @2! :1; const 1 @2 :2; add @2 :3; store 1 @2 :2; jump 1 @3 :1
		const 2 @4! :1; out @4 :2; const 0 @5 :1; return 16 @5 :2`)
	wantItems(t, "fun main;while 1;out 2;end;end", 0, impl.Build{Frames: 1}, "enter 0 @0 :0; const 1 @1! :f; zero 6 @1 :f; const 2 @2! :f; out @2 :f; jump 1 @3 :f; const 0 @4 :f; leave 0 @4 :f")
}

func TestPromise8Blocks(t *testing.T) {
	wantItems(t, "fun main;if 1;end;if 1;else;end;while 1;end;end", 0, impl.Build{}, `space 0 @0 :0
		const 1 @1! :0; zero 3 @1 :1
		const 1 @3! :0; zero 6 @3 :1; jump 6 @4 :0
		const 1 @6! :0; zero 9 @6 :1; jump 6 @7 :0
		const 0 @8 :0; return 0 @8 :1`)
	wantItems(t, "fun main;while x;if x;set x 1;else;while x;end;end;end;end", 0, impl.Build{}, `space 1 @0 :0
		load 0 @1! :1; zero 12 @1 :2
		load 0 @2! :1; zero 8 @2 :2; const 1 @3! :1; store 1 @3 :2; jump 11 @4 :1
		load 0 @5! :1; zero 11 @5 :2; jump 8 @6 :1
		jump 1 @8 :1
		const 0 @9 :1; return 16 @9 :2`)
	wantItems(t, "fun main;if 1;if 2;out 3;end;else;if 4;else;if 5;end;end;end;end", 0, impl.Build{}, `space 0 @0 :0
		const 1 @1! :0; zero 8 @1 :1; const 2 @2! :0; zero 7 @2 :1; const 3 @3! :0; out @3 :1; jump 13 @5 :0
		const 4 @6! :0; zero 11 @6 :1; jump 13 @7 :0
		const 5 @8! :0; zero 13 @8 :1
		const 0 @12 :0; return 0 @12 :1`)
}

func TestPromise8Return(t *testing.T) {
	wantItems(t, "fun main;return 1;out 2;if 3;return 4;end;return 5;end", 0, impl.Build{}, `space 0 @0 :0
		const 1 @1! :0; return 0 @1 :1; const 2 @2! :0; out @2 :1
		const 3 @3! :0; zero 9 @3 :1; const 4 @4! :0; return 0 @4 :1
		const 5 @6! :0; return 0 @6 :1; const 0 @7 :0; return 0 @7 :1`)
	text := "fun main;out + 9 f/1 3;end;fun f x;if x;return 1;return 2;end;while x;return x;end;return 3;end"
	wantItems(t, text, 0, impl.Build{Inline: 1}, `space 1 @0 :0
		const 9 @1! :1; const 3 @1 :2; store 2 @1 :3
		load 1 @1>4! :2; zero 10 @1>4 :3
		const 1 @1>5! :2; jump 18 @1>5 :3; const 2 @1>6! :2; jump 18 @1>6 :3
		load 1 @1>8! :2; zero 15 @1>8 :3; load 1 @1>9! :2; jump 18 @1>9 :3; jump 10 @1>10 :2
		const 3 @1>11! :2; jump 18 @1>11 :3; const 0 @1>12 :2
		add @1 :3; out @1 :2; const 0 @2 :1; return 16 @2 :2`)
	wantItems(t, text, 1, impl.Build{Frames: 2}, `enter 0 @3 :0
		loadf 2 @4! :f; zero 7 @4 :f; const 1 @5! :f; leave 1 @5 :f; const 2 @6! :f; leave 1 @6 :f
		loadf 2 @8! :f; zero 12 @8 :f; loadf 2 @9! :f; leave 1 @9 :f; jump 7 @10 :f
		const 3 @11! :f; leave 1 @11 :f; const 0 @12 :f; leave 1 @12 :f`)
}

const operandCalls = "fun main;return f/2 g/0 f/2 1 g/0;end;fun f x y;return x;end;fun g;return 2;end"

func TestPromise8CallsInOperands(t *testing.T) {
	wantItems(t, operandCalls, 0, impl.Build{}, `space 0 @0 :0
		call 2 @1! :0; const 1 @1 :1; call 2 @1 :2; call 1 @1 :3; call 1 @1 :2; return 0 @1 :1
		const 0 @2 :0; return 0 @2 :1`)
	wantItems(t, "fun main;out + g/0 f/2 g/0 - g/0 1;end;fun f x y;return x;end;fun g;return 2;end", 0, impl.Build{}, `space 0 @0 :0
		call 2 @1! :0; call 2 @1 :1; call 2 @1 :2; const 1 @1 :3; sub @1 :4; call 1 @1 :3; add @1 :2; out @1 :1
		const 0 @2 :0; return 0 @2 :1`)
	// One behind the other, replacements have the same words; the first one has an OpSpace, since its visit has no item by then.
	wantItems(t, operandCalls, 0, impl.Build{Inline: 1}, `space 2 @0 :0; space 0 @1! :2
		const 2 @1>7! :2; jump 5 @1>7 :3; const 0 @1>8 :2
		const 1 @1 :3
		const 2 @1>7! :4; jump 9 @1>7 :5; const 0 @1>8 :4
		store 3 @1 :5; store 3 @1 :4
		load 2 @1>4! :3; jump 14 @1>4 :4; const 0 @1>5 :3
		store 2 @1 :4; store 2 @1 :3
		load 1 @1>4! :2; jump 19 @1>4 :3; const 0 @1>5 :2
		return 32 @1 :3; const 0 @2 :2; return 32 @2 :3`)
	wantItems(t, operandCalls, 0, impl.Build{Inline: 1, Frames: 1}, `enter 2 @0 :0; space 0 @1! :f
		const 2 @1>7! :f; jump 5 @1>7 :f; const 0 @1>8 :f
		const 1 @1 :f
		const 2 @1>7! :f; jump 9 @1>7 :f; const 0 @1>8 :f
		storef -2 @1 :f; storef -1 @1 :f
		loadf -1 @1>4! :f; jump 14 @1>4 :f; const 0 @1>5 :f
		storef -2 @1 :f; storef -1 @1 :f
		loadf -1 @1>4! :f; jump 19 @1>4 :f; const 0 @1>5 :f
		leave 0 @1 :f; const 0 @2 :f; leave 0 @2 :f`)
}

const nestedCalls = "fun main;set a 1;return f/1 a;end;fun f x;set y + x 1;return g/1 y;end;fun g x;set z x;return h/0;end;fun h;return k/0;end;fun k;return 7;end"

func TestPromise8ReplacedWithinReplaced(t *testing.T) {
	wantItems(t, nestedCalls, 0, impl.Build{}, "space 1 @0 :0; const 1 @1! :1; store 1 @1 :2; load 0 @2! :1; call 1 @2 :2; return 16 @2 :2; const 0 @3 :1; return 16 @3 :2")
	wantItems(t, nestedCalls, 0, impl.Build{Inline: 1}, `space 3 @0 :0
		const 1 @1! :3; store 3 @1 :4
		load 2 @2! :3; store 2 @2 :4; const 0 @2 :3; store 1 @2 :4
		load 1 @2>5! :3; const 1 @2>5 :4; add @2>5 :5; store 1 @2>5 :4
		load 0 @2>6! :3; call 2 @2>6 :4; jump 15 @2>6 :4; const 0 @2>7 :3
		return 48 @2 :4; const 0 @3 :3; return 48 @3 :4`)
	three := `const 1 @1! :5; store 5 @1 :6
		load 4 @2! :5; store 4 @2 :6; const 0 @2 :5; store 3 @2 :6
		load 3 @2>5! :5; const 1 @2>5 :6; add @2>5 :7; store 3 @2>5 :6
		load 2 @2>6! :5; store 2 @2>6 :6; const 0 @2>6 :5; store 1 @2>6 :6
		load 1 @2>6>9! :5; store 1 @2>6>9 :6;`
	wantItems(t, nestedCalls, 0, impl.Build{Inline: 2}, "space 5 @0 :0;"+three+`
		call 3 @2>6>10! :5; jump 20 @2>6>10 :6; const 0 @2>6>11 :5
		jump 22 @2>6 :6; const 0 @2>7 :5
		return 80 @2 :6; const 0 @3 :5; return 80 @3 :6`)
	// The function h has no variables, and its call no item before; the fourth call is not replaced any more.
	wantItems(t, nestedCalls, 0, impl.Build{Inline: 3}, "space 5 @0 :0;"+three+`
		space 0 @2>6>10! :5; call 4 @2>6>10>13! :5; jump 21 @2>6>10>13 :6; const 0 @2>6>10>14 :5
		jump 23 @2>6>10 :6; const 0 @2>6>11 :5
		jump 25 @2>6 :6; const 0 @2>7 :5
		return 80 @2 :6; const 0 @3 :5; return 80 @3 :6`)
	wantItems(t, nestedCalls, 2, impl.Build{Inline: 3, Frames: 4}, `enter 1 @8 :0
		loadf 2 @9! :f; storef -1 @9 :f
		space 0 @10! :f; space 0 @10>13! :f; const 7 @10>13>16! :f; jump 8 @10>13>16 :f; const 0 @10>13>17 :f
		jump 10 @10>13 :f; const 0 @10>14 :f
		leave 1 @10 :f; const 0 @11 :f; leave 1 @11 :f`)
}

func TestPromise8NotReplacedByItself(t *testing.T) {
	text := "fun main;out f/0;end;fun f;return + f/0 g/0;end;fun g;out main/0;return f/0;end"
	wantItems(t, text, 1, impl.Build{Inline: 3}, `space 0 @3 :0
		call 1 @4! :0
		space 0 @4>7! :1; call 1 @4>7>1! :1; out @4>7>1 :2; const 0 @4>7>2 :1; out @4>7 :2
		call 1 @4>8! :1; jump 10 @4>8 :2; const 0 @4>9 :1
		add @4 :2; return 0 @4 :1; const 0 @5 :0; return 0 @5 :1`)
	wantItems(t, text, 0, impl.Build{Inline: 3}, `space 0 @0 :0
		space 0 @1! :0
		call 1 @1>4! :0
		call 0 @1>4>7! :1; out @1>4>7 :2; call 1 @1>4>8! :1; jump 8 @1>4>8 :2; const 0 @1>4>9 :1
		add @1>4 :2; jump 11 @1>4 :1; const 0 @1>5 :0
		out @1 :1; const 0 @2 :0; return 0 @2 :1`)
	// Behind its replacement, and in the operands of its call, a function can be replaced again.
	wantItems(t, "fun main;out f/1 f/1 2;return f/1 3;end;fun f x;return x;end", 0, impl.Build{Inline: 1}, `space 1 @0 :0
		const 2 @1! :1; store 1 @1 :2; load 0 @1>5! :1; jump 6 @1>5 :2; const 0 @1>6 :1
		store 1 @1 :2; load 0 @1>5! :1; jump 10 @1>5 :2; const 0 @1>6 :1
		out @1 :2
		const 3 @2! :1; store 1 @2 :2; load 0 @2>5! :1; jump 16 @2>5 :2; const 0 @2>6 :1
		return 16 @2 :2; const 0 @3 :1; return 16 @3 :2`)
}

// chained counts the items with so many replaced calls around them.
func chained(items []impl.Item, calls int) int {
	count := 0
	for _, x := range items {
		if len(x.Chain) == calls {
			count++
		}
	}
	return count
}

func TestPromise8ReplacedUpToInline(t *testing.T) {
	// The calls of a chain of five functions, beginning in main.
	p := linesOf(t, "fun main;out f/0;end;fun f;out g/0;end;fun g;out h/0;end;fun h;out k/0;end;fun k;out l/0;end;fun l;out 6;end")
	for inline := range impl.MaxInline + 1 {
		for f := range 6 {
			items := impl.CompileFunction(p, f, impl.Build{Inline: inline})
			deepest := min(inline, 5-f)
			for calls := range impl.MaxInline + 3 {
				if count := chained(items, calls); (count > 0) != (calls <= deepest) {
					t.Errorf("function %d with %d replaced calls has the items %q", f, inline, itemTexts(items))
				}
			}
		}
		wantCompiled(t, p, impl.Build{Inline: inline})
		wantCompiled(t, p, impl.Build{Inline: inline, Frames: 63})
	}
}

func TestPromise8InlineLines(t *testing.T) {
	for between := range 14 {
		for _, b := range []impl.Build{{Inline: 1}, {Inline: 3, Frames: 1}} {
			p := linesOf(t, "fun main;out f/1 4;end;fun f x"+strings.Repeat(";out x", between)+";end")
			items := impl.CompileFunction(p, 0, b)
			// The LineEnd is one line more behind the LineFun.
			if replaced := chained(items, 1) > 0; replaced != (between+1 <= 9) {
				t.Errorf("with %d lines between, function 0 has the items %q", between, itemTexts(items))
			}
			wantCompiled(t, p, b)
		}
	}
}

// fillers are lines with some items altogether.
func fillers(items int) string {
	text := ""
	if items%2 == 1 {
		text, items = ";while 0;end", items-3
	}
	for ; items >= 20; items -= 20 {
		text += ";out " + strings.Repeat("+ 1 ", 9) + "1"
	}
	for ; items > 0; items -= 2 {
		text += ";out 1"
	}
	return text
}

func TestPromise8InlineItems(t *testing.T) {
	for before := 190; before <= 210; before++ {
		for _, b := range []impl.Build{{Inline: 1}, {Inline: 3, Frames: 3}} {
			// The first item is an OpEnter or OpSpace.
			replaced := before < 200
			for _, text := range []string{
				"fun main" + fillers(before-1) + ";out f/0;end;fun f;return 1;end",
				"fun main" + fillers(before-1-7) + ";out g/1 + + + 1 1 1 1;end;fun g x;return 1;end",
				"fun main" + fillers(before-1-2) + ";out + 7 * 8 f/0;end;fun f;return 1;end",
			} {
				p := linesOf(t, text)
				items := impl.CompileFunction(p, 0, b)
				if len(items) <= before || (chained(items, 1) > 0) != replaced || (items[before].Op.Code == impl.OpCall) == replaced {
					t.Errorf("%d items before a call, the function has the items %q", before, itemTexts(items))
				}
				wantCompiled(t, p, b)
			}
		}
	}
}

func TestPromise8InlineItemsOfReplacements(t *testing.T) {
	for before := 180; before <= 200; before++ {
		for _, b := range []impl.Build{{Inline: 3}, {Inline: 3, Frames: 1}} {
			// A replacement of f has a store and four items of its own, and a replacement of g an OpSpace and the call of f before that.
			p := linesOf(t, "fun main"+fillers(before-1)+";out g/0;out f/1 2;end;fun f x;return x;end;fun g;return + f/1 1 f/1 1;end")
			items := impl.CompileFunction(p, 0, b)
			store := []int{impl.OpStoreStack, impl.OpStoreFrame}[b.Frames]
			code := map[bool]int{true: impl.OpCall, false: store}
			// Before the call of g; in it an OpSpace and the operand of f; then store, load, jump and const, and the next operand.
			first, second := before+2, before+7
			if before < 200 && items[first].Op.Code != code[first >= 200] {
				t.Errorf("%d items before, the first call in g has the items %q", before, itemTexts(items))
			}
			if first < 200 && items[second].Op.Code != code[second >= 200] {
				t.Errorf("%d items before, the second call in g has the items %q", before, itemTexts(items))
			}
			wantCompiled(t, p, b)
		}
	}
}

func TestPromise8SpaceForVisit(t *testing.T) {
	rest := ";end;fun e;end;fun f;set x 1;end;fun g y;end"
	for _, c := range []struct {
		line  string
		items string
	}{
		// A function without variables needs it, but only as the first thing of a visit.
		{"out e/0", "space 1 @0 :0; space 0 @1! :1; const 0 @1>4 :1; out @1 :2"},
		{"out + e/0 e/0", "space 1 @0 :0; space 0 @1! :1; const 0 @1>4 :1; const 0 @1>4 :2; add @1 :3; out @1 :2"},
		{"out + 5 e/0", "space 1 @0 :0; const 5 @1! :1; const 0 @1>4 :2; add @1 :3; out @1 :2"},
		// One with a variable sets this to 0 first, and an argument is stored.
		{"out f/0", "space 1 @0 :0; const 0 @1! :1; store 1 @1 :2; const 1 @1>6! :1; store 1 @1>6 :2; const 0 @1>7 :1; out @1 :2"},
		{"out g/1 5", "space 1 @0 :0; const 5 @1! :1; store 1 @1 :2; const 0 @1>9 :1; out @1 :2"},
		{"out g/1 e/0", "space 1 @0 :0; space 0 @1! :1; const 0 @1>4 :1; store 1 @1 :2; const 0 @1>9 :1; out @1 :2"},
		{"out f/0;out e/0", "space 1 @0 :0; const 0 @1! :1; store 1 @1 :2; const 1 @1>7! :1; store 1 @1>7 :2; const 0 @1>8 :1; out @1 :2; space 0 @2! :1; const 0 @2>5 :1; out @2 :2"},
	} {
		last := strings.Count(c.line, ";") + 2
		end := "; const 0 @" + strconv.Itoa(last) + " :1; return 16 @" + strconv.Itoa(last) + " :2"
		items := c.items
		if !strings.ContainsAny(c.line, "fg") {
			// There is no word for variables then.
			items = strings.NewReplacer("space 1", "space 0", ":1", ":0", ":2", ":1", ":3", ":2").Replace(items)
			end = "; const 0 @" + strconv.Itoa(last) + " :0; return 0 @" + strconv.Itoa(last) + " :1"
		}
		wantItems(t, "fun main;"+c.line+rest, 0, impl.Build{Inline: 1}, items+end)
	}
	wantItems(t, "fun main;while e/0;end;end;fun e;end", 0, impl.Build{Inline: 1, Frames: 1},
		"enter 0 @0 :0; space 0 @1! :f; const 0 @1>5 :f; zero 5 @1 :f; jump 1 @2 :f; const 0 @3 :f; leave 0 @3 :f")
}

func TestPromise8Words(t *testing.T) {
	rest := ";end;fun f x;set y x;return y;end;fun g a b c;set d f/1 a;return d;end;fun h;return g/3 f/1 1 2 3;end"
	for _, c := range []struct {
		lines string
		want  [4]int
	}{
		{"out 1", [4]int{0, 0, 0, 0}},
		{"set a 1;set b 2;set a 3", [4]int{2, 2, 2, 2}},
		// One behind the other they have the same words.
		{"out f/1 1;out f/1 2", [4]int{0, 2, 2, 2}},
		{"out + f/1 1 f/1 2", [4]int{0, 2, 2, 2}},
		{"out f/1 f/1 f/1 2", [4]int{0, 2, 2, 2}},
		{"set a f/1 f/1 f/1 2", [4]int{1, 3, 3, 3}},
		{"out f/1 1;out g/3 1 2 3", [4]int{0, 4, 6, 6}},
		{"out g/3 1 2 3;out f/1 1", [4]int{0, 4, 6, 6}},
		{"out g/3 f/1 1 f/1 2 g/3 3 4 5", [4]int{0, 4, 6, 6}},
		// One within the other they have words of their own.
		{"set a h/0;set b 1", [4]int{2, 2, 6, 8}},
		{"out f/1 h/0", [4]int{0, 2, 4, 6}},
	} {
		p := linesOf(t, "fun main;"+c.lines+rest)
		for inline, want := range c.want {
			for frames := range 2 {
				b := impl.Build{Inline: inline, Frames: frames}
				if got := impl.VariableWords(impl.CompileFunction(p, 0, b)); got != want {
					t.Errorf("%q with %v has %d words for variables, want %d", c.lines, b, got, want)
				}
				wantCompiled(t, p, b)
			}
		}
	}
}

func TestPromise8MostVariables(t *testing.T) {
	// Each function has eight variables, of which four are arguments, except in main.
	body := ";set e + a 1;set p e;set q b;set r * c d"
	text := "fun main;set a 1;set b 2;set c 3;set d 4" + body + ";out f/4 a q r p;end"
	for i, name := range strings.Fields("f g h k") {
		call := ";return - r " + strings.Fields("g h k k")[i] + "/4 d r e a"
		if name == "k" {
			call = ";return - r * e d"
		}
		text += ";fun " + name + " a b c d" + body + call + ";end"
	}
	p := linesOf(t, text)
	for inline, want := range []int{8, 16, 24, 32} {
		for _, frames := range []int{0, 63, 1, 30} {
			b := impl.Build{Inline: inline, Frames: frames}
			if got := impl.VariableWords(impl.CompileFunction(p, 0, b)); got != want {
				t.Errorf("with %v there are %d words for variables, want %d", b, got, want)
			}
			if code := wantCompiled(t, p, b); code != impl.RunDone {
				t.Error("the program ends with", code)
			}
		}
	}
	items := impl.CompileFunction(p, 1, impl.Build{Inline: 3})
	if last := items[len(items)-1]; last.Op != (impl.Op{Code: impl.OpReturn, Arg: 4 + 16*28}) || last.Depth != 29 {
		t.Error("the last item is", itemText(last))
	}
}

func TestPromise8Fold(t *testing.T) {
	text := "fun main;set x + 1 * 2 3;out - 1 2;while f/1 + 4 4;end;end;fun f y;return = 3 3;end"
	wantItems(t, text, 0, impl.Build{}, `space 1 @0 :0
		const 1 @1! :1; const 2 @1 :2; const 3 @1 :3; mul @1 :4; add @1 :3; store 1 @1 :2
		const 1 @2! :1; const 2 @2 :2; sub @2 :3; out @2 :2
		const 4 @3! :1; const 4 @3 :2; add @3 :3; call 1 @3 :2; zero 17 @3 :2; jump 11 @4 :1
		const 0 @5 :1; return 16 @5 :2`)
	wantItems(t, text, 0, impl.Build{Fold: true}, `space 1 @0 :0
		const 7 @1! :1; store 1 @1 :2
		const 1 @2! :1; const 2 @2 :2; sub @2 :3; out @2 :2
		const 8 @3! :1; call 1 @3 :2; zero 11 @3 :2; jump 7 @4 :1
		const 0 @5 :1; return 16 @5 :2`)
	wantItems(t, text, 1, impl.Build{Fold: true}, "space 0 @6 :0; const 1 @7! :0; return 1 @7 :1; const 0 @8 :0; return 1 @8 :1")
	wantItems(t, text, 1, impl.Build{}, "space 0 @6 :0; const 3 @7! :0; const 3 @7 :1; same @7 :2; return 1 @7 :1; const 0 @8 :0; return 1 @8 :1")
	wantItems(t, "fun main;return f/1 + 1 1;end;fun f y;return + y * 3 3;end", 0, impl.Build{Fold: true, Inline: 1}, `space 1 @0 :0
		const 2 @1! :1; store 1 @1 :2
		load 0 @1>4! :1; const 9 @1>4 :2; add @1>4 :3; jump 8 @1>4 :2; const 0 @1>5 :1
		return 16 @1 :2; const 0 @2 :1; return 16 @2 :2`)
	for _, p := range constantPrograms()[:200] {
		b := impl.Build{Inline: 2, Frames: 5}
		folded := b
		folded.Fold = true
		for f := range functionCount(p) {
			got, want := impl.CompileFunction(p, f, folded), impl.CompileFunction(impl.FoldProgram(p), f, b)
			if !slices.EqualFunc(got, want, sameItem) {
				t.Fatalf("folded, function %d of %q has the items\n%s\nwant\n%s", f, impl.FormatProgram(p), itemTexts(got), itemTexts(want))
			}
		}
	}
}

func TestPromise8FoldedItems(t *testing.T) {
	// Folded, there are few items before the call.
	p := linesOf(t, "fun main"+fillers(210)+";out f/0;end;fun f;return 1;end")
	if chained(impl.CompileFunction(p, 0, impl.Build{Inline: 1}), 1) > 0 || chained(impl.CompileFunction(p, 0, impl.Build{Inline: 1, Fold: true}), 1) == 0 {
		t.Error("the call is replaced by the items of the program that is not folded")
	}
}

func TestPromise8Split(t *testing.T) {
	for _, text := range []string{operandCalls, nestedCalls} {
		p := linesOf(t, text)
		for _, b := range fewBuilds() {
			split := b
			b.Split, split.Split = false, true
			for f := range functionCount(p) {
				if got, want := impl.CompileFunction(p, f, split), impl.CompileFunction(p, f, b); !slices.EqualFunc(got, want, sameItem) {
					t.Errorf("in two images, function %d of %q has the items\n%s\nwant\n%s", f, text, itemTexts(got), itemTexts(want))
				}
			}
		}
	}
}

func TestPromise8EachStructure(t *testing.T) {
	// Each list of up to five of these lines, where it makes a program, is that of main or that of a function that main calls.
	lines := linesOf(t, "if x;else;while < x 2;out f/1 x;return x;end")
	count := 0
	for _, list := range listsUpTo(lines, 5) {
		called := slices.Concat(linesOf(t, "fun main;set y g/1 3;out + y g/1 0;end;fun g x"), list, linesOf(t, "end;fun f z;out z;set v z;return + z v;end"))
		if !impl.ProgramOk(called) {
			continue
		}
		count++
		main := slices.Concat(linesOf(t, "fun main;set x 1"), list, linesOf(t, "set x - x 1;end;fun f z;if z;return + z 5;end;end"))
		for i, b := range []impl.Build{{}, {Frames: 63}, {Inline: 1}, {Inline: 2, Frames: 2}, {Inline: 3, Frames: 1}, {Inline: 3}} {
			if i < 2 || (i+count)%2 == 0 {
				wantCompiled(t, called, b)
				wantCompiled(t, main, b)
			}
		}
	}
	if count < 150 {
		t.Error("only", count, "programs are compiled")
	}
}

// madeCaller is a program of six functions with few lines, which call most often those behind them.
func madeCaller(seed int64) string {
	m := programMaker{random: rand.New(rand.NewSource(seed)), arity: []int{0}}
	for range 5 {
		m.arity = append(m.arity, m.random.Intn(3))
	}
	var lines []string
	for f, args := range m.arity {
		m.names = strings.Fields("a b")[:args]
		lines = append(lines, strings.Join(append([]string{"fun", functionName(f)}, m.names...), " "))
		count := m.random.Intn(4)
		if f == 0 {
			count += m.random.Intn(9)
		}
		if m.random.Intn(3) > 0 {
			m.names = append(slices.Clone(m.names), "x")
			lines = append(lines, "set x "+m.calls(f, 2))
		}
		for range count {
			lines = append(lines, m.callingLine(f))
		}
		lines = append(lines, "end")
	}
	return strings.Join(lines, ";")
}

func (m *programMaker) callingLine(f int) string {
	first, second := m.calls(f, 3), m.calls(f, 2)
	if len(m.names) > 0 && m.random.Intn(3) == 0 {
		name := m.names[m.random.Intn(len(m.names))]
		forms := []string{"set " + name + " " + first, "while < " + name + " 2;set " + name + " + 1 " + name + ";out " + second + ";end"}
		return forms[m.random.Intn(2)]
	}
	forms := []string{"out " + first, "out " + first, "if " + first + ";out " + second + ";else;return " + second + ";end", "if " + first + ";return " + second + ";end", "return " + first, "while = 7 " + first + ";end"}
	return forms[m.random.Intn(len(forms))]
}

func (m *programMaker) calls(f int, depth int) string {
	kind := m.random.Intn(10)
	called := min(f+1+m.random.Intn(3), len(m.arity)-1)
	if m.random.Intn(30) == 0 {
		called = m.random.Intn(len(m.arity))
	}
	switch {
	case depth > 0 && kind < 6 && called > f:
		words := []string{functionName(called) + "/" + strconv.Itoa(m.arity[called])}
		for range m.arity[called] {
			words = append(words, m.calls(f, depth-1))
		}
		return strings.Join(words, " ")
	case depth > 0 && kind < 8:
		operator := strings.Fields("+ - * < =")[m.random.Intn(5)]
		return operator + " " + m.calls(f, depth-1) + " " + m.calls(f, depth-1)
	case kind < 9 && len(m.names) > 0:
		return m.names[m.random.Intn(len(m.names))]
	}
	return strconv.Itoa(m.random.Intn(4))
}

func TestPromise8MadePrograms(t *testing.T) {
	codes := map[int]int{}
	builds := fewBuilds()
	for i, p := range madePrograms() {
		b := builds[i%len(builds)]
		b.Frames ^= i % 64
		codes[wantCompiled(t, p, b)]++
		wantCompiled(t, p, impl.Build{Inline: 3})
	}
	if codes[impl.RunDone] < 100 || codes[impl.RunDepth] < 100 || codes[impl.RunVisits] < 20 || codes[impl.RunBad] > 0 {
		t.Error("the programs that were compiled end too much alike", codes)
	}
}

func TestPromise8MadeCallers(t *testing.T) {
	codes, around, full, repeated, spaces := map[int]int{}, [4]int{}, 0, 0, 0
	builds := fewBuilds()
	for seed := range int64(600) {
		p, ok := impl.ParseProgram(strings.ReplaceAll(madeCaller(seed), ";", "\n") + "\n")
		if !ok || !impl.ProgramOk(p) {
			continue
		}
		for i := range 4 {
			b := builds[(int(seed)+5*i)%len(builds)]
			b.Frames ^= int(seed) % 64
			codes[wantCompiled(t, p, b)]++
		}
		for _, items := range compiledFunctions(p, impl.Build{Inline: 3}) {
			for i, x := range items {
				around[len(x.Chain)]++
				if x.Op.Code == impl.OpSpace && i > 0 {
					spaces++
				}
				if x.Op.Code == impl.OpCall && len(x.Chain) < 3 {
					repeated++
				}
			}
			if len(items) > impl.InlineItems {
				full++
			}
		}
	}
	if codes[impl.RunDone] < 1000 || around[1] < 1000 || around[2] < 1000 || around[3] < 1000 || full < 50 || repeated < 100 || spaces < 100 {
		t.Error("the programs that were compiled have too few replaced calls", codes, around, full, repeated, spaces)
	}
}

func TestPromise8InvalidPrograms(t *testing.T) {
	for _, p := range invalidPrograms(t) {
		for f := -1; f <= 2; f++ {
			for _, b := range []impl.Build{{}, {Frames: 63, Inline: 3, Fold: true, Split: true}, {Fold: true}, {Frames: 64}} {
				wantNoItems(t, p, f, b)
			}
		}
	}
	wantNoItems(t, nil, 0, impl.Build{})
}

func TestPromise8InvalidBuildsAndFunctions(t *testing.T) {
	p := linesOf(t, nestedCalls)
	for f := range 5 {
		for _, n := range []int{math.MinInt, -64, -1, 64, 65, 127, 1 << 32, math.MaxInt} {
			wantNoItems(t, p, f, impl.Build{Frames: n})
			wantNoItems(t, p, f, impl.Build{Inline: n})
			wantNoItems(t, p, f, impl.Build{Frames: 63, Inline: n, Fold: true})
		}
		wantNoItems(t, p, f, impl.Build{Inline: 4})
		for _, b := range fewBuilds() {
			wantCompiled(t, p, b)
		}
	}
	for _, f := range []int{math.MinInt, -6, -5, -2, -1, 5, 6, 7, 63, 64, 1 << 32, math.MaxInt} {
		for _, b := range fewBuilds() {
			wantNoItems(t, p, f, b)
		}
		wantNoItems(t, linesOf(t, "fun main;end"), f, impl.Build{})
	}
	wantNoItems(t, linesOf(t, "fun main;end"), 1, impl.Build{})
}

func TestPromise8ArgumentsAreKept(t *testing.T) {
	args := []string{"x", "y", "spare"}
	list := append(mustParse(t, "+ f/2 + 1 2 3 * 2 2"), slices.Repeat([]impl.Tok{lessTok}, 8)...)
	p := append(linesOf(t, "fun main;out 1;end;fun f x y;set z x;return + z * 3 3;end"), impl.Line{Kind: 9})
	p[1].Expr, p[3].Args = list[:len(list)-8], args[:2]
	before, listBefore := slices.Clone(p), slices.Clone(list)
	for _, b := range fewBuilds() {
		for f := range 2 {
			if items := impl.CompileFunction(p[:7], f, b); len(items) == 0 {
				t.Error("the program is not taken")
			}
		}
	}
	if !sameProgram(p, before) || !slices.Equal(args, []string{"x", "y", "spare"}) || !slices.Equal(list, listBefore) {
		t.Error("the program has changed", p, args, list)
	}
	items := append(impl.CompileFunction(p[:7], 0, impl.Build{}), impl.Item{Line: 9})
	kept := itemTexts(items)
	impl.VariableWords(items[:1])
	if itemTexts(items) != kept {
		t.Error("the items have changed")
	}
}

func TestPromise8ResultsShareNoMemory(t *testing.T) {
	p, b := linesOf(t, nestedCalls), impl.Build{Inline: 3}
	want := itemTexts(impl.CompileFunction(p, 0, b))
	for i := range impl.CompileFunction(p, 0, b) {
		items := impl.CompileFunction(p, 0, b)
		kept := slices.Clone(items[i].Chain)
		for k, other := range items {
			chain := other.Chain[:cap(other.Chain)]
			for n := range chain {
				if k != i {
					chain[n] = -2
				}
			}
		}
		if !slices.Equal(items[i].Chain, kept) {
			t.Fatal("two chains share memory", items[i].Chain, kept)
		}
	}
	if again := itemTexts(impl.CompileFunction(p, 0, b)); again != want {
		t.Error("two results share memory")
	}
}
