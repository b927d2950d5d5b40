package tests

import (
	"fmt"
	"math"
	"math/rand"
	"slices"
	"strings"
	"testing"

	"loop.example/g03314/impl"
)

// Promise 11: compiled code puts out what the interpreter does, however it was built.

func sameMachine(a impl.Machine, b impl.Machine) bool {
	return a.Pc == b.Pc && a.Sp == b.Sp && a.Fp == b.Fp && slices.Equal(a.Stack, b.Stack) && slices.Equal(a.Out, b.Out) && a.State == b.State && a.Value == b.Value
}

func noMachine(m impl.Machine) bool { return sameMachine(m, impl.Machine{}) }

func copyOf(m impl.Machine) impl.Machine {
	m.Stack, m.Out = slices.Clone(m.Stack), slices.Clone(m.Out)
	return m
}

// machineText leaves out the words of the stack that two machines have in common.
func machineText(m impl.Machine, other impl.Machine) string {
	text := fmt.Sprintf("pc %d sp %d fp %d out %v state %d value %d, %d words", m.Pc, m.Sp, m.Fp, m.Out, m.State, m.Value, len(m.Stack))
	for address, word := range m.Stack {
		if address >= len(other.Stack) || other.Stack[address] != word {
			text += fmt.Sprintf(" %d:%d", address, word)
		}
	}
	return text
}

func wantMachine(t *testing.T, what string, got impl.Machine, want impl.Machine) {
	t.Helper()
	if !sameMachine(got, want) {
		t.Fatalf("%s is\n%s, want\n%s", what, machineText(got, want), machineText(want, got))
	}
}

// readState is a second machine. What is outside of the stack or the entries is an index out of range, and stops it.
type readState struct {
	m       impl.Machine
	stack   []int
	entries []int
}

func (r *readState) pop(n int) int {
	word := 0
	for range n {
		word = r.stack[r.m.Sp]
		r.m.Sp++
	}
	return word
}

func (r *readState) push(words ...int) {
	for _, word := range words {
		r.m.Sp--
		r.stack[r.m.Sp] = word
	}
}

// readStep works on a copy, of which nothing is left if it stops.
func readStep(s impl.Space, m impl.Machine) (after impl.Machine) {
	bad := copyOf(m)
	bad.State = 2
	r := readState{m: copyOf(m), entries: s.Entries}
	r.stack = r.m.Stack
	defer func() {
		if recover() != nil {
			after = bad
		}
	}()
	found, _ := readSpace(s)
	at := found[m.Pc]
	x, size, ok := readOp(s.Images[at.image].Code, at.offset)
	if _, there := found[m.Pc]; !ok || !there {
		return bad
	}
	r.m.Pc += size
	r.perform(x)
	if r.m.Pc == 0 {
		r.m.State, r.m.Value = 1, r.stack[r.m.Sp]
	}
	return r.m
}

func (r *readState) perform(x impl.Op) {
	switch x.Code {
	case impl.OpConst:
		r.push(x.Arg)
	case impl.OpLoadFrame:
		r.push(r.stack[r.m.Fp+x.Arg])
	case impl.OpLoadStack:
		r.push(r.stack[r.m.Sp+x.Arg])
	case impl.OpStoreFrame:
		word := r.pop(1)
		r.stack[r.m.Fp+x.Arg] = word
	case impl.OpStoreStack:
		word := r.pop(1)
		r.stack[r.m.Sp-1+x.Arg] = word
	case impl.OpJump:
		r.m.Pc += x.Arg
	case impl.OpZero:
		if word := r.pop(1); word == 0 {
			r.m.Pc += x.Arg
		}
	case impl.OpCall:
		r.push(r.m.Pc)
		r.m.Pc = r.entries[x.Arg]
	case impl.OpEnter:
		r.push(r.m.Fp)
		r.m.Fp = r.m.Sp
		r.push(make([]int, x.Arg)...)
	case impl.OpSpace:
		r.push(make([]int, x.Arg)...)
	case impl.OpLeave, impl.OpReturn:
		r.giveBack(x)
	case impl.OpOut:
		r.m.Out = append(r.m.Out, r.pop(1))
	default:
		b, a := r.pop(1), r.pop(1)
		r.push(readOperator(x.Code, int32(a), int32(b)))
	}
}

func (r *readState) giveBack(x impl.Op) {
	value, arguments := r.pop(1), x.Arg
	if x.Code == impl.OpLeave {
		r.m.Sp = r.m.Fp
		r.m.Fp = r.pop(1)
	} else {
		r.pop(x.Arg >> 4)
		arguments = x.Arg & 15
	}
	r.m.Pc = r.pop(1)
	r.pop(arguments)
	r.push(value)
}

func readOperator(code int, a int32, b int32) int {
	results := map[int]int32{impl.OpAdd: a + b, impl.OpSub: a - b, impl.OpMul: a * b}
	if code == impl.OpLess && a < b || code == impl.OpSame && a == b {
		return 1
	}
	return int(results[code])
}

// wantNext compares a step with the machine after it, and checks that the machine before it is kept.
func wantNext(t *testing.T, what string, s impl.Space, m impl.Machine, want impl.Machine) {
	t.Helper()
	before := copyOf(m)
	wantMachine(t, "the machine after "+what, impl.StepMachine(s, m), want)
	wantMachine(t, "the machine given to "+what, m, before)
	after, steps := impl.RunMachine(s, m, 1)
	wantMachine(t, "the machine after a run of "+what, after, want)
	wantMachine(t, "the machine given to a run of "+what, m, before)
	if runs := 1 - min(m.State, 1); steps != runs {
		t.Fatalf("a run of %s has %d steps, want %d", what, steps, runs)
	}
}

// opSpace has one instruction at 100, an entry there, and entries at 200 and 201.
func opSpace(x impl.Op) impl.Space {
	code := readBytes(x)
	first := impl.Image{Code: code, Symbols: []impl.Symbol{{Name: "m", Size: len(code)}}}
	return spaceOf(first, plain(1, 2), 100, 200, 100, 200, 201)
}

// machineAt has another word at each address of the stack: 10000 at the address 0, and so on.
func machineAt(sp int, fp int) impl.Machine {
	m := impl.Machine{Pc: 100, Sp: sp, Fp: fp, Out: []int{-4}, Value: 77}
	for address := range impl.StackWords {
		m.Stack = append(m.Stack, 10000+address)
	}
	return m
}

// wantStep tells what an instruction changes besides Pc, which is behind it if nothing else is said. The test's own machine is checked as well.
func wantStep(t *testing.T, code int, n int, m impl.Machine, change func(m *impl.Machine)) {
	t.Helper()
	x := impl.Op{Code: code, Arg: n}
	s, want := opSpace(x), copyOf(m)
	want.Pc = 100 + readSize(x)
	change(&want)
	what := fmt.Sprintf("%s %d with sp %d fp %d", opWords()[code], n, m.Sp, m.Fp)
	wantMachine(t, "the test's own machine after "+what, readStep(s, m), want)
	wantNext(t, what, s, m, want)
}

func wantBadStep(t *testing.T, code int, n int, m impl.Machine) {
	t.Helper()
	wantStep(t, code, n, m, func(m *impl.Machine) { m.Pc, m.State = 100, impl.MachineBad })
}

// with has other words from Sp on.
func with(m impl.Machine, words ...int) impl.Machine {
	copy(m.Stack[m.Sp:], words)
	return m
}

func TestPromise11Constants(t *testing.T) {
	if impl.StackWords != 1200 || impl.MachineRuns != 0 || impl.MachineDone != 1 || impl.MachineBad != 2 {
		t.Error("unexpected constants")
	}
}

func TestPromise11MachineOk(t *testing.T) {
	wantOk := func(m impl.Machine, want bool) {
		t.Helper()
		if got := impl.MachineOk(m); got != want {
			t.Errorf("MachineOk of sp %d, state %d and %d words is %v", m.Sp, m.State, len(m.Stack), got)
		}
	}
	for words := range 2500 {
		wantOk(impl.Machine{Stack: make([]int, words)}, words == 1200)
	}
	wantOk(impl.Machine{}, false)
	wantOk(impl.Machine{Stack: make([]int, 0, 1200)}, false)
	wantOk(impl.Machine{Stack: make([]int, 1200, 1300)}, true)
	for sp := -20; sp < 1220; sp++ {
		wantOk(impl.Machine{Sp: sp, Stack: make([]int, 1200)}, sp >= 0 && sp <= 1200)
	}
	for state := -5; state < 8; state++ {
		wantOk(impl.Machine{State: state, Stack: make([]int, 1200)}, state >= 0 && state <= 2)
	}
	for _, n := range []int{math.MinInt, math.MinInt + 1200, -1200, 1201, 1 << 32, 1<<32 + 1, math.MaxInt} {
		wantOk(impl.Machine{Sp: n, Stack: make([]int, 1200)}, false)
		wantOk(impl.Machine{State: n, Stack: make([]int, 1200)}, false)
		// All other fields may be anything.
		wantOk(impl.Machine{Pc: n, Fp: n, Value: n, Out: []int{n, n}, Stack: slices.Repeat([]int{n}, 1200), Sp: 1200, State: 2}, true)
	}
}

func TestPromise11NewMachine(t *testing.T) {
	p := linesOf(t, calledProduct)
	for _, bases := range [][2]int{{100, 200}, {200, 100}, {1, 1000000}, {1000000, 1}} {
		s, _ := impl.LoadSpace(p, impl.Build{Split: true}, bases[0], bases[1])
		m, ok := impl.NewMachine(s)
		wantMachine(t, "the new machine", m, impl.Machine{Pc: bases[0], Sp: 1199, Fp: 1200, Stack: make([]int, 1200)})
		if !ok || !impl.MachineOk(m) {
			t.Error("there is no machine", ok)
		}
	}
	// Function 0 need not be the first one in its image, nor in image 0.
	for _, entry := range []int{10, 12, 15, 30, 31} {
		m, ok := impl.NewMachine(spaceOf(plain(2, 3, 1), plain(1, 4), 10, 30, entry, 10, 31))
		wantMachine(t, "the new machine", m, impl.Machine{Pc: entry, Sp: 1199, Fp: 1200, Stack: make([]int, 1200)})
		if !ok {
			t.Error("there is no machine")
		}
	}
	for _, s := range invalidSpaces() {
		if m, ok := impl.NewMachine(s); ok || !noMachine(m) {
			t.Errorf("NewMachine(%v) = %v, %v", s, m, ok)
		}
	}
}

// wantRegisters steps through a program, and compares the registers and the word on top after each step.
func wantRegisters(t *testing.T, p []impl.Line, b impl.Build, want string) impl.Machine {
	t.Helper()
	s, _ := impl.LoadSpace(p, b, 100, 500)
	m, _ := impl.NewMachine(s)
	var lines []string
	for m.State == impl.MachineRuns {
		m = impl.StepMachine(s, m)
		lines = append(lines, fmt.Sprint(m.Pc, m.Sp, m.Fp, m.Stack[m.Sp]))
	}
	if got := strings.Join(lines, "; "); got != want {
		t.Errorf("the steps with %v are\n%s, want\n%s", b, got, want)
	}
	return m
}

func TestPromise11StepByStep(t *testing.T) {
	p := linesOf(t, calledProduct)
	done := impl.Machine{Sp: 1199, Fp: 1200, Out: []int{6}, State: impl.MachineDone, Stack: make([]int, 1200)}
	// Without frames: main is at 100, and f at 124.
	m := wantRegisters(t, p, impl.Build{}, "102 1198 1200 0; 107 1197 1200 2; 124 1196 1200 109; 126 1196 1200 109; 131 1195 1200 3; 134 1194 1200 2; 135 1195 1200 6; 109 1197 1200 6; "+
		"112 1198 1200 6; 115 1197 1200 6; 116 1198 1200 6; 121 1197 1200 0; 0 1199 1200 0")
	// What was popped is still there.
	copy(done.Stack[1194:], []int{2, 6, 109, 0, 6, 0})
	wantMachine(t, "the machine without frames", m, done)
	// With frames: main is at 100, and f at 123.
	m = wantRegisters(t, p, impl.Build{Frames: 3}, "102 1197 1198 0; 107 1196 1198 2; 123 1195 1198 109; 125 1194 1194 1198; 130 1193 1194 3; 133 1192 1194 2; 134 1193 1194 6; 109 1196 1198 6; "+
		"112 1197 1198 6; 115 1196 1198 6; 116 1197 1198 6; 121 1196 1198 0; 0 1199 1200 0")
	copy(done.Stack[1192:], []int{2, 6, 1198, 109, 0, 6, 1200, 0})
	wantMachine(t, "the machine with frames", m, done)
	// In another image, with a value.
	m = wantRegisters(t, linesOf(t, "fun main;return f/0;end;fun f;return 5;end"), impl.Build{Split: true}, "102 1199 1200 0; 500 1198 1200 104; 502 1198 1200 104; 507 1197 1200 5; 104 1198 1200 5; 0 1199 1200 5")
	if m.Value != 5 || m.State != impl.MachineDone || len(m.Out) > 0 {
		t.Error("unexpected machine", m.Value, m.State, m.Out)
	}
}

func TestPromise11Const(t *testing.T) {
	for _, n := range []int{0, 1, -1, 999, math.MaxInt32, math.MinInt32} {
		for _, sp := range []int{1200, 1199, 600, 2, 1} {
			wantStep(t, impl.OpConst, n, machineAt(sp, 5), func(m *impl.Machine) { m.Sp, m.Stack[sp-1] = sp-1, n })
		}
		wantBadStep(t, impl.OpConst, n, machineAt(0, 5))
	}
}

func TestPromise11LoadFrame(t *testing.T) {
	for _, n := range []int{-600, -599, -2, -1, 0, 1, 2, 598, 599} {
		for _, sp := range []int{1, 599, 600, 601, 1200} {
			wantStep(t, impl.OpLoadFrame, n, machineAt(sp, 600), func(m *impl.Machine) { m.Sp, m.Stack[sp-1] = sp-1, 10600+n })
		}
		wantBadStep(t, impl.OpLoadFrame, n, machineAt(0, 600))
	}
	for _, x := range []struct{ fp, n, word int }{{0, 0, 10000}, {0, 1199, 11199}, {1199, 0, 11199}, {1200, -1, 11199}, {1200, -1200, 10000}, {-1, 1, 10000}, {-32767, 32767, 10000}, {33967, -32768, 11199}, {32768, -32768, 10000}} {
		wantStep(t, impl.OpLoadFrame, x.n, machineAt(7, x.fp), func(m *impl.Machine) { m.Sp, m.Stack[6] = 6, x.word })
	}
	for _, x := range [][2]int{{600, -601}, {600, 600}, {0, -1}, {0, 1200}, {1199, 1}, {1200, 0}, {1200, -1201}, {-1, 0}, {-1, -1}, {-32768, 32767}, {33968, -32768}} {
		wantBadStep(t, impl.OpLoadFrame, x[1], machineAt(7, x[0]))
	}
}

func TestPromise11LoadStack(t *testing.T) {
	for _, n := range []int{-600, -599, -2, -1, 0, 1, 2, 598, 599} {
		wantStep(t, impl.OpLoadStack, n, machineAt(600, 5), func(m *impl.Machine) { m.Sp, m.Stack[599] = 599, 10600+n })
	}
	for _, x := range []struct{ sp, n, word int }{{1, -1, 10000}, {1, 0, 10001}, {1, 1198, 11199}, {1199, 0, 11199}, {1199, -1199, 10000}, {1200, -1, 11199}, {1200, -2, 11198}, {1200, -1200, 10000}} {
		wantStep(t, impl.OpLoadStack, x.n, machineAt(x.sp, 5), func(m *impl.Machine) { m.Sp, m.Stack[x.sp-1] = x.sp-1, x.word })
	}
	for _, x := range [][2]int{{600, -601}, {600, 600}, {1, -2}, {1, 1199}, {1199, 1}, {1199, -1200}, {1200, 0}, {1200, 1}, {1200, -1201}, {600, 32767}, {600, -32768}, {0, 0}, {0, 1}, {0, 1199}} {
		wantBadStep(t, impl.OpLoadStack, x[1], machineAt(x[0], 5))
	}
}

func TestPromise11StoreFrame(t *testing.T) {
	for _, n := range []int{-600, -599, -1, 0, 1, 598, 599} {
		for _, sp := range []int{0, 599, 600, 601, 1199} {
			wantStep(t, impl.OpStoreFrame, n, machineAt(sp, 600), func(m *impl.Machine) { m.Sp, m.Stack[600+n] = sp+1, 10000+sp })
		}
		wantBadStep(t, impl.OpStoreFrame, n, machineAt(1200, 600))
	}
	for _, x := range []struct{ fp, n, address int }{{0, 0, 0}, {1199, 0, 1199}, {1200, -1, 1199}, {1200, -1200, 0}, {-1, 1, 0}, {-31568, 32767, 1199}, {32768, -32768, 0}} {
		wantStep(t, impl.OpStoreFrame, x.n, machineAt(7, x.fp), func(m *impl.Machine) { m.Sp, m.Stack[x.address] = 8, 10007 })
	}
	for _, x := range [][2]int{{600, -601}, {600, 600}, {0, -1}, {1199, 1}, {1200, 0}, {-1, 0}, {-31567, 32767}, {32767, -32768}} {
		wantBadStep(t, impl.OpStoreFrame, x[1], machineAt(7, x[0]))
	}
}

func TestPromise11StoreStack(t *testing.T) {
	// With n 0 the word stays where it was popped, and with n 1 it is on top afterwards.
	for _, n := range []int{-600, -599, -2, -1, 0, 1, 2, 598, 599} {
		wantStep(t, impl.OpStoreStack, n, machineAt(600, 5), func(m *impl.Machine) { m.Sp, m.Stack[600+n] = 601, 10600 })
	}
	for _, x := range []struct{ sp, n, address int }{{0, 0, 0}, {0, 1199, 1199}, {1199, 0, 1199}, {1199, -1, 1198}, {1199, -1199, 0}} {
		wantStep(t, impl.OpStoreStack, x.n, machineAt(x.sp, 5), func(m *impl.Machine) { m.Sp, m.Stack[x.address] = x.sp+1, 10000+x.sp })
	}
	for _, x := range [][2]int{{600, -601}, {600, 600}, {0, -1}, {0, 1200}, {1199, 1}, {1199, -1200}, {1200, -1}, {1200, 0}, {1200, -600}, {600, 32767}, {600, -32768}} {
		wantBadStep(t, impl.OpStoreStack, x[1], machineAt(x[0], 5))
	}
}

func TestPromise11Operators(t *testing.T) {
	for _, x := range []struct{ code, a, b, result int }{
		{impl.OpAdd, 7, 3, 10}, {impl.OpSub, 7, 3, 4}, {impl.OpMul, 7, 3, 21}, {impl.OpLess, 7, 3, 0}, {impl.OpLess, 3, 7, 1}, {impl.OpLess, 3, 3, 0},
		{impl.OpSame, 7, 3, 0}, {impl.OpSame, 3, 3, 1}, {impl.OpSub, 3, 7, -4}, {impl.OpLess, -1, 0, 1}, {impl.OpLess, 0, -1, 0},
		// Results have 32 bits, and so have the words that are taken.
		{impl.OpAdd, math.MaxInt32, 1, math.MinInt32}, {impl.OpSub, math.MinInt32, 1, math.MaxInt32}, {impl.OpMul, 65536, 65536, 0}, {impl.OpMul, 65536, 32768, math.MinInt32},
		{impl.OpAdd, 1 << 32, 5, 5}, {impl.OpSame, 1 << 32, 0, 1}, {impl.OpLess, 1 << 31, 0, 1}, {impl.OpSub, math.MinInt, math.MaxInt, 1}, {impl.OpMul, math.MaxInt, math.MaxInt, 1},
	} {
		for _, sp := range []int{0, 1, 600, 1198} {
			wantStep(t, x.code, 0, with(machineAt(sp, 5), x.b, x.a), func(m *impl.Machine) { m.Sp, m.Stack[sp+1] = sp+1, x.result })
		}
		wantBadStep(t, x.code, 0, with(machineAt(1199, 5), x.b))
		wantBadStep(t, x.code, 0, machineAt(1200, 5))
	}
}

func TestPromise11Jump(t *testing.T) {
	for _, n := range []int{0, 1, 2, -1, -3, -4, -102, -104, -1000, 97, 32767, -32768} {
		for _, sp := range []int{0, 600, 1200} {
			wantStep(t, impl.OpJump, n, machineAt(sp, 5), func(m *impl.Machine) { m.Pc = 103 + n })
		}
	}
	// To 0, with and without a word on top.
	for _, sp := range []int{0, 600, 1199} {
		wantStep(t, impl.OpJump, -103, machineAt(sp, 5), func(m *impl.Machine) { m.Pc, m.State, m.Value = 0, impl.MachineDone, 10000+sp })
	}
	wantBadStep(t, impl.OpJump, -103, machineAt(1200, 5))
}

func TestPromise11Zero(t *testing.T) {
	for _, n := range []int{0, 1, -1, -3, -102, -104, 32767, -32768} {
		for _, sp := range []int{0, 600, 1199} {
			wantStep(t, impl.OpZero, n, with(machineAt(sp, 5), 0), func(m *impl.Machine) { m.Pc, m.Sp = 103+n, sp+1 })
			for _, word := range []int{1, -1, 1 << 32, 1 << 31, math.MinInt, math.MaxInt} {
				wantStep(t, impl.OpZero, n, with(machineAt(sp, 5), word), func(m *impl.Machine) { m.Sp = sp + 1 })
			}
		}
		wantBadStep(t, impl.OpZero, n, machineAt(1200, 5))
	}
	// To 0, where the word on top is the one behind the popped one.
	for _, sp := range []int{0, 600, 1198} {
		wantStep(t, impl.OpZero, -103, with(machineAt(sp, 5), 0), func(m *impl.Machine) { m.Pc, m.Sp, m.State, m.Value = 0, sp+1, impl.MachineDone, 10001+sp })
		wantStep(t, impl.OpZero, -103, with(machineAt(sp, 5), 1), func(m *impl.Machine) { m.Sp = sp + 1 })
	}
	wantBadStep(t, impl.OpZero, -103, with(machineAt(1199, 5), 0))
	wantStep(t, impl.OpZero, -103, with(machineAt(1199, 5), 1), func(m *impl.Machine) { m.Sp = 1200 })
	wantBadStep(t, impl.OpZero, -103, machineAt(1200, 5))
}

func TestPromise11Call(t *testing.T) {
	for n, entry := range []int{100, 200, 201} {
		for _, sp := range []int{1, 600, 1200} {
			wantStep(t, impl.OpCall, n, machineAt(sp, 5), func(m *impl.Machine) { m.Pc, m.Sp, m.Stack[sp-1] = entry, sp-1, 102 })
		}
		wantBadStep(t, impl.OpCall, n, machineAt(0, 5))
	}
	for _, n := range []int{3, 4, 6, 127, 128, 255} {
		for _, sp := range []int{0, 600, 1200} {
			wantBadStep(t, impl.OpCall, n, machineAt(sp, 5))
		}
	}
}

func TestPromise11Enter(t *testing.T) {
	for _, n := range []int{0, 1, 2, 8, 127, 128, 255} {
		for _, fp := range []int{0, 600, 1200, -1, math.MinInt, math.MaxInt} {
			for _, sp := range []int{n + 1, n + 2, 600, 1200} {
				wantStep(t, impl.OpEnter, n, machineAt(sp, fp), func(m *impl.Machine) {
					m.Sp, m.Fp, m.Stack[sp-1] = sp-1-n, sp-1, fp
					clear(m.Stack[sp-1-n : sp-1])
				})
			}
			for sp := max(0, n-3); sp <= n; sp++ {
				wantBadStep(t, impl.OpEnter, n, machineAt(sp, fp))
			}
		}
	}
	wantBadStep(t, impl.OpEnter, 255, machineAt(0, 5))
}

func TestPromise11Space(t *testing.T) {
	for _, n := range []int{0, 1, 2, 8, 127, 128, 255} {
		for _, sp := range []int{n, n + 1, 600, 1200} {
			wantStep(t, impl.OpSpace, n, machineAt(sp, 5), func(m *impl.Machine) {
				m.Sp = sp - n
				clear(m.Stack[sp-n : sp])
			})
		}
		for sp := max(0, n-3); sp < n; sp++ {
			wantBadStep(t, impl.OpSpace, n, machineAt(sp, 5))
		}
	}
	wantBadStep(t, impl.OpSpace, 255, machineAt(0, 5))
}

func TestPromise11Leave(t *testing.T) {
	for _, n := range []int{0, 1, 3, 127, 128, 255} {
		// The frame may begin at the value, and even below it.
		for _, sp := range []int{0, 590, 599, 600, 601, 1199} {
			m := machineAt(sp, 600)
			value := m.Stack[sp]
			wantStep(t, impl.OpLeave, n, m, func(m *impl.Machine) {
				m.Pc, m.Fp, m.Sp = 10601, 10600, 601+n
				m.Stack[601+n] = value
			})
		}
		wantBadStep(t, impl.OpLeave, n, machineAt(1200, 600))
		// Up to the end of the stack, and one word more.
		wantStep(t, impl.OpLeave, n, machineAt(700, 1198-n), func(m *impl.Machine) {
			m.Pc, m.Fp, m.Sp = 11199-n, 11198-n, 1199
			m.Stack[1199] = 10700
		})
		for _, fp := range []int{1199 - n, 1200 - n, 1198, 1199, 1200, 1201, 1455, -1, -2, -3, math.MinInt, math.MaxInt, math.MaxInt - 1} {
			if fp != 1198 || n > 0 {
				wantBadStep(t, impl.OpLeave, n, machineAt(700, fp))
			}
		}
		// To 0.
		m := with(machineAt(600, 600), 5, 0)
		m.Sp = 590
		wantStep(t, impl.OpLeave, n, m, func(m *impl.Machine) {
			m.Pc, m.Fp, m.Sp, m.State, m.Value = 0, 5, 601+n, impl.MachineDone, 10590
			m.Stack[601+n] = 10590
		})
	}
	wantStep(t, impl.OpLeave, 0, machineAt(1199, 0), func(m *impl.Machine) { m.Pc, m.Fp, m.Sp, m.Stack[1] = 10001, 10000, 1, 11199 })
	m := with(machineAt(1198, 1198), -9, 0)
	wantStep(t, impl.OpLeave, 0, m, func(m *impl.Machine) {
		m.Pc, m.Fp, m.Sp, m.State, m.Value, m.Stack[1199] = 0, -9, 1199, impl.MachineDone, -9, -9
	})
	wantBadStep(t, impl.OpLeave, 1, m)
}

func TestPromise11Return(t *testing.T) {
	// n, its quotient and its remainder.
	for _, x := range [][3]int{{0, 0, 0}, {1, 0, 1}, {15, 0, 15}, {16, 1, 0}, {17, 1, 1}, {31, 1, 15}, {32, 2, 0}, {47, 2, 15}, {132, 8, 4}, {516, 32, 4}, {4095, 255, 15}, {4096, 256, 0}} {
		n, words, arguments := x[0], x[1], x[2]
		for _, sp := range []int{0, 1, 600, 1198 - words - arguments} {
			wantStep(t, impl.OpReturn, n, machineAt(sp, 5), func(m *impl.Machine) {
				m.Pc, m.Sp = 10000+sp+1+words, sp+1+words+arguments
				m.Stack[m.Sp] = 10000 + sp
			})
			m := machineAt(sp, 5)
			m.Stack[sp+1+words] = 0
			wantStep(t, impl.OpReturn, n, m, func(m *impl.Machine) {
				m.Pc, m.Sp, m.State, m.Value = 0, sp+1+words+arguments, impl.MachineDone, 10000+sp
				m.Stack[m.Sp] = 10000 + sp
			})
		}
		for sp := 1199 - words - arguments; sp <= 1200; sp++ {
			wantBadStep(t, impl.OpReturn, n, machineAt(sp, 5))
		}
	}
	// All of the stack, and more than that.
	wantStep(t, impl.OpReturn, 16*1198, machineAt(0, 5), func(m *impl.Machine) { m.Pc, m.Sp, m.Stack[1199] = 11199, 1199, 10000 })
	wantStep(t, impl.OpReturn, 16*1183+15, machineAt(0, 5), func(m *impl.Machine) { m.Pc, m.Sp, m.Stack[1199] = 11184, 1199, 10000 })
	for _, n := range []int{16*1198 + 1, 16 * 1199, 16 * 1200, 32767, 32768, 65535} {
		wantBadStep(t, impl.OpReturn, n, machineAt(0, 5))
	}
}

func TestPromise11Out(t *testing.T) {
	for _, sp := range []int{0, 1, 600, 1199} {
		wantStep(t, impl.OpOut, 0, machineAt(sp, 5), func(m *impl.Machine) { m.Sp, m.Out = sp+1, append(m.Out, 10000+sp) })
		// Words are put out as they are.
		for _, word := range []int{0, 1 << 32, math.MinInt, math.MaxInt} {
			wantStep(t, impl.OpOut, 0, with(machineAt(sp, 5), word), func(m *impl.Machine) { m.Sp, m.Out = sp+1, append(m.Out, word) })
		}
	}
	wantBadStep(t, impl.OpOut, 0, machineAt(1200, 5))
}

func TestPromise11NoInstruction(t *testing.T) {
	check := func(s impl.Space, pc int) {
		t.Helper()
		for _, sp := range []int{0, 600, 1199, 1200} {
			m := machineAt(sp, 5)
			m.Pc = pc
			want := copyOf(m)
			want.State = impl.MachineBad
			wantMachine(t, "the test's own machine", readStep(s, m), want)
			wantNext(t, fmt.Sprint("a step at ", pc), s, m, want)
		}
	}
	s, _ := impl.LoadSpace(linesOf(t, strings.ReplaceAll(calledProduct, "3 x", "18 x")), impl.Build{Split: true}, 100, 200)
	// The last bytes of the images, which are not instructions, and a byte that is no code.
	for _, pc := range append(farAddresses(), 1, 2, 99, 122, 123, 124, 125, 199, 203, 220, 221, 222, 223, 1000) {
		check(s, pc)
	}
	for _, pc := range append(farAddresses(), 99, 101, 102, 199, 203) {
		check(opSpace(impl.Op{Code: impl.OpOut}), pc)
	}
}

func TestPromise11WithinInstructions(t *testing.T) {
	// OpConst 2 at 102 has the bytes 00 02 00 00 00: its second byte is that of OpStoreFrame 0.
	s, _ := impl.LoadSpace(linesOf(t, calledProduct), impl.Build{Split: true}, 100, 200)
	m := machineAt(600, 700)
	m.Pc = 103
	want := copyOf(m)
	want.Pc, want.Sp, want.Stack[700] = 106, 601, 10600
	wantNext(t, "a step within an instruction", s, m, want)
}

// stepArgs are arguments that an instruction may have.
func stepArgs(code int) []int {
	args := []int{0, 1, 2, 3, 4, 5, 15, 16, 17, 33, 127, 128, 255, 256, 1199, 1200, 1201, 19167, 19168, 19169, 19200, 32767, 65535, -1, -2, -3, -4, -101, -102, -103, -104, -1199, -1200, -1201, -32768}
	return slices.DeleteFunc(args, func(n int) bool { return readBytes(impl.Op{Code: code, Arg: n}) == "" })
}

func TestPromise11EachInstruction(t *testing.T) {
	// Each instruction with the stack pointer and the frame address at the ends of the stack and elsewhere.
	ends := []int{0, 1, 2, 3, 4, 17, 18, 600, 1183, 1184, 1195, 1196, 1197, 1198, 1199, 1200}
	random, states := rand.New(rand.NewSource(1)), map[int]map[int]int{}
	for code := impl.OpConst; code <= impl.OpOut; code++ {
		states[code] = map[int]int{}
		for _, n := range stepArgs(code) {
			s := opSpace(impl.Op{Code: code, Arg: n})
			for _, sp := range ends {
				fps := []int{5}
				if code == impl.OpLoadFrame || code == impl.OpStoreFrame || code == impl.OpLeave {
					fps = append(ends, -1, 1201, math.MinInt, math.MaxInt)
				}
				for _, fp := range fps {
					m := machineAt(sp, fp)
					for address := range m.Stack {
						m.Stack[address] = []int{0, 0, 100, 200, -1, 1 << 33}[random.Intn(6)]
					}
					want := readStep(s, m)
					wantMachine(t, fmt.Sprintf("the machine after %s %d with sp %d fp %d", opWords()[code], n, sp, fp), impl.StepMachine(s, m), want)
					states[code][want.State]++
				}
			}
		}
	}
	for code, count := range states {
		gives := code == impl.OpLeave || code == impl.OpReturn || code == impl.OpJump || code == impl.OpZero
		if count[impl.MachineRuns] < 10 || count[impl.MachineBad] < 1 || gives != (count[impl.MachineDone] > 0) {
			t.Errorf("steps of %s end too much alike: %v", opWords()[code], count)
		}
	}
}

func TestPromise11EachShortCode(t *testing.T) {
	// Short lists of instructions, performed from an almost full stack, an almost empty one, or one between them.
	ops := []impl.Op{{Code: impl.OpConst, Arg: 1}, {Code: impl.OpLoadStack, Arg: 1}, {Code: impl.OpStoreFrame, Arg: -1}, {Code: impl.OpSub}, {Code: impl.OpZero, Arg: -3}, {Code: impl.OpCall, Arg: 1}, {Code: impl.OpEnter, Arg: 1}, {Code: impl.OpLeave, Arg: 1}, {Code: impl.OpReturn, Arg: 17}, {Code: impl.OpOut}}
	states := map[int]int{}
	for _, list := range listsUpTo(ops, 3) {
		var image impl.Image
		for k, x := range list {
			code := readBytes(x)
			image.Symbols = append(image.Symbols, impl.Symbol{Name: functionName(k), Start: len(image.Code), Size: len(code)})
			image.Code += code
		}
		if len(list) == 0 {
			continue
		}
		s := spaceOf(image, plain(1), 100, 200, 100, 100+image.Symbols[len(list)-1].Start)
		for _, sp := range []int{2, 600, 1199} {
			m, _ := impl.NewMachine(s)
			m.Sp, m.Fp = sp, min(sp+1, 1199)
			want, steps := m, 0
			for want.State == impl.MachineRuns && steps < 8 {
				want = readStep(s, want)
				steps++
			}
			got, n := impl.RunMachine(s, m, 8)
			wantMachine(t, fmt.Sprintf("the machine after %v from sp %d", list, sp), got, want)
			if n != steps {
				t.Fatalf("%v from sp %d has %d steps, want %d", list, sp, n, steps)
			}
			states[got.State]++
		}
	}
	if states[impl.MachineRuns] < 100 || states[impl.MachineDone] < 100 || states[impl.MachineBad] < 100 {
		t.Error("the runs end too much alike", states)
	}
}

func TestPromise11OtherStates(t *testing.T) {
	s, _ := impl.LoadSpace(linesOf(t, calledProduct), impl.Build{Split: true}, 100, 200)
	for _, state := range []int{impl.MachineDone, impl.MachineBad} {
		m := machineAt(600, 5)
		m.State = state
		wantNext(t, "no step", s, m, m)
		for _, limit := range []int{0, 1, 2, 20000, -1, 20001} {
			wantRunOf(t, s, m, limit, m, 0)
		}
	}
}

// wantRunOf compares a run with the machine at its end and the number of its steps.
func wantRunOf(t *testing.T, s impl.Space, m impl.Machine, limit int, want impl.Machine, steps int) {
	t.Helper()
	before := copyOf(m)
	got, n := impl.RunMachine(s, m, limit)
	wantMachine(t, fmt.Sprint("the machine after a run with the limit ", limit), got, want)
	wantMachine(t, "the machine given to a run", m, before)
	if n != steps {
		t.Fatalf("a run with the limit %d has %d steps, want %d", limit, n, steps)
	}
}

// invalidMachines are machines that would do something at 100 if they were valid.
func invalidMachines() []impl.Machine {
	var list []impl.Machine
	for _, sp := range []int{-1, -2, -1200, 1201, 1202, 1 << 32, math.MinInt, math.MaxInt} {
		m := machineAt(600, 5)
		m.Sp = sp
		list = append(list, m)
	}
	for _, state := range []int{-1, -2, 3, 4, 1 << 32, math.MinInt, math.MaxInt} {
		m := machineAt(600, 5)
		m.State = state
		list = append(list, m)
	}
	for _, words := range []int{0, 1, 599, 600, 601, 1198, 1199, 1201, 1202, 2400} {
		m := machineAt(600, 5)
		m.Stack = slices.Repeat(m.Stack, 2)[:words]
		list = append(list, m)
	}
	m := machineAt(600, 5)
	m.Stack = nil
	return append(list, m, impl.Machine{}, impl.Machine{Pc: 100})
}

func TestPromise11InvalidMachines(t *testing.T) {
	s, _ := impl.LoadSpace(linesOf(t, calledProduct), impl.Build{Split: true}, 100, 200)
	for _, m := range invalidMachines() {
		if impl.MachineOk(m) {
			t.Error("MachineOk of", m.Sp, m.State, len(m.Stack))
		}
		before := copyOf(m)
		wantMachine(t, "an invalid machine after a step", impl.StepMachine(s, m), before)
		for _, limit := range []int{-1, 0, 1, 2, 20000, 20001} {
			wantRunOf(t, s, m, limit, before, 0)
		}
	}
}

func TestPromise11InvalidSpaces(t *testing.T) {
	for _, s := range invalidSpaces() {
		for _, pc := range []int{10, 12, 30, 31, 0} {
			m := machineAt(600, 5)
			m.Pc = pc
			wantMachine(t, "the machine after a step in an invalid space", impl.StepMachine(s, m), m)
			for _, limit := range []int{-1, 0, 1, 2, 20000, 20001} {
				wantRunOf(t, s, m, limit, m, 0)
			}
		}
	}
	m := machineAt(600, 5)
	m.Pc = 10
	after := copyOf(m)
	after.Pc, after.Sp, after.Stack[601] = 11, 601, 20000+600+601
	wantNext(t, "a step in a valid space", spaceOf(plain(2, 3), plain(1, 4), 10, 30, 10), m, after)
}

func TestPromise11Limits(t *testing.T) {
	s, _ := impl.LoadSpace(linesOf(t, calledProduct), impl.Build{}, 100, 200)
	m, _ := impl.NewMachine(s)
	done, now := m, m
	for range 13 {
		done = readStep(s, done)
	}
	if done.State != impl.MachineDone {
		t.Fatal("the test's own machine is not done")
	}
	for limit := range 40 {
		wantRunOf(t, s, m, limit, now, min(limit, 13))
		if limit < 13 {
			now = readStep(s, now)
		}
	}
	for _, limit := range []int{100, 1000, 19999, 20000} {
		wantRunOf(t, s, m, limit, done, 13)
	}
	for _, limit := range []int{-1, -2, 20001, 20002, 1 << 32, 1<<32 + 1, math.MinInt, math.MaxInt} {
		wantRunOf(t, s, m, limit, m, 0)
		wantRunOf(t, s, done, limit, done, 0)
	}
}

func TestPromise11EndlessRuns(t *testing.T) {
	// while has OpConst, OpZero and OpJump in each round, behind the OpSpace of main.
	s, _ := impl.LoadSpace(linesOf(t, "fun main;while 1;end;end"), impl.Build{}, 100, 200)
	m, _ := impl.NewMachine(s)
	for limit, pc := range map[int]int{1: 102, 2: 107, 3: 110, 4: 102, 19999: 102, 20000: 107} {
		got, steps := impl.RunMachine(s, m, limit)
		if steps != limit || got.Pc != pc || got.State != impl.MachineRuns || len(got.Out) > 0 {
			t.Errorf("with the limit %d the run has %d steps up to %d", limit, steps, got.Pc)
		}
	}
	// Each call of main has a return address and, with a frame, a frame address: 1199 and 599 more of them fit, and then a step is bad.
	for frames, want := range [][3]int{{2*1200 + 0, 0, 100 + 2}, {2*600 + 0, 0, 100 + 2}} {
		s, _ := impl.LoadSpace(linesOf(t, "fun main;return main/0;end"), impl.Build{Frames: frames}, 100, 200)
		m, _ := impl.NewMachine(s)
		got, steps := impl.RunMachine(s, m, 20000)
		if steps != want[0] || got.State != impl.MachineBad || got.Sp != want[1] || got.Pc != want[2] || got.Value != 0 {
			t.Error("unexpected end of endless calls", frames, steps, got.State, got.Sp, got.Pc)
		}
		// The bad step counts as well, and nothing is performed behind it.
		wantRunOf(t, s, m, steps, got, steps)
		before, n := impl.RunMachine(s, m, steps-1)
		if n != steps-1 || before.State != impl.MachineRuns {
			t.Error("the bad step is not the last one")
		}
		wantRunOf(t, s, before, 1, got, 1)
		wantRunOf(t, s, got, 100, got, 0)
	}
}

// wantRunsAsMeant runs a program that is built and loaded somewhere, up to its end, and compares it with the interpreter. It returns the machine at the end, and what the interpreter found.
func wantRunsAsMeant(t *testing.T, p []impl.Line, b impl.Build, first int, second int) (impl.Machine, impl.Run) {
	t.Helper()
	s, ok := impl.LoadSpace(p, b, first, second)
	if !ok {
		t.Fatalf("%q with %v is not loaded at %d and %d", impl.FormatProgram(p), b, first, second)
	}
	meant := impl.Interpret(p, largestLimit)
	m, _ := impl.NewMachine(s)
	m, _ = impl.RunMachine(s, m, 20000)
	for rounds := 0; meant.Code == impl.RunDone && m.State == impl.MachineRuns && rounds < 10; rounds++ {
		m, _ = impl.RunMachine(s, m, 20000)
	}
	if !impl.MachineOk(m) {
		t.Fatalf("the machine of %q with %v is not valid: %s", impl.FormatProgram(p), b, machineText(m, m))
	}
	same := slices.Equal(m.Out, meant.Out)
	if meant.Code == impl.RunDone {
		// There are at most MaxDepth calls, and the stack has room for them.
		same = same && m.State == impl.MachineDone && m.Value == meant.Value && m.Pc == 0 && m.Sp == 1199 && m.Fp == 1200
	} else {
		// The machine goes on where the interpreter stops.
		same = len(m.Out) >= len(meant.Out) && slices.Equal(m.Out[:len(meant.Out)], meant.Out)
	}
	if !same {
		t.Fatalf("the machine of %q with %v at %d and %d ends with %s, want out %v value %d code %d", impl.FormatProgram(p), b, first, second, machineText(m, m), meant.Out, meant.Value, meant.Code)
	}
	return m, meant
}

// manyBases are bases at which the images of any program fit, in both orders, with and without much between them.
func manyBases() [][2]int {
	return [][2]int{{1, 1000000}, {1000000, 1}, {100, 20000}, {70000, 7}, {500000, 530000}}
}

func TestPromise11EachBuild(t *testing.T) {
	for _, x := range []struct {
		text  string
		out   []int
		value int
	}{
		{"fun main;end", nil, 0},
		{calledProduct, []int{6}, 0},
		{operandCalls, nil, 2},
		{"fun main;return 7;out 1;end", nil, 7},
		{"fun main;set x 3;while x;out * x x;set x - x 1;end;return - 0 x;end", []int{9, 4, 1}, 0},
		{"fun main;out f/1 5;out f/1 0;end;fun f n;if < n 2;return 1;else;return * n f/1 - n 1;end;end", []int{120, 1}, 0},
		{"fun main;set a g/2 1 2;out a;return - a 1;end;fun g x y;set z * x 10;out z;return + z h/2 y x;end;fun h x y;return - x y;end", []int{10, 11}, 10},
		{"fun main;out * 999 * 999 * 999 999;out - 0 * 999 * 999 * 999 999;out < - 0 1 0;out = * 2 3 6;end", []int{-426416671, 426416671, 1, 1}, 0},
		{"fun main;out k/4 1 2 3 4;end;fun k a b c d;set e + a * 10 + b * 10 + c * 10 d;out e;set a 0;return - e a;end", []int{4321, 4321}, 0},
	} {
		p := linesOf(t, x.text)
		for inline := range impl.MaxInline + 1 {
			for frames := range 1 << functionCount(p) {
				for i := range 4 {
					b := impl.Build{Frames: frames, Inline: inline, Fold: i%2 > 0, Split: i > 1}
					for _, bases := range manyBases() {
						m, meant := wantRunsAsMeant(t, p, b, bases[0], bases[1])
						if meant.Code != impl.RunDone || !slices.Equal(m.Out, x.out) || m.Value != x.value {
							t.Fatalf("%q with %v puts out %v and gives %d, want %v and %d", x.text, b, m.Out, m.Value, x.out, x.value)
						}
					}
				}
			}
		}
	}
}

func TestPromise11EachStructure(t *testing.T) {
	lines, builds, done := linesOf(t, "if x;else;while < x 2;out f/1 x;return x;end"), fewBuilds(), 0
	for i, list := range listsUpTo(lines, 5) {
		p := slices.Concat(linesOf(t, "fun main;set y g/1 3;out + y g/1 0;end;fun g x"), list, linesOf(t, "end;fun f z;out z;set v z;return + z v;end"))
		if !impl.ProgramOk(p) {
			continue
		}
		for k := range 3 {
			m, _ := wantRunsAsMeant(t, p, builds[(i+5*k)%len(builds)], 1+i%1000, 20000+i)
			done += m.State
		}
	}
	if done < 200 {
		t.Error("only", done, "programs are done")
	}
}

// allMadePrograms has those that mostly call as well.
func allMadePrograms() [][]impl.Line {
	programs := madePrograms()
	for seed := range int64(600) {
		p, ok := impl.ParseProgram(strings.ReplaceAll(madeCaller(seed), ";", "\n") + "\n")
		if ok && impl.ProgramOk(p) {
			programs = append(programs, p)
		}
	}
	return programs
}

func TestPromise11MadePrograms(t *testing.T) {
	builds, bases, states, codes := fewBuilds(), manyBases(), map[int]int{}, map[int]int{}
	for i, p := range allMadePrograms() {
		if i%3 == 0 {
			continue
		}
		b, other := builds[i%len(builds)], builds[(i/16+5)%len(builds)]
		b.Frames, other.Frames = b.Frames^i%64, other.Frames^i/64%64
		at, otherAt := [2]int{1 + i*7919%400000, 500000 + i*104729%500000}, bases[i%5]
		if i%2 > 0 {
			at[0], at[1] = at[1], at[0]
		}
		m, meant := wantRunsAsMeant(t, p, b, at[0], at[1])
		again, _ := wantRunsAsMeant(t, p, other, otherAt[0], otherAt[1])
		states[m.State]++
		codes[meant.Code]++
		// Two builds do the same, even where the interpreter stops earlier.
		if m.State == impl.MachineDone && again.State == impl.MachineDone && (m.Value != again.Value || !slices.Equal(m.Out, again.Out)) {
			t.Fatalf("%q puts out %v with %v and %v with %v", impl.FormatProgram(p), m.Out, b, again.Out, other)
		}
	}
	if states[impl.MachineDone] < 500 || states[impl.MachineBad] < 500 || states[impl.MachineRuns] < 20 || codes[impl.RunDone] < 500 || codes[impl.RunDepth] < 100 {
		t.Error("the runs end too much alike", states, codes)
	}
}

// wantContinued runs a machine in two parts, and compares it with a run in one.
func wantContinued(t *testing.T, s impl.Space, m impl.Machine, limit int, whole impl.Machine, steps int) {
	t.Helper()
	part, n := impl.RunMachine(s, m, limit)
	if n != min(limit, steps) || n < steps && part.State != impl.MachineRuns {
		t.Fatalf("a part of %d steps ends after %d in the state %d, and the whole has %d", limit, n, part.State, steps)
	}
	wantRunOf(t, s, part, 20000-n, whole, steps-n)
}

func TestPromise11ContinuedRuns(t *testing.T) {
	builds, states := fewBuilds(), map[int]int{}
	for i, p := range allMadePrograms() {
		if i%25 > 0 {
			continue
		}
		s, _ := impl.LoadSpace(p, builds[i/25%len(builds)], 100, 20000+i)
		m, _ := impl.NewMachine(s)
		whole, steps := impl.RunMachine(s, m, 20000)
		for _, limit := range []int{0, 1, 2, 3, i % (steps + 1), steps / 2, steps - 1, steps, min(steps+1, 20000), 20000} {
			wantContinued(t, s, m, limit, whole, steps)
		}
		states[whole.State]++
		// Parts of the same length, one after the other.
		now, sum := m, 0
		for length := 1 + i%90; now.State == impl.MachineRuns && sum < steps; {
			part, n := impl.RunMachine(s, now, min(length, steps-sum))
			now, sum = part, sum+n
		}
		wantMachine(t, "the machine after many short runs", now, whole)
		if sum != steps {
			t.Fatalf("many short runs have %d steps, and one long run has %d", sum, steps)
		}
	}
	if states[impl.MachineDone] < 50 || states[impl.MachineBad] < 10 || states[impl.MachineRuns] < 1 {
		t.Error("the runs that are continued end too much alike", states)
	}
}

func TestPromise11SingleSteps(t *testing.T) {
	builds, ended := fewBuilds(), 0
	for i, p := range allMadePrograms() {
		if i%40 > 0 {
			continue
		}
		s, _ := impl.LoadSpace(p, builds[i/40%len(builds)], 100, 20000+i)
		now, _ := impl.NewMachine(s)
		m := now
		for steps := range 150 {
			if steps%10 == i%10 {
				wantRunOf(t, s, m, steps, now, steps)
			}
			next := impl.StepMachine(s, now)
			wantMachine(t, "the next machine", next, readStep(s, now))
			now = next
			if now.State != impl.MachineRuns {
				wantRunOf(t, s, m, 20000, now, steps+1)
				wantMachine(t, "the machine at its end", impl.StepMachine(s, now), now)
				ended++
				break
			}
		}
	}
	if ended < 20 {
		t.Error("only", ended, "runs ended")
	}
}

// scribbled changes all words that a machine could reach.
func scribbled(m impl.Machine) {
	for _, list := range [][]int{m.Stack[:cap(m.Stack)], m.Out[:cap(m.Out)]} {
		for at := range list {
			list[at] = -99
		}
	}
}

func TestPromise11ArgumentsAreKept(t *testing.T) {
	s, _ := impl.LoadSpace(linesOf(t, calledProduct), impl.Build{Split: true}, 100, 200)
	wantSpace := impl.Space{Images: slices.Clone(s.Images), Bases: slices.Clone(s.Bases), Entries: slices.Clone(s.Entries)}
	// There is more memory behind the words that are put out and those of the stack.
	stack, out := make([]int, 1300), []int{5, 6, 7, 8}
	m := impl.Machine{Pc: 115, Sp: 1197, Fp: 1200, Stack: stack[:1200:1300], Out: out[:2]}
	after := impl.StepMachine(s, m)
	ran, steps := impl.RunMachine(s, m, 100)
	if after.Pc != 116 || !slices.Equal(after.Out, []int{5, 6, 0}) || steps != 3 || !slices.Equal(ran.Out, []int{5, 6, 0}) || ran.State != impl.MachineDone {
		t.Error("unexpected machines", after.Out, ran.Out, steps)
	}
	if !slices.Equal(stack, make([]int, 1300)) || !slices.Equal(out, []int{5, 6, 7, 8}) || !sameSpace(s, wantSpace) {
		t.Error("an argument has changed", out)
	}
}

func TestPromise11ResultsShareNoMemory(t *testing.T) {
	s, _ := impl.LoadSpace(linesOf(t, calledProduct), impl.Build{Split: true}, 100, 200)
	m, _ := impl.NewMachine(s)
	other, _ := impl.NewMachine(s)
	scribbled(other)
	wantMachine(t, "the other new machine", m, impl.Machine{Pc: 100, Sp: 1199, Fp: 1200, Stack: make([]int, 1200)})
	bad, done, space := machineAt(1200, 5), machineAt(600, 5), impl.Space{}
	done.State = impl.MachineDone
	short := machineAt(600, 5)
	short.Stack = short.Stack[:7]
	for _, given := range []impl.Machine{m, bad, done, short} {
		before := copyOf(given)
		scribbled(impl.StepMachine(s, given))
		scribbled(impl.StepMachine(space, given))
		for _, limit := range []int{-1, 0, 1, 100, 20001} {
			for _, s := range []impl.Space{s, space} {
				ran, _ := impl.RunMachine(s, given, limit)
				scribbled(ran)
			}
		}
		wantMachine(t, "the machine given", given, before)
	}
	ran, _ := impl.RunMachine(s, m, 100)
	again, _ := impl.RunMachine(s, m, 100)
	for at := range again.Out[:cap(again.Out)] {
		again.Out[:cap(again.Out)][at] = -9
	}
	if again.Stack[1199] != 0 || !slices.Equal(ran.Out, []int{6}) || ran.Stack[1194] != 2 {
		t.Error("two results share memory", ran.Out)
	}
}
