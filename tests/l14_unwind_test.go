package tests

import (
	"fmt"
	"math"
	"slices"
	"testing"

	"loop.example/g03314/impl"
)

// Promise 14: at every instruction unwinding finds exactly the return addresses of the calls under way.

// valuesGiven are a call without operands, a call with one, and a function that only gives a value.
const valuesGiven = "fun main;out f/0;end;fun f;return g/1 8;end;fun g x;return x;end"

func viewOf(pc int, sp int, fp int, words ...int) impl.View {
	return impl.View{Pc: pc, Sp: sp, Fp: fp, Words: words}
}

func sameView(a impl.View, b impl.View) bool {
	return a.Pc == b.Pc && a.Sp == b.Sp && a.Fp == b.Fp && slices.Equal(a.Words, b.Words)
}

func bothRules(p []impl.Line, b impl.Build) [][]impl.Rule {
	return [][]impl.Rule{impl.RulesOf(impl.PlacesOf(p, b, 0)), impl.RulesOf(impl.PlacesOf(p, b, 1))}
}

// readWords tells what a view knows of each address; the result is false if the view is not valid.
func readWords(v impl.View) (map[int]int, bool) {
	known := map[int]int{}
	if v.Sp < 0 || v.Sp > 1200 {
		return nil, false
	}
	for k, word := range v.Words {
		if v.Sp+k >= 1200 {
			return nil, false
		}
		known[v.Sp+k] = word
	}
	return known, true
}

// readCaller looks an address up byte by byte, and leaves words out one by one.
func readCaller(s impl.Space, rules [][]impl.Rule, v impl.View, inner bool) (impl.View, bool) {
	known, ok := readWords(v)
	bytes, valid := readSpace(s)
	address := v.Pc - 1
	if inner {
		address = v.Pc
	}
	at, there := bytes[address]
	if !ok || !valid || !there || len(rules) < 2 || len(rules) > 2 {
		return impl.View{}, false
	}
	found, _ := readFound(rules[at.image])
	k, there := found[at.offset]
	if !there {
		return impl.View{}, false
	}
	rule, back, fp, both := rules[at.image][k], 0, v.Fp, true
	if rule.Frame {
		back = v.Fp + 1
		fp, both = known[v.Fp]
	} else {
		back = v.Sp + rule.Depth
	}
	pc, there := known[back]
	if !there || !both {
		return impl.View{}, false
	}
	caller := impl.View{Pc: pc, Sp: v.Sp, Fp: fp, Words: v.Words}
	for caller.Sp <= back {
		caller.Sp, caller.Words = caller.Sp+1, caller.Words[1:]
	}
	return caller, true
}

func readCallers(s impl.Space, rules [][]impl.Rule, v impl.View) ([]int, bool) {
	caller, ok := readCaller(s, rules, v, true)
	list := []int{v.Pc}
	for ; ok && caller.Pc != 0 && len(list) < 40; caller, ok = readCaller(s, rules, caller, false) {
		list = append(list, caller.Pc)
	}
	return list, ok && caller.Pc == 0 && len(list) < 40
}

func wantViewed(t *testing.T, m impl.Machine, most int, want impl.View) {
	t.Helper()
	if got := impl.ViewOf(m, most); !sameView(got, want) {
		t.Fatalf("ViewOf with sp %d, state %d, %d words and %d is %v, want %v", m.Sp, m.State, len(m.Stack), most, got, want)
	}
}

func wantWord(t *testing.T, v impl.View, address int, want int, known bool) {
	t.Helper()
	if word, ok := impl.WordOf(v, address); word != want || ok != known {
		t.Fatalf("WordOf(%v, %d) = %d, %v, want %d, %v", v, address, word, ok, want, known)
	}
}

func wantCaller(t *testing.T, s impl.Space, rules [][]impl.Rule, v impl.View, inner bool, want impl.View) {
	t.Helper()
	if got, ok := impl.UnwindStep(s, rules, v, inner); !ok || !sameView(got, want) {
		t.Fatalf("UnwindStep(%v, %v, %v, %v) = %v, %v, want %v", s, rules, v, inner, got, ok, want)
	}
}

func wantNoCaller(t *testing.T, s impl.Space, rules [][]impl.Rule, v impl.View, inner bool) {
	t.Helper()
	if got, ok := impl.UnwindStep(s, rules, v, inner); ok || !sameView(got, impl.View{}) {
		t.Fatalf("UnwindStep(%v, %v, %v, %v) = %v, %v, want the zero View, false", s, rules, v, inner, got, ok)
	}
}

func wantUnwound(t *testing.T, s impl.Space, rules [][]impl.Rule, v impl.View, end bool, want ...int) {
	t.Helper()
	if got, ok := impl.Unwind(s, rules, v); ok != end || !slices.Equal(got, want) {
		t.Fatalf("Unwind(%v, %v, %v) = %v, %v, want %v, %v", s, rules, v, got, ok, want, end)
	}
}

func wantNotUnwound(t *testing.T, s impl.Space, rules [][]impl.Rule, v impl.View) {
	t.Helper()
	wantNoCaller(t, s, rules, v, true)
	wantNoCaller(t, s, rules, v, false)
	wantUnwound(t, s, rules, v, false, v.Pc)
}

// wantAsRead compares both functions with the test's own reading, and returns how many steps had a caller.
func wantAsRead(t *testing.T, s impl.Space, rules [][]impl.Rule, v impl.View) int {
	t.Helper()
	callers := 0
	for _, inner := range []bool{true, false} {
		if want, ok := readCaller(s, rules, v, inner); ok {
			wantCaller(t, s, rules, v, inner, want)
			callers++
		} else {
			wantNoCaller(t, s, rules, v, inner)
		}
	}
	want, end := readCallers(s, rules, v)
	wantUnwound(t, s, rules, v, end, want...)
	return callers
}

func TestPromise14Constants(t *testing.T) {
	if impl.MaxStackFrames != 40 {
		t.Error("MaxStackFrames is", impl.MaxStackFrames)
	}
}

func TestPromise14ViewOk(t *testing.T) {
	wantOk := func(v impl.View, want bool) {
		t.Helper()
		if got := impl.ViewOk(v); got != want {
			t.Errorf("ViewOk with sp %d and %d words is %v", v.Sp, len(v.Words), got)
		}
	}
	words := make([]int, 3000)
	wantOk(impl.View{}, true)
	for sp := -30; sp < 1230; sp++ {
		room := 1200 - sp
		for _, count := range []int{0, 1, 2, room - 1, room, room + 1, room + 2, 600, 1199, 1200, 1201, 2400} {
			if count >= 0 {
				wantOk(viewOf(0, sp, 0, words[:count]...), sp >= 0 && sp <= 1200 && count <= room)
				wantOk(viewOf(0, sp, 0, words[:count:count]...), sp >= 0 && sp <= 1200 && count <= room)
			}
		}
	}
	for _, n := range []int{math.MinInt, math.MinInt + 1, math.MinInt + 1200, -1200, -1 << 32, 1201, 1 << 32, 1<<32 + 5, math.MaxInt - 1, math.MaxInt} {
		for _, count := range []int{0, 1, 1200} {
			wantOk(viewOf(0, n, 0, words[:count]...), false)
		}
		// All other fields may be anything.
		wantOk(viewOf(n, 1198, n, n, n), true)
		wantOk(viewOf(n, 1199, n, n, n), false)
		wantOk(viewOf(n, 0, n, slices.Repeat([]int{n}, 1200)...), true)
		wantOk(viewOf(n, 0, n, slices.Repeat([]int{n}, 1201)...), false)
	}
}

func TestPromise14ViewOf(t *testing.T) {
	for _, sp := range []int{0, 1, 2, 599, 600, 1198, 1199, 1200} {
		for _, fp := range []int{0, 700, 1200, -1, math.MinInt, math.MaxInt} {
			for _, most := range []int{0, 1, 2, 3, 599, 600, 601, 1198, 1199, 1200, 1201, 2400, 1 << 32, math.MaxInt - 1200, math.MaxInt} {
				m, want := machineAt(sp, fp), viewOf(100, sp, fp)
				for address := sp; address < 1200 && address-sp < most; address++ {
					want.Words = append(want.Words, 10000+address)
				}
				for _, m.State = range []int{impl.MachineRuns, impl.MachineDone, impl.MachineBad} {
					wantViewed(t, m, most, want)
				}
				if v := impl.ViewOf(m, most); !impl.ViewOk(v) {
					t.Fatal("a view is not valid", sp, most)
				}
			}
			for _, most := range []int{-1, -2, -600, -1200, -1 << 32, math.MinInt, math.MinInt + 1} {
				wantViewed(t, machineAt(sp, fp), most, impl.View{})
			}
		}
	}
	for _, pc := range []int{0, 1, -1, 2000000, math.MinInt, math.MaxInt} {
		m := machineAt(1198, 5)
		m.Pc = pc
		wantViewed(t, m, 1, viewOf(pc, 1198, 5, 11198))
		wantViewed(t, m, 2, viewOf(pc, 1198, 5, 11198, 11199))
	}
	for _, m := range invalidMachines() {
		for _, most := range []int{math.MinInt, -1, 0, 1, 2, 600, 1200, math.MaxInt} {
			wantViewed(t, m, most, impl.View{})
		}
	}
}

func TestPromise14WordOf(t *testing.T) {
	far := append(farAddresses(), -2, -5, 1199, 1200, 1201, 1195, math.MinInt+5, math.MinInt+1199, math.MaxInt-1199)
	check := func(v impl.View, addresses ...int) {
		t.Helper()
		known, ok := readWords(v)
		if got := impl.ViewOk(v); got != ok {
			t.Fatalf("ViewOk(%v) = %v", v, got)
		}
		for _, address := range append(addresses, far...) {
			word, there := known[address]
			wantWord(t, v, address, word, there)
		}
	}
	v := viewOf(3, 5, 4, 7, -8, 0, 1200)
	for address, want := range []struct {
		word  int
		known bool
	}{5: {7, true}, 6: {-8, true}, 7: {0, true}, 8: {1200, true}, 11: {}} {
		wantWord(t, v, address, want.word, want.known)
	}
	words := make([]int, 1300)
	for k := range words {
		words[k] = 1 + k
	}
	for _, sp := range []int{0, 1, 2, 5, 600, 1197, 1198, 1199, 1200} {
		for _, count := range []int{0, 1, 2, 3, 4, 598, 599, 600, 601, 1197, 1198, 1199, 1200, 1201} {
			// There may be memory behind the words, which is not known.
			check(viewOf(7, sp, 9, words[:count]...), sp-2, sp-1, sp, sp+1, sp+2, sp+count-1, sp+count, sp+count+1)
		}
	}
	for _, sp := range []int{-1, -2, -600, -1200, 1201, 1202, 1 << 32, math.MinInt, math.MaxInt, math.MaxInt - 1} {
		for _, count := range []int{0, 1, 2, 3, 1200} {
			check(viewOf(7, sp, 9, words[:count]...), 1, 2, 3, sp, sp+1, sp+count-1, sp+count)
		}
	}
	for sp := -3; sp < 6; sp++ {
		for count := range 7 {
			for address := -6; address < 15; address++ {
				check(viewOf(0, sp, 0, words[:count]...), address)
				check(viewOf(0, 1200-sp, 0, words[:count]...), 1200-address)
			}
		}
	}
}

func TestPromise14StepsWithoutFrames(t *testing.T) {
	p := linesOf(t, calledProduct)
	s, _ := impl.LoadSpace(p, impl.Build{}, 100, 9000)
	rules := bothRules(p, impl.Build{})
	// main is at 100, its call at 107, and f at 124. Fp is never changed.
	main := viewOf(109, 1197, 1200, 2, 0, 0)
	start := viewOf(0, 1200, 1200)
	for _, v := range []impl.View{
		viewOf(124, 1196, 1200, 109, 2, 0, 0), viewOf(126, 1196, 1200, 109, 2, 0, 0), viewOf(131, 1195, 1200, 3, 109, 2, 0, 0),
		viewOf(134, 1194, 1200, 2, 3, 109, 2, 0, 0), viewOf(135, 1195, 1200, 6, 109, 2, 0, 0),
		viewOf(138, 1196, 1200, 109, 2, 0, 0), viewOf(143, 1195, 1200, 0, 109, 2, 0, 0),
	} {
		wantCaller(t, s, rules, v, true, main)
		wantUnwound(t, s, rules, v, true, v.Pc, 109)
	}
	wantCaller(t, s, rules, main, false, start)
	for _, v := range []impl.View{
		viewOf(100, 1199, 1200, 0), viewOf(102, 1198, 1200, 0, 0), viewOf(107, 1197, 1200, 2, 0, 0), viewOf(109, 1197, 1200, 6, 0, 0),
		viewOf(112, 1198, 1200, 6, 0), viewOf(115, 1197, 1200, 6, 6, 0), viewOf(116, 1198, 1200, 6, 0), viewOf(121, 1197, 1200, 0, 6, 0),
	} {
		wantCaller(t, s, rules, v, true, start)
		wantUnwound(t, s, rules, v, true, v.Pc)
		v.Words = v.Words[:len(v.Words)-1]
		wantNoCaller(t, s, rules, v, true)
		wantUnwound(t, s, rules, v, false, v.Pc)
	}
	// With fewer words: the return address into main is the third one, and that of main the sixth.
	words := []int{2, 3, 109, 2, 0, 0}
	for count := range 7 {
		v, want := viewOf(134, 1194, 1200, words[:count]...), []int{134}
		if count > 2 {
			want = append(want, 109)
		}
		wantUnwound(t, s, rules, v, count == 6, want...)
	}
	// At the end there is no instruction.
	wantNotUnwound(t, s, rules, viewOf(0, 1199, 1200, 0))
}

func TestPromise14StepsWithFrames(t *testing.T) {
	p := linesOf(t, calledProduct)
	b := impl.Build{Frames: 3, Split: true}
	s, _ := impl.LoadSpace(p, b, 100, 300)
	rules := bothRules(p, b)
	// main is at 100, its call at 107, and f at 300. Each frame has a word behind the return address.
	main := viewOf(109, 1196, 1198, 2, 0, 1200, 0)
	start := viewOf(0, 1200, 1200)
	for _, v := range []impl.View{
		viewOf(300, 1195, 1198, 109, 2, 0, 1200, 0), viewOf(302, 1194, 1194, 1198, 109, 2, 0, 1200, 0), viewOf(307, 1193, 1194, 3, 1198, 109, 2, 0, 1200, 0),
		viewOf(310, 1192, 1194, 2, 3, 1198, 109, 2, 0, 1200, 0), viewOf(311, 1193, 1194, 6, 1198, 109, 2, 0, 1200, 0),
	} {
		wantCaller(t, s, rules, v, true, main)
		wantUnwound(t, s, rules, v, true, v.Pc, 109)
	}
	wantCaller(t, s, rules, main, false, start)
	wantCaller(t, s, rules, viewOf(100, 1199, 1200, 0), true, start)
	wantCaller(t, s, rules, viewOf(102, 1197, 1198, 0, 1200, 0), true, start)
	// With fewer words: with the frame address of main alone, its return address is not known yet.
	words := []int{2, 3, 1198, 109, 2, 0, 1200, 0}
	for count := range 9 {
		v, want := viewOf(310, 1192, 1194, words[:count]...), []int{310}
		if count > 3 {
			want = append(want, 109)
		}
		wantUnwound(t, s, rules, v, count == 8, want...)
	}
	// A function without a frame between two with one: Fp is that of main until the second one begins.
	p, b = linesOf(t, valuesGiven), impl.Build{Frames: 5}
	s, _ = impl.LoadSpace(p, b, 100, 9000)
	wantUnwound(t, s, bothRules(p, b), viewOf(s.Entries[2]+2, 1194, 1194, 1198, s.Entries[1]+9, 8, s.Entries[0]+4, 1200, 0), true, s.Entries[2]+2, s.Entries[1]+9, s.Entries[0]+4)
	wantCaller(t, s, bothRules(p, b), viewOf(s.Entries[1]+9, 1196, 1198, 8, s.Entries[0]+4, 1200, 0), false, viewOf(s.Entries[0]+4, 1198, 1198, 1200, 0))
}

// twoFunctions are a function that ends with a call, one of three bytes, and one in an image directly behind them.
func twoFunctions() (impl.Space, [][]impl.Rule) {
	code := readBytes(impl.Op{Code: impl.OpCall, Arg: 1}) + "\x05\x05\x05"
	first := impl.Image{Code: code, Symbols: []impl.Symbol{{Name: "a", Size: 2}, {Name: "b", Start: 2, Size: 3}}}
	return spaceOf(first, plain(2), 10, 15, 10, 12, 15), [][]impl.Rule{{depthRule(0, 2, 1), depthRule(2, 5, 2)}, {depthRule(0, 2, 0)}}
}

func TestPromise14Inner(t *testing.T) {
	s, rules := twoFunctions()
	words := []int{70, 71, 72, 73}
	v := func(pc int) impl.View { return viewOf(pc, 900, -7, words...) }
	deep := []impl.View{viewOf(70, 901, -7, 71, 72, 73), viewOf(71, 902, -7, 72, 73), viewOf(72, 903, -7, 73)}
	// At the first instruction of a function, which follows a call, there is its own rule only if inner is true.
	for pc, depth := range map[int]int{10: 1, 11: 1, 12: 2, 13: 2, 14: 2, 15: 0, 16: 0} {
		wantCaller(t, s, rules, v(pc), true, deep[depth])
		wantCaller(t, s, rules, v(pc+1), false, deep[depth])
		wantUnwound(t, s, rules, v(pc), false, pc, deep[depth].Pc)
	}
	// Before the first image, and behind the last one; a call may be the last instruction there, too.
	wantNoCaller(t, s, rules, v(10), false)
	wantNoCaller(t, s, rules, v(9), true)
	wantNoCaller(t, s, rules, v(9), false)
	wantNoCaller(t, s, rules, v(17), true)
	wantNoCaller(t, s, rules, v(18), false)
	for _, far := range append(farAddresses(), 8, 18, 19) {
		wantNotUnwound(t, s, rules, v(far))
	}
	// From b, called by a, back to a alone, since what a returns to is 0: from 12, where b begins, with the depth of a.
	wantUnwound(t, s, rules, viewOf(13, 1190, 0, 5, 6, 12, 7, 0), true, 13, 12)
	wantUnwound(t, s, rules, viewOf(12, 1190, 0, 5, 6, 12, 7, 0), true, 12, 12)
	// The same with the other depth would find 0 one word later.
	wantUnwound(t, s, rules, viewOf(13, 1190, 0, 5, 6, 12, 7, 8, 0), false, 13, 12, 8)
	wantUnwound(t, s, rules, viewOf(13, 1190, 0, 5, 6, 13, 7, 8, 0), true, 13, 13)
	// A compiled call without operands: behind it, there is a value more than before it.
	p := linesOf(t, valuesGiven)
	s, _ = impl.LoadSpace(p, impl.Build{}, 100, 9000)
	called := viewOf(s.Entries[1], 1198, 1200, 104, 0)
	main := viewOf(104, 1199, 1200, 0)
	wantCaller(t, s, bothRules(p, impl.Build{}), called, true, main)
	wantCaller(t, s, bothRules(p, impl.Build{}), main, false, viewOf(0, 1200, 1200))
	wantNoCaller(t, s, bothRules(p, impl.Build{}), main, true)
	wantUnwound(t, s, bothRules(p, impl.Build{}), called, true, s.Entries[1], 104)
	wantUnwound(t, s, bothRules(p, impl.Build{}), main, false, 104)
	wantUnwound(t, s, bothRules(p, impl.Build{}), viewOf(104, 1198, 1200, 5, 0), true, 104)
}

func TestPromise14Depths(t *testing.T) {
	s, _ := twoFunctions()
	words := machineAt(0, 0).Stack
	for _, sp := range []int{0, 1, 600, 1198, 1199, 1200} {
		for _, count := range []int{0, 1, 2, 3, 600, 1198, 1199, 1200} {
			if count > 1200-sp {
				continue
			}
			for _, depth := range []int{0, 1, 2, 3, 599, 600, 601, 1197, 1198, 1199, 1200} {
				rules := [][]impl.Rule{{depthRule(0, 5, depth)}, nil}
				v := viewOf(10, sp, -9, words[:count]...)
				if depth >= count {
					wantNotUnwound(t, s, rules, v)
					continue
				}
				wantCaller(t, s, rules, v, true, viewOf(10000+depth, sp+depth+1, -9, words[depth+1:count]...))
				wantUnwound(t, s, rules, v, false, 10, 10000+depth)
			}
		}
	}
}

func TestPromise14FrameAddresses(t *testing.T) {
	s, _ := twoFunctions()
	rules := [][]impl.Rule{{frameRule(0, 5)}, nil}
	words := machineAt(0, 0).Stack
	for _, sp := range []int{0, 1, 600, 1197, 1198, 1199, 1200} {
		for _, count := range []int{0, 1, 2, 3, 4, 600, 1199, 1200} {
			if count > 1200-sp {
				continue
			}
			for _, fp := range []int{sp - 3, sp - 2, sp - 1, sp, sp + 1, sp + count - 3, sp + count - 2, sp + count - 1, sp + count, 0, -1, -2, 1198, 1199, 1200, 1<<32 + sp, math.MinInt, math.MaxInt - 1, math.MaxInt} {
				v := viewOf(11, sp, fp, words[:count]...)
				if fp < sp || fp >= sp+count-1 {
					// A frame that leads back to words before Sp, or to words that are not known.
					wantNotUnwound(t, s, rules, v)
					continue
				}
				at := fp - sp
				wantCaller(t, s, rules, v, true, viewOf(10000+at+1, fp+2, 10000+at, words[at+2:count]...))
				wantUnwound(t, s, rules, v, false, 11, 10000+at+1)
			}
		}
	}
	// The second frame is at the first one, or before it: the list ends.
	for _, fp := range []int{1190, 1189, 1191, 0, -1} {
		wantUnwound(t, s, rules, viewOf(11, 1189, 1190, 7, fp, 12, 8, 9, 0), false, 11, 12)
	}
	// It is directly behind it, and one word later.
	wantUnwound(t, s, rules, viewOf(11, 1189, 1190, 7, 1192, 12, 8, 0, 0), true, 11, 12)
	wantUnwound(t, s, rules, viewOf(11, 1189, 1190, 7, 1193, 12, 5, 8, 0), true, 11, 12)
	wantUnwound(t, s, rules, viewOf(11, 1189, 1190, 7, 1193, 12, 5, 8, 13, 0), false, 11, 12, 13)
}

func TestPromise14ReturnAddressZero(t *testing.T) {
	s, _ := twoFunctions()
	rules := [][]impl.Rule{{depthRule(0, 2, 0), frameRule(2, 5)}, nil}
	// What is behind it is not looked at.
	wantCaller(t, s, rules, viewOf(10, 700, 3, 0, 12, 13), true, viewOf(0, 701, 3, 12, 13))
	wantUnwound(t, s, rules, viewOf(10, 700, 3, 0, 12, 13), true, 10)
	wantCaller(t, s, rules, viewOf(13, 700, 701, 9, 0, 0, 12, 13), true, viewOf(0, 703, 0, 12, 13))
	wantUnwound(t, s, rules, viewOf(13, 700, 701, 9, 0, 0, 12, 13), true, 13)
	// It may be the last word of the stack, and behind it there is none.
	wantCaller(t, s, rules, viewOf(10, 1199, 3, 0), true, viewOf(0, 1200, 3))
	wantUnwound(t, s, rules, viewOf(10, 1199, 3, 0), true, 10)
	wantCaller(t, s, rules, viewOf(14, 1198, 1198, 5, 0), true, viewOf(0, 1200, 5))
	// Pc of the view itself is always the first element.
	for _, pc := range []int{0, -1, 1, math.MinInt, math.MaxInt} {
		wantNotUnwound(t, s, rules, viewOf(pc, 1190, 1191, 0, 0, 0, 0))
	}
	// Other return addresses are part of the list, even if no instruction is there.
	for _, back := range []int{-1, 1, math.MinInt, math.MinInt + 1, math.MaxInt, 10, 16, 1 << 32} {
		wantCaller(t, s, rules, viewOf(10, 1190, 1191, back, 0, 0), true, viewOf(back, 1191, 1191, 0, 0))
		wantUnwound(t, s, rules, viewOf(10, 1190, 1191, back, 0, 0), false, 10, back)
	}
}

func TestPromise14MaxStackFrames(t *testing.T) {
	s, rules := twoFunctions()
	rules[0] = []impl.Rule{depthRule(0, 2, 0), frameRule(2, 5)}
	for count := range 60 {
		// Without frames, each word is a return address.
		words := slices.Repeat([]int{12}, count)
		list := append([]int{10}, words[:min(count, 39)]...)
		wantUnwound(t, s, rules, viewOf(10, 1000, 5, append(words, 0)...), count < 39, list...)
		wantUnwound(t, s, rules, viewOf(10, 1000, 5, words...), false, list...)
		// What follows the last step is not looked at.
		wantUnwound(t, s, rules, viewOf(10, 1000, 5, append(words, 0, 10, 10)...), count < 39, list...)
		// With frames, each frame address is that of the one behind it.
		words = nil
		for k := range count {
			words = append(words, 1002+2*k, 13)
		}
		list = append([]int{14}, slices.Repeat([]int{13}, min(count, 39))...)
		wantUnwound(t, s, rules, viewOf(14, 1000, 1000, append(words, 5, 0)...), count < 39, list...)
		wantUnwound(t, s, rules, viewOf(14, 1000, 1000, words...), false, list...)
	}
	// Stacks that never end.
	wantUnwound(t, s, rules, viewOf(10, 0, 5, slices.Repeat([]int{11}, 1200)...), false, append([]int{10}, slices.Repeat([]int{11}, 39)...)...)
	wantUnwound(t, s, rules, viewOf(10, 0, 5, slices.Repeat([]int{12}, 1200)...), false, append([]int{10}, slices.Repeat([]int{12}, 39)...)...)
	wantUnwound(t, s, rules, viewOf(10, 1160, 5, slices.Repeat([]int{12}, 40)...), false, append([]int{10}, slices.Repeat([]int{12}, 39)...)...)
}

func TestPromise14InvalidSpaces(t *testing.T) {
	rules := [][]impl.Rule{{depthRule(0, 5, 0)}, {depthRule(0, 5, 0)}}
	for _, s := range invalidSpaces() {
		for _, pc := range []int{10, 11, 14, 30, 31, 0, -1} {
			wantNotUnwound(t, s, rules, viewOf(pc, 600, 601, 10, 11, 0))
		}
	}
	wantUnwound(t, spaceOf(plain(2, 3), plain(1, 4), 10, 30, 10), rules, viewOf(10, 600, 601, 11, 31, 0), true, 10, 11, 31)
}

func TestPromise14InvalidViews(t *testing.T) {
	s, _ := twoFunctions()
	for _, rules := range [][][]impl.Rule{{{depthRule(0, 5, 0)}, nil}, {{depthRule(0, 5, 1)}, nil}, {{frameRule(0, 5)}, nil}} {
		for _, sp := range []int{-1, -2, -1200, 1201, 1202, 1 << 32, math.MinInt, math.MaxInt, math.MaxInt - 1} {
			for _, words := range [][]int{nil, {0}, {0, 0}, {10, 10, 10, 0}} {
				wantNotUnwound(t, s, rules, viewOf(11, sp, sp, words...))
				wantNotUnwound(t, s, rules, viewOf(11, sp, sp+1, words...))
			}
		}
		for _, count := range []int{3, 4, 1200, 1201} {
			v := viewOf(11, 1198, 1198, slices.Repeat([]int{11}, count)...)
			wantNotUnwound(t, s, rules, v)
			v.Sp = 0
			v.Fp = 0
			if _, ok := impl.UnwindStep(s, rules, v, true); ok != (count <= 1200) {
				t.Error("unexpected step with", count, "words", ok)
			}
		}
	}
}

func TestPromise14InvalidRules(t *testing.T) {
	s, _ := twoFunctions()
	v := viewOf(12, 1190, 1191, 11, 11, 11, 0)
	other := viewOf(16, 1190, 1191, 16, 16, 16, 0)
	good := []impl.Rule{depthRule(0, 2, 0), depthRule(2, 5, 1)}
	for _, rules := range [][][]impl.Rule{nil, {}, {good}, {nil}, {good, good, nil}, {good, good, good}, {nil, nil, nil}, {good, good, good, good}} {
		wantNotUnwound(t, s, rules, v)
		wantNotUnwound(t, s, rules, other)
	}
	wantUnwound(t, s, [][]impl.Rule{good, good}, v, true, 12, 11, 11)
	for _, bad := range [][]impl.Rule{
		{depthRule(0, 2, 0), depthRule(2, 5, -1)}, {depthRule(0, 5, 0), depthRule(4, 6, 0)}, {depthRule(2, 5, 0), depthRule(0, 2, 0)}, {depthRule(-1, 5, 0)}, {depthRule(0, 5, 0), depthRule(9, 9, 0)},
		{depthRule(0, 5, 0), depthRule(9, 1000001, 0)}, {depthRule(0, 5, 0), depthRule(6, 7, 1201)}, {{Start: 0, End: 5, Frame: true, Depth: 1}}, {frameRule(0, 5), depthRule(7, 6, 0)},
	} {
		wantNotUnwound(t, s, [][]impl.Rule{bad, good}, v)
		wantNotUnwound(t, s, [][]impl.Rule{good, bad}, other)
		// The rules of the other image are not asked for.
		wantUnwound(t, s, [][]impl.Rule{good, bad}, v, true, 12, 11, 11)
		wantCaller(t, s, [][]impl.Rule{bad, good}, other, true, viewOf(16, 1191, 1191, 16, 16, 0))
		// They are, if a caller is there.
		wantUnwound(t, s, [][]impl.Rule{good, bad}, viewOf(10, 1190, 1191, 16, 16, 0), false, 10, 16)
	}
	// Places without a rule: before all rules, between two of them, and behind all.
	gaps := [][]impl.Rule{{depthRule(1, 2, 0), depthRule(3, 4, 0)}, nil}
	for pc := 8; pc < 19; pc++ {
		v, caller := viewOf(pc, 1190, 3, 9, 8), viewOf(9, 1191, 3, 8)
		for i, at := range []int{pc, pc - 1} {
			if at == 11 || at == 13 {
				wantCaller(t, s, gaps, v, i == 0, caller)
			} else {
				wantNoCaller(t, s, gaps, v, i == 0)
			}
		}
	}
	// Within an instruction, there is the rule of the byte.
	p := linesOf(t, calledProduct)
	s, _ = impl.LoadSpace(p, impl.Build{}, 100, 9000)
	for pc := 102; pc < 107; pc++ {
		wantUnwound(t, s, bothRules(p, impl.Build{}), viewOf(pc, 1198, 5, 8, 0), true, pc)
	}
	wantUnwound(t, s, bothRules(p, impl.Build{}), viewOf(108, 1197, 5, 7, 8, 0), true, 108)
	for _, pc := range []int{99, 147, 8999, 9000, 9001} {
		wantNotUnwound(t, s, bothRules(p, impl.Build{}), viewOf(pc, 1190, 1190, 0, 0, 0, 0))
	}
}

func TestPromise14EachShortView(t *testing.T) {
	two, _ := twoFunctions()
	gap := spaceOf(plain(1, 1), plain(2), 1196, 1, 1)
	var lists [][]impl.Rule
	for _, a := range []impl.Rule{depthRule(0, 2, 0), depthRule(0, 2, 2), frameRule(0, 2), depthRule(1, 2, 1)} {
		lists = append(lists, []impl.Rule{a}, []impl.Rule{a, depthRule(2, 4, 1)}, []impl.Rule{a, frameRule(3, 5)})
	}
	lists = append(lists, nil, []impl.Rule{depthRule(0, 2, 0), depthRule(1, 5, 0)})
	views, callers, ends := 0, 0, 0
	for k, words := range listsUpTo([]int{0, 1, 2, 10, 12, 15, 1196, 1197, 1198}, 3) {
		for i, list := range lists {
			rules := [][]impl.Rule{list, lists[(i+k)%len(lists)]}
			for j, pc := range []int{1, 2, 3, 10, 12, 14, 15, 17, 1196, 1197, 1198} {
				s := two
				if pc < 10 || pc > 20 {
					s = gap
				}
				v := viewOf(pc, 1196+(k+i+j)%3, 1194+(k/3+j)%6, words...)
				callers += wantAsRead(t, s, rules, v)
				if _, end := impl.Unwind(s, rules, v); end {
					ends++
				}
				views++
			}
		}
	}
	if callers < views/10 || ends < views/100 {
		t.Error("too few of", views, "views have a caller or an end:", callers, ends)
	}
}

// underWay is a call of a run that has not ended: where it returns to, the place of this address in the stack, and Fp of the caller.
type underWay struct {
	back, at, fp int
}

// watch is a run that is performed instruction by instruction.
type watch struct {
	s     impl.Space
	rules [][]impl.Rule
	m     impl.Machine
	calls []underWay
	text  string
}

func newWatch(t *testing.T, p []impl.Line, b impl.Build, first int, second int) *watch {
	t.Helper()
	s, ok := impl.LoadSpace(p, b, first, second)
	m, _ := impl.NewMachine(s)
	if !ok {
		t.Fatalf("%q with %v is not loaded at %d and %d", impl.FormatProgram(p), b, first, second)
	}
	return &watch{s, bothRules(p, b), m, []underWay{{0, 1199, 1200}}, fmt.Sprintf("%q with %v at %d and %d", impl.FormatProgram(p), b, first, second)}
}

// step performs an instruction, and keeps account of the calls by its bytes.
func (w *watch) step(t *testing.T) {
	t.Helper()
	image, offset := impl.Locate(w.s, w.m.Pc)
	x, size, ok := readOp(w.s.Images[image].Code, offset)
	next := impl.StepMachine(w.s, w.m)
	if !ok {
		t.Fatalf("there is no instruction at %d of %s", w.m.Pc, w.text)
	}
	if next.State != impl.MachineBad {
		switch x.Code {
		case impl.OpCall:
			w.calls = append(w.calls, underWay{w.m.Pc + size, w.m.Sp - 1, w.m.Fp})
		case impl.OpLeave, impl.OpReturn:
			last := len(w.calls) - 1
			if next.Pc != w.calls[last].back || next.Fp != w.calls[last].fp {
				t.Fatalf("a call of %s returns to %d, want %d", w.text, next.Pc, w.calls[last].back)
			}
			w.calls = w.calls[:last]
		}
	}
	w.m = next
}

// found tells which elements Unwind has with at most most words, and whether it reaches the end.
func (w *watch) found(most int) ([]int, bool) {
	list := []int{w.m.Pc}
	for _, c := range slices.Backward(w.calls) {
		if len(list) == 40 || c.at >= w.m.Sp+most {
			return list, false
		}
		if c.back == 0 {
			return list, true
		}
		list = append(list, c.back)
	}
	return list, false
}

func (w *watch) want(t *testing.T, most int) {
	t.Helper()
	v := impl.ViewOf(w.m, most)
	if !sameView(v, viewOf(w.m.Pc, w.m.Sp, w.m.Fp, w.m.Stack[w.m.Sp:min(1200, w.m.Sp+most)]...)) {
		t.Fatalf("the view of %s at %d with at most %d words is %v", w.text, w.m.Pc, most, v)
	}
	want, end := w.found(most)
	if got, ok := impl.Unwind(w.s, w.rules, v); ok != end || !slices.Equal(got, want) {
		t.Fatalf("at %d of %s with at most %d words Unwind gives %v, %v, want %v, %v", w.m.Pc, w.text, most, got, ok, want, end)
	}
}

// wantSteps goes up to the function main, or some steps beyond those of Unwind.
func (w *watch) wantSteps(t *testing.T, most int) {
	t.Helper()
	v := impl.ViewOf(w.m, most)
	for k, c := range slices.Backward(w.calls) {
		caller, ok := impl.UnwindStep(w.s, w.rules, v, k == len(w.calls)-1)
		if k == len(w.calls)-50 {
			return
		}
		if c.at >= w.m.Sp+most {
			if ok || !sameView(caller, impl.View{}) {
				t.Fatalf("at %d of %s with at most %d words there is the caller %v", w.m.Pc, w.text, most, caller)
			}
			return
		}
		want := viewOf(c.back, c.at+1, c.fp, w.m.Stack[c.at+1:min(1200, w.m.Sp+most)]...)
		if !ok || !sameView(caller, want) {
			t.Fatalf("at %d of %s with at most %d words the caller is %v, %v, want %v", w.m.Pc, w.text, most, caller, ok, want)
		}
		v = caller
	}
}

// run compares at each instruction of up to limit ones, and returns their number and the greatest number of calls under way.
func (w *watch) run(t *testing.T, limit int) (int, int) {
	t.Helper()
	steps, deepest := 0, 0
	for ; w.m.State == impl.MachineRuns && steps < limit; steps++ {
		all := 1200 - w.m.Sp
		w.want(t, all+steps%2)
		// The words before a return address, and with it; and any words.
		before := w.calls[steps/3%len(w.calls)].at - w.m.Sp
		w.want(t, [3]int{before, before + 1, steps % (all + 1)}[steps%3])
		if steps%5 == 0 {
			w.wantSteps(t, all)
			w.wantSteps(t, steps/5%(all+1))
		}
		deepest = max(deepest, len(w.calls))
		w.step(t)
	}
	if w.m.State == impl.MachineDone && len(w.calls) > 0 || w.m.State != impl.MachineDone && len(w.calls) == 0 {
		t.Fatalf("at the end of %s there are the calls %v", w.text, w.calls)
	}
	if w.m.State == impl.MachineBad {
		w.want(t, 1200)
	}
	if w.m.State == impl.MachineDone {
		wantNotUnwound(t, w.s, w.rules, impl.ViewOf(w.m, 1200))
	}
	return steps, deepest
}

func TestPromise14EachBuild(t *testing.T) {
	bases, steps := manyBases(), 0
	for _, text := range []string{
		"fun main;end", calledProduct, operandCalls, nestedCalls, valuesGiven,
		"fun main;out f/1 3;end;fun f n;if < n 1;return 1;end;return * n f/1 - n 1;end",
		"fun main;while < x 2;set x + x 1;out k/4 x f/0 f/0 4;end;end;fun k a b c d;set e + f/0 b;return e;end;fun f;set y 2;return + 1 y;end",
	} {
		p := linesOf(t, text)
		for inline := range impl.MaxInline + 1 {
			for frames := range 1 << functionCount(p) {
				for i := range 4 {
					b := impl.Build{Frames: frames, Inline: inline, Fold: i%2 > 0, Split: i > 1}
					w := newWatch(t, p, b, bases[(frames+i)%5][0], bases[(frames+i)%5][1])
					n, _ := w.run(t, 20000)
					if w.m.State != impl.MachineDone {
						t.Fatalf("%s is not done", w.text)
					}
					steps += n
				}
			}
		}
	}
	if steps < 30000 {
		t.Error("only", steps, "instructions are looked at")
	}
}

func TestPromise14MadePrograms(t *testing.T) {
	builds, bases, states, depths, steps := fewBuilds(), manyBases(), map[int]int{}, map[int]int{}, 0
	for i, p := range allMadePrograms() {
		if i%3 == 0 {
			continue
		}
		b := builds[i%len(builds)]
		b.Frames ^= i % 64
		b.Split = i/len(builds)%2 > 0
		at := bases[i%5]
		if i%2 == 0 {
			at = [2]int{1 + i*7919%400000, 500000 + i*104729%500000}
		}
		limit := 150
		if impl.Interpret(p, largestLimit).Code == impl.RunDone {
			limit = 20000
		} else if i%20 == 1 {
			limit = 2000
		}
		w := newWatch(t, p, b, at[0], at[1])
		n, deepest := w.run(t, limit)
		steps += n
		states[w.m.State]++
		depths[min(deepest, 41)]++
	}
	if steps < 500000 || states[impl.MachineDone] < 500 || states[impl.MachineBad] < 20 || depths[1] < 100 || depths[5] < 20 || depths[41] < 100 {
		t.Error("the runs that are looked at are too much alike", steps, states, depths)
	}
}

func TestPromise14EndlessCalls(t *testing.T) {
	// The list has one element more than there are calls in main, and ends with the 40th element.
	for frames := range 2 {
		for _, text := range []string{"fun main;return main/0;end", "fun main;set x 1;return + x main/0;end", "fun main;return f/2 1 2;end;fun f a b;while a;out f/2 b a;end;end"} {
			w := newWatch(t, linesOf(t, text), impl.Build{Frames: 3 * frames}, 100, 9000)
			full := 0
			for w.m.State == impl.MachineRuns {
				list, ok := impl.Unwind(w.s, w.rules, impl.ViewOf(w.m, 1200))
				if len(list) != min(len(w.calls), 40) || ok != (len(w.calls) < 40) {
					t.Fatalf("with %d calls of %s there are %d elements, %v", len(w.calls), w.text, len(list), ok)
				}
				if len(list) == 40 {
					full++
				}
				w.want(t, 1200)
				w.want(t, len(w.calls))
				w.step(t)
			}
			if w.m.State != impl.MachineBad || full < 100 {
				t.Errorf("%s ends in the state %d, with %d full lists", w.text, w.m.State, full)
			}
			w.wantSteps(t, 1200)
		}
	}
}

func TestPromise14OneRuleForEachPlace(t *testing.T) {
	// Rules need not be joined.
	builds := fewBuilds()
	for i, p := range allMadePrograms() {
		if i%50 > 0 {
			continue
		}
		w := newWatch(t, p, builds[i/50%len(builds)], 100, 9000)
		for image := range w.rules {
			w.rules[image] = nil
			for _, x := range impl.PlacesOf(p, builds[i/50%len(builds)], image) {
				w.rules[image] = append(w.rules[image], impl.RulesOf([]impl.Place{x})...)
			}
		}
		w.run(t, 100)
	}
}

func TestPromise14ArgumentsAreKept(t *testing.T) {
	p := linesOf(t, calledProduct)
	b := impl.Build{Frames: 2, Split: true}
	w := newWatch(t, p, b, 100, 300)
	for range 5 {
		w.step(t)
	}
	wantSpace, wantRules, wantedMachine := readLoaded(p, b, [2]int{100, 300}), bothRules(p, b), copyOf(w.m)
	v := impl.ViewOf(w.m, 1200)
	behind := append(slices.Clone(v.Words), 77, 78)
	v.Words = behind[:len(v.Words)]
	words := slices.Clone(behind)
	caller, ok := impl.UnwindStep(w.s, w.rules, v, true)
	main, up := impl.UnwindStep(w.s, w.rules, caller, false)
	list, end := impl.Unwind(w.s, w.rules, v)
	if !ok || !up || !end || len(list) != 2 || main.Pc != 0 || len(main.Words) != 0 {
		t.Fatal("unexpected results", caller, main, list)
	}
	other, _ := impl.UnwindStep(w.s, w.rules, v, true)
	seen, again := impl.ViewOf(w.m, 3), impl.ViewOf(w.m, 3)
	for _, result := range [][]int{caller.Words, main.Words, list, seen.Words} {
		for k := range result[:cap(result)] {
			result[:cap(result)][k] = -99
		}
	}
	if !slices.Equal(behind, words) || v.Sp != w.m.Sp || v.Pc != w.m.Pc || v.Fp != w.m.Fp {
		t.Error("the view has changed", behind, v)
	}
	if !sameSpace(w.s, wantSpace) || !slices.EqualFunc(w.rules, wantRules, slices.Equal[[]impl.Rule]) {
		t.Error("the space or the rules have changed", w.s, w.rules)
	}
	wantMachine(t, "the machine that was looked at", w.m, wantedMachine)
	if !slices.Equal(other.Words, words[len(words)-2-len(other.Words):len(words)-2]) || !slices.Equal(again.Words, words[:3]) {
		t.Error("two results share memory", other, again)
	}
}
