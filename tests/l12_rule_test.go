package tests

import (
	"math"
	"slices"
	"testing"

	"loop.example/g03314/impl"
)

// Promise 12: each instruction has exactly one unwind rule.

// depthRule is a rule without a frame.
func depthRule(start int, end int, depth int) impl.Rule {
	return impl.Rule{Start: start, End: end, Depth: depth}
}

func frameRule(start int, end int) impl.Rule {
	return impl.Rule{Start: start, End: end, Frame: true}
}

func placeAt(offset int, code int, entered bool, depth int) impl.Place {
	return impl.Place{Offset: offset, Item: impl.Item{Op: impl.Op{Code: code}, Entered: entered, Depth: depth}}
}

func wantRulesOf(t *testing.T, places []impl.Place, want ...impl.Rule) {
	t.Helper()
	if got := impl.RulesOf(places); !slices.Equal(got, want) {
		t.Errorf("RulesOf(%v) = %v, want %v", places, got, want)
	}
}

// readRules cuts the places where a rule begins, and makes a rule of each piece; the result is false if there are none.
func readRules(places []impl.Place) ([]impl.Rule, bool) {
	begins := []int{}
	for k, x := range places {
		if x.Offset < 0 || x.Offset > 1000000 {
			return nil, false
		}
		if k == 0 {
			begins = append(begins, k)
			continue
		}
		before := places[k-1]
		if before.Offset+sizeOrNone(before) != x.Offset || before.Item.Depth != x.Item.Depth || before.Item.Entered != x.Item.Entered {
			begins = append(begins, k)
		}
	}
	rules := []impl.Rule{}
	for i, k := range begins {
		last := len(places) - 1
		if i+1 < len(begins) {
			last = begins[i+1] - 1
		}
		rules = append(rules, impl.Rule{Start: places[k].Offset, End: places[last].Offset + sizeOrNone(places[last]), Frame: places[k].Item.Entered, Depth: places[k].Item.Depth})
	}
	return rules, true
}

// sizeOrNone is the number of bytes of the instruction of a place, which are none if its code is not one.
func sizeOrNone(x impl.Place) int {
	if _, ok := readForm(x.Item.Op.Code); !ok {
		return 0
	}
	return readSize(x.Item.Op)
}

// readFound tells the index of the rule for each offset that has one; the result is false if the rules are not valid.
func readFound(list []impl.Rule) (map[int]int, bool) {
	found := map[int]int{}
	for k, r := range list {
		if r.Start < 0 || r.End <= r.Start || r.End > 1000000 || r.Depth < 0 || r.Depth > 1200 || r.Frame && r.Depth > 0 {
			return nil, false
		}
		for _, later := range list[k+1:] {
			if later.Start < r.End {
				return nil, false
			}
		}
		for offset := r.Start; offset < r.End; offset++ {
			found[offset] = k
		}
	}
	return found, true
}

// wantFound compares RulesOk, and FindRule at offsets, with the test's own reading.
func wantFound(t *testing.T, list []impl.Rule, offsets ...int) bool {
	t.Helper()
	found, ok := readFound(list)
	if got := impl.RulesOk(list); got != ok {
		t.Fatalf("RulesOk(%v) = %v, want %v", list, got, ok)
	}
	for _, offset := range offsets {
		want, has := found[offset]
		if !has {
			want = -1
		}
		if got := impl.FindRule(list, offset); got != want {
			t.Fatalf("FindRule(%v, %d) = %d, want %d", list, offset, got, want)
		}
	}
	return ok
}

func wantFind(t *testing.T, list []impl.Rule, offset int, want int) {
	t.Helper()
	if got := impl.FindRule(list, offset); got != want {
		t.Errorf("FindRule(%v, %d) = %d, want %d", list, offset, got, want)
	}
}

// wantInvalidRules checks rules that are not valid at offsets which they contain, and at others.
func wantInvalidRules(t *testing.T, list ...impl.Rule) {
	t.Helper()
	if impl.RulesOk(list) {
		t.Errorf("RulesOk(%v) is true", list)
	}
	offsets := []int{math.MinInt, -1, 0, 1, 5, 999999, 1000000, math.MaxInt}
	for _, r := range list {
		offsets = append(offsets, r.Start, r.End)
		if r.End > math.MinInt {
			offsets = append(offsets, r.End-1)
		}
	}
	for _, offset := range offsets {
		wantFind(t, list, offset, -1)
	}
}

// wantOneRule checks the rules of both images of a program with what the promise says of them, and returns their number.
func wantOneRule(t *testing.T, p []impl.Line, b impl.Build) int {
	t.Helper()
	count := 0
	for image := range 2 {
		places := slices.Concat(readPlaces(p, b, image)...)
		rules := impl.RulesOf(impl.PlacesOf(p, b, image))
		if want, ok := readRules(places); !ok || !slices.Equal(rules, want) {
			t.Fatalf("the rules of image %d of %q with %v are %v, want %v", image, impl.FormatProgram(p), b, rules, want)
		}
		if !impl.RulesOk(rules) || len(rules) > len(places) || (len(rules) == 0) != (len(places) == 0) {
			t.Fatalf("the image %d of %q with %v has %d places, and the rules %v", image, impl.FormatProgram(p), b, len(places), rules)
		}
		end := 0
		for _, x := range places {
			wantOneRuleAt(t, rules, x)
			end = x.Offset + readSize(x.Item.Op)
		}
		wantFind(t, rules, -1, -1)
		wantFind(t, rules, end, -1)
		for k := 1; k < len(rules); k++ {
			if r, before := rules[k], rules[k-1]; r.Start == before.End && r.Frame == before.Frame && r.Depth == before.Depth {
				t.Fatalf("the rules %v and %v of %q with %v are not joined", before, r, impl.FormatProgram(p), b)
			}
		}
		count += len(rules)
	}
	return count
}

// wantOneRuleAt checks that all bytes of an instruction have one rule, which is its own.
func wantOneRuleAt(t *testing.T, rules []impl.Rule, x impl.Place) {
	t.Helper()
	k := impl.FindRule(rules, x.Offset)
	if k < 0 || k >= len(rules) || rules[k].Frame != x.Item.Entered || rules[k].Depth != x.Item.Depth {
		t.Fatalf("FindRule(%v, %d) = %d, which is not the rule of %v", rules, x.Offset, k, x)
	}
	for offset := x.Offset; offset < x.Offset+readSize(x.Item.Op); offset++ {
		if got := impl.FindRule(rules, offset); got != k {
			t.Fatalf("FindRule(%v, %d) = %d, but %d at %d", rules, offset, got, k, x.Offset)
		}
		for other, r := range rules {
			if contains := r.Start <= offset && offset < r.End; contains != (other == k) {
				t.Fatalf("of %v, rule %d contains the offset %d: %v", rules, other, offset, contains)
			}
		}
	}
}

func TestPromise12WithoutFrames(t *testing.T) {
	p := linesOf(t, calledProduct)
	// main: space, const, call and store, load, out, const, return; f: space and const, load, mul, return, const, return.
	main := []impl.Rule{depthRule(0, 2, 0), depthRule(2, 7, 1), depthRule(7, 12, 2), depthRule(12, 15, 1), depthRule(15, 16, 2), depthRule(16, 21, 1), depthRule(21, 24, 2)}
	called := []impl.Rule{depthRule(24, 31, 0), depthRule(31, 34, 1), depthRule(34, 35, 2), depthRule(35, 38, 1), depthRule(38, 43, 0), depthRule(43, 46, 1)}
	wantRulesOf(t, impl.PlacesOf(p, impl.Build{}, 0), slices.Concat(main, called)...)
	wantRulesOf(t, impl.PlacesOf(p, impl.Build{}, 1))
	wantRulesOf(t, impl.PlacesOf(p, impl.Build{Split: true}, 0), main...)
	wantRulesOf(t, impl.PlacesOf(p, impl.Build{Split: true}, 1), depthRule(0, 7, 0), depthRule(7, 10, 1), depthRule(10, 11, 2), depthRule(11, 14, 1), depthRule(14, 19, 0), depthRule(19, 22, 1))
}

func TestPromise12WithFrames(t *testing.T) {
	p := linesOf(t, calledProduct)
	wantRulesOf(t, impl.PlacesOf(p, impl.Build{Frames: 3}, 0), depthRule(0, 2, 0), frameRule(2, 23), depthRule(23, 25, 0), frameRule(25, 43))
	wantRulesOf(t, impl.PlacesOf(p, impl.Build{Frames: 3, Split: true}, 1), depthRule(0, 2, 0), frameRule(2, 20))
	wantRulesOf(t, impl.PlacesOf(p, impl.Build{Frames: 1}, 0), depthRule(0, 2, 0), frameRule(2, 23),
		depthRule(23, 30, 0), depthRule(30, 33, 1), depthRule(33, 34, 2), depthRule(34, 37, 1), depthRule(37, 42, 0), depthRule(42, 45, 1))
	wantRulesOf(t, impl.PlacesOf(p, impl.Build{Frames: 2}, 0), depthRule(0, 2, 0), depthRule(2, 7, 1), depthRule(7, 12, 2), depthRule(12, 15, 1),
		depthRule(15, 16, 2), depthRule(16, 21, 1), depthRule(21, 24, 2), depthRule(24, 26, 0), frameRule(26, 44))
}

func TestPromise12ReplacedCalls(t *testing.T) {
	p := linesOf(t, calledProduct)
	// space, const, store, const, load, mul, jump, const, store, load, out, const, return.
	wantRulesOf(t, impl.PlacesOf(p, impl.Build{Inline: 1, Split: true}, 0), depthRule(0, 2, 0), depthRule(2, 7, 2), depthRule(7, 10, 3), depthRule(10, 15, 2), depthRule(15, 18, 3),
		depthRule(18, 19, 4), depthRule(19, 22, 3), depthRule(22, 27, 2), depthRule(27, 30, 3), depthRule(30, 33, 2), depthRule(33, 34, 3), depthRule(34, 39, 2), depthRule(39, 42, 3))
	wantRulesOf(t, impl.PlacesOf(p, impl.Build{Inline: 1, Frames: 3}, 0), depthRule(0, 2, 0), frameRule(2, 41), depthRule(41, 43, 0), frameRule(43, 61))
}

func TestPromise12OneFunction(t *testing.T) {
	p := linesOf(t, "fun main;end")
	wantRulesOf(t, impl.PlacesOf(p, impl.Build{}, 0), depthRule(0, 7, 0), depthRule(7, 10, 1))
	wantRulesOf(t, impl.PlacesOf(p, impl.Build{Frames: 1}, 0), depthRule(0, 2, 0), frameRule(2, 9))
	wantRulesOf(t, impl.PlacesOf(p, impl.Build{Split: true}, 1))
	folded := linesOf(t, "fun main;out + 1 * 2 3;end")
	wantRulesOf(t, impl.PlacesOf(folded, impl.Build{}, 0), depthRule(0, 7, 0), depthRule(7, 12, 1), depthRule(12, 17, 2), depthRule(17, 18, 3), depthRule(18, 19, 2), depthRule(19, 20, 1), depthRule(20, 25, 0), depthRule(25, 28, 1))
	wantRulesOf(t, impl.PlacesOf(folded, impl.Build{Fold: true}, 0), depthRule(0, 7, 0), depthRule(7, 8, 1), depthRule(8, 13, 0), depthRule(13, 16, 1))
}

func TestPromise12NoPlaces(t *testing.T) {
	wantRulesOf(t, nil)
	wantRulesOf(t, []impl.Place{})
	if !impl.RulesOk(nil) || !impl.RulesOk([]impl.Rule{}) {
		t.Error("no rules are not valid")
	}
	for _, offset := range append(farAddresses(), 1, 2, 1000000) {
		wantFind(t, nil, offset, -1)
		wantFind(t, []impl.Rule{}, offset, -1)
	}
}

func TestPromise12EachCode(t *testing.T) {
	for code, size := range map[int]int{
		impl.OpConst: 5, impl.OpLoadFrame: 3, impl.OpStoreFrame: 3, impl.OpLoadStack: 3, impl.OpStoreStack: 3, impl.OpAdd: 1, impl.OpSub: 1, impl.OpMul: 1, impl.OpLess: 1,
		impl.OpSame: 1, impl.OpJump: 3, impl.OpZero: 3, impl.OpCall: 2, impl.OpEnter: 2, impl.OpLeave: 2, impl.OpSpace: 2, impl.OpReturn: 3, impl.OpOut: 1,
	} {
		wantRulesOf(t, []impl.Place{placeAt(40, code, false, 6)}, depthRule(40, 40+size, 6))
		wantRulesOf(t, []impl.Place{placeAt(0, code, true, 0)}, frameRule(0, size))
		wantRulesOf(t, []impl.Place{placeAt(7, code, false, 2), placeAt(7+size, impl.OpOut, false, 2)}, depthRule(7, 8+size, 2))
	}
	// What is no instruction has no bytes.
	for _, code := range notCodes() {
		wantRulesOf(t, []impl.Place{placeAt(40, code, false, 6)}, depthRule(40, 40, 6))
		wantRulesOf(t, []impl.Place{placeAt(7, impl.OpOut, false, 2), placeAt(8, code, false, 2), placeAt(8, impl.OpOut, false, 2)}, depthRule(7, 9, 2))
		wantInvalidRules(t, impl.RulesOf([]impl.Place{placeAt(40, code, false, 6)})...)
	}
}

func TestPromise12Joined(t *testing.T) {
	add, space, three := impl.OpAdd, impl.OpSpace, impl.OpJump
	wantRulesOf(t, []impl.Place{placeAt(0, add, false, 1), placeAt(1, space, false, 1), placeAt(3, three, false, 1), placeAt(6, add, false, 1)}, depthRule(0, 7, 1))
	wantRulesOf(t, []impl.Place{placeAt(9, add, true, 0), placeAt(10, space, true, 0), placeAt(12, three, true, 0)}, frameRule(9, 15))
	wantRulesOf(t, []impl.Place{placeAt(0, add, false, 1), placeAt(1, add, false, 2), placeAt(2, add, false, 1)}, depthRule(0, 1, 1), depthRule(1, 2, 2), depthRule(2, 3, 1))
	wantRulesOf(t, []impl.Place{placeAt(0, add, false, 0), placeAt(1, add, true, 0), placeAt(2, add, false, 0)}, depthRule(0, 1, 0), frameRule(1, 2), depthRule(2, 3, 0))
	// Places of other sources may have a Depth where a frame is entered, or any Depth; it is kept, and the rules are not valid.
	wantRulesOf(t, []impl.Place{placeAt(0, add, true, 1), placeAt(1, add, true, 1), placeAt(2, add, true, 2)}, impl.Rule{End: 2, Frame: true, Depth: 1}, impl.Rule{Start: 2, End: 3, Frame: true, Depth: 2})
	wantRulesOf(t, []impl.Place{placeAt(0, add, false, -1), placeAt(1, add, false, math.MinInt), placeAt(2, add, false, 1201), placeAt(3, add, false, math.MaxInt)},
		depthRule(0, 1, -1), depthRule(1, 2, math.MinInt), depthRule(2, 3, 1201), depthRule(3, 4, math.MaxInt))
}

func TestPromise12Gaps(t *testing.T) {
	add, space, three := impl.OpAdd, impl.OpSpace, impl.OpJump
	// A gap of one byte, or more; a place within the bytes of the one before; one that is there twice.
	wantRulesOf(t, []impl.Place{placeAt(0, add, false, 1), placeAt(2, add, false, 1), placeAt(9, add, false, 1)}, depthRule(0, 1, 1), depthRule(2, 3, 1), depthRule(9, 10, 1))
	wantRulesOf(t, []impl.Place{placeAt(0, add, true, 0), placeAt(2, add, true, 0)}, frameRule(0, 1), frameRule(2, 3))
	wantRulesOf(t, []impl.Place{placeAt(4, three, false, 1), placeAt(6, add, false, 1), placeAt(7, add, false, 1)}, depthRule(4, 7, 1), depthRule(6, 8, 1))
	wantRulesOf(t, []impl.Place{placeAt(4, space, false, 3), placeAt(4, space, false, 3)}, depthRule(4, 6, 3), depthRule(4, 6, 3))
	// Out of order: the one before it in the list counts.
	wantRulesOf(t, []impl.Place{placeAt(2, space, false, 1), placeAt(0, space, false, 1)}, depthRule(2, 4, 1), depthRule(0, 2, 1))
	wantRulesOf(t, []impl.Place{placeAt(2, space, true, 0), placeAt(0, space, true, 0)}, frameRule(2, 4), frameRule(0, 2))
	wantRulesOf(t, []impl.Place{placeAt(4, add, false, 1), placeAt(0, add, false, 1), placeAt(1, three, false, 1), placeAt(5, add, false, 1)}, depthRule(4, 5, 1), depthRule(0, 4, 1), depthRule(5, 6, 1))
	wantInvalidRules(t, impl.RulesOf([]impl.Place{placeAt(2, space, false, 1), placeAt(0, space, false, 1)})...)
}

func TestPromise12Offsets(t *testing.T) {
	const most = 1000000
	add, load := impl.OpAdd, impl.OpConst
	wantRulesOf(t, []impl.Place{placeAt(0, add, false, 0)}, depthRule(0, 1, 0))
	wantRulesOf(t, []impl.Place{placeAt(most-1, add, false, 0)}, depthRule(most-1, most, 0))
	// The End of a rule may be larger, but it is not valid then.
	wantRulesOf(t, []impl.Place{placeAt(most, add, false, 0)}, depthRule(most, most+1, 0))
	wantRulesOf(t, []impl.Place{placeAt(most-4, load, true, 0)}, frameRule(most-4, most+1))
	wantRulesOf(t, []impl.Place{placeAt(most-5, load, true, 0), placeAt(most, load, true, 0), placeAt(0, load, true, 0)}, frameRule(most-5, most+5), frameRule(0, 5))
	good := []impl.Place{placeAt(0, add, false, 1), placeAt(1, add, false, 1), placeAt(most, load, false, 2)}
	for _, offset := range []int{-1, -2, -5, most + 1, most + 5, math.MinInt, math.MinInt + 1, math.MaxInt, math.MaxInt - 1, 1 << 32, -1 << 32} {
		for _, code := range []int{add, load, -1} {
			bad := placeAt(offset, code, false, 1)
			wantRulesOf(t, []impl.Place{bad})
			for k := range len(good) + 1 {
				wantRulesOf(t, slices.Insert(slices.Clone(good), k, bad))
			}
		}
	}
}

func TestPromise12EachShortListOfPlaces(t *testing.T) {
	var items []impl.Place
	for _, offset := range []int{-1, 0, 1, 2, 3} {
		for _, code := range []int{impl.OpAdd, impl.OpSpace, -1} {
			items = append(items, placeAt(offset, code, false, 0), placeAt(offset, code, false, 1), placeAt(offset, code, true, 0))
		}
	}
	joined := 0
	for _, places := range listsUpTo(items, 3) {
		want, _ := readRules(places)
		if got := impl.RulesOf(places); !slices.Equal(got, want) {
			t.Fatalf("RulesOf(%v) = %v, want %v", places, got, want)
		}
		if len(want) > 0 && len(want) < len(places) {
			joined++
		}
	}
	if joined < 1000 {
		t.Error("rules are joined in only", joined, "lists")
	}
}

func TestPromise12FindRule(t *testing.T) {
	list := []impl.Rule{depthRule(3, 5, 0), frameRule(5, 9), depthRule(12, 13, 1200), depthRule(20, 26, 7)}
	if !impl.RulesOk(list) {
		t.Fatal("the rules are not valid")
	}
	for offset, want := range []int{-1, -1, -1, 0, 0, 1, 1, 1, 1, -1, -1, -1, 2, -1, -1, -1, -1, -1, -1, -1, 3, 3, 3, 3, 3, 3, -1, -1} {
		wantFind(t, list, offset, want)
	}
	for _, offset := range append(farAddresses(), -3, -5, 30, 1000000, 999999, 3-1<<32, 3+1<<32) {
		wantFind(t, list, offset, -1)
	}
	whole := []impl.Rule{frameRule(0, 1000000)}
	for offset, want := range map[int]int{-1: -1, 0: 0, 1: 0, 999999: 0, 1000000: -1, 1000001: -1, math.MinInt: -1, math.MaxInt: -1} {
		wantFind(t, whole, offset, want)
	}
	wantFind(t, []impl.Rule{depthRule(999999, 1000000, 0)}, 999999, 0)
	wantFind(t, []impl.Rule{depthRule(999999, 1000000, 0)}, 1000000, -1)
}

func TestPromise12RulesOk(t *testing.T) {
	const most = 1000000
	for _, list := range [][]impl.Rule{
		{depthRule(0, 1, 0)}, {depthRule(0, most, 1200)}, {frameRule(0, most)}, {depthRule(most-1, most, 1)}, {depthRule(7, 8, 1199)},
		{depthRule(0, 1, 0), depthRule(1, 2, 0)}, {depthRule(0, 1, 0), frameRule(5, 6)}, {frameRule(2, 4), frameRule(4, 7), depthRule(9, most, 3)},
	} {
		if !impl.RulesOk(list) {
			t.Errorf("RulesOk(%v) is false", list)
		}
		wantFind(t, list, list[0].Start, 0)
		wantFind(t, list, list[len(list)-1].End-1, len(list)-1)
		wantFind(t, list, list[len(list)-1].End, -1)
	}
	before, behind := depthRule(0, 3, 1), depthRule(10, 12, 2)
	for _, bad := range []impl.Rule{
		depthRule(5, 5, 0), depthRule(6, 5, 0), depthRule(5, 4, 0), frameRule(7, 7), depthRule(5, -5, 0), depthRule(5, math.MinInt, 0), depthRule(math.MaxInt, math.MinInt, 0), depthRule(9, 0, 0),
		depthRule(5, 6, -1), depthRule(5, 6, 1201), depthRule(5, 6, math.MinInt), depthRule(5, 6, math.MaxInt), depthRule(5, 6, 1<<32), depthRule(5, 6, 1<<32+5), depthRule(5, 6, -1200),
		{Start: 5, End: 6, Frame: true, Depth: 1}, {Start: 5, End: 6, Frame: true, Depth: -1}, {Start: 5, End: 6, Frame: true, Depth: 1200}, {Start: 5, End: 6, Frame: true, Depth: math.MinInt},
	} {
		wantInvalidRules(t, bad)
		wantInvalidRules(t, bad, behind)
		wantInvalidRules(t, before, bad)
		wantInvalidRules(t, before, bad, behind)
	}
	for _, first := range []impl.Rule{depthRule(-1, 2, 0), depthRule(-1, 0, 0), depthRule(-5, -3, 0), frameRule(-1, 1), depthRule(math.MinInt, 2, 0), depthRule(math.MinInt, math.MaxInt, 0), depthRule(-1<<32, 2, 0)} {
		wantInvalidRules(t, first)
		wantInvalidRules(t, first, behind)
	}
	for _, last := range []impl.Rule{depthRule(12, most+1, 0), frameRule(most, most+1), depthRule(most+1, most+2, 0), depthRule(15, math.MaxInt, 0), depthRule(1<<32, 1<<32+1, 0), depthRule(math.MaxInt-1, math.MaxInt, 0)} {
		wantInvalidRules(t, last)
		wantInvalidRules(t, behind, last)
	}
}

func TestPromise12RulesInOrder(t *testing.T) {
	a, b, c := depthRule(0, 3, 1), frameRule(3, 6), depthRule(8, 9, 2)
	if !impl.RulesOk([]impl.Rule{a, b, c}) {
		t.Error("the rules are not valid in order")
	}
	wantInvalidRules(t, b, a, c)
	wantInvalidRules(t, a, c, b)
	wantInvalidRules(t, c, b, a)
	wantInvalidRules(t, a, a)
	wantInvalidRules(t, a, b, b)
	wantInvalidRules(t, a, c, c)
	// By one byte, within each other, and around each other.
	wantInvalidRules(t, depthRule(0, 4, 1), b)
	wantInvalidRules(t, a, depthRule(2, 6, 1))
	wantInvalidRules(t, a, b, depthRule(5, 9, 1))
	wantInvalidRules(t, depthRule(0, 9, 1), depthRule(3, 5, 1))
	wantInvalidRules(t, depthRule(3, 5, 1), depthRule(0, 9, 1))
	wantInvalidRules(t, depthRule(0, 5, 1), depthRule(0, 9, 1))
	wantInvalidRules(t, depthRule(4, 9, 1), depthRule(0, 9, 1))
	// The one before is invalid itself, and ends before it starts.
	wantInvalidRules(t, depthRule(6, 2, 1), depthRule(2, 4, 1))
}

func TestPromise12EachShortList(t *testing.T) {
	var rules, plainRules []impl.Rule
	for start := -1; start <= 3; start++ {
		for end := -1; end <= 4; end++ {
			for _, depth := range []int{-1, 0, 1, 1200, 1201} {
				rules = append(rules, depthRule(start, end, depth), impl.Rule{Start: start, End: end, Frame: true, Depth: depth})
			}
			plainRules = append(plainRules, depthRule(start, end, 0))
		}
	}
	offsets, valid := []int{-2, -1, 0, 1, 2, 3, 4, 5}, 0
	for _, list := range append(listsUpTo(rules, 2), listsUpTo(plainRules, 3)...) {
		if wantFound(t, list, offsets...) {
			valid++
		}
	}
	if valid < 200 {
		t.Error("only", valid, "lists are valid")
	}
}

func TestPromise12EachBuild(t *testing.T) {
	for _, text := range []string{"fun main;end", calledProduct, operandCalls, nestedCalls} {
		p := linesOf(t, text)
		for inline := range impl.MaxInline + 1 {
			for frames := range 1 << functionCount(p) {
				for k := range 4 {
					wantOneRule(t, p, impl.Build{Frames: frames, Inline: inline, Fold: k%2 > 0, Split: k > 1})
				}
			}
		}
	}
}

func TestPromise12MadePrograms(t *testing.T) {
	builds, rules := fewBuilds(), 0
	for i, p := range allMadePrograms() {
		b := builds[i%len(builds)]
		b.Frames ^= i % 64
		b.Split = i/len(builds)%2 > 0
		rules += wantOneRule(t, p, b)
	}
	if rules < 100000 {
		t.Error("only", rules, "rules are checked")
	}
}

func TestPromise12ArgumentsAreKept(t *testing.T) {
	places := impl.PlacesOf(linesOf(t, nestedCalls), impl.Build{Inline: 3}, 0)
	before := slices.Concat(readPlaces(linesOf(t, nestedCalls), impl.Build{Inline: 3}, 0)...)
	half := len(places) / 2
	rules := impl.RulesOf(places[:half])
	if !slices.EqualFunc(places, before, samePlace) {
		t.Error("the places have changed", places)
	}
	want := slices.Clone(rules)
	if !impl.RulesOk(rules[:2]) || impl.FindRule(rules[:2], 0) != 0 || impl.FindRule(rules[:2], want[2].Start) != -1 || !slices.Equal(rules, want) {
		t.Error("the rules have changed", rules, want)
	}
	for k := range rules[:cap(rules)] {
		rules[:cap(rules)][k] = depthRule(-1, -1, -1)
	}
	if again := impl.RulesOf(places[:half]); !slices.Equal(again, want) {
		t.Error("two results share memory", again, want)
	}
}
