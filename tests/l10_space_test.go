package tests

import (
	"math"
	"slices"
	"strings"
	"testing"

	"loop.example/g03314/impl"
)

// Promise 10: every byte has one address.

// byteAt is what the test's own reading knows of an address: the byte there, and the function whose it is.
type byteAt struct {
	image, offset, function int
}

func sameSpace(a impl.Space, b impl.Space) bool {
	return slices.EqualFunc(a.Images, b.Images, sameImage) && slices.Equal(a.Bases, b.Bases) && slices.Equal(a.Entries, b.Entries)
}

func noSpace(s impl.Space) bool {
	return len(s.Images) == 0 && len(s.Bases) == 0 && len(s.Entries) == 0
}

// readSpace goes through the bytes of a space one by one; the result is false if the space is not valid.
func readSpace(s impl.Space) (map[int]byteAt, bool) {
	if len(s.Images) != 2 || len(s.Bases) != 2 {
		return nil, false
	}
	found, starts := map[int]byteAt{}, map[int]bool{}
	for i, image := range s.Images {
		if !wantImageOk(image) || s.Bases[i] <= 0 || s.Bases[i] > 1000000 {
			return nil, false
		}
		for _, symbol := range image.Symbols {
			start := s.Bases[i] + symbol.Start
			for offset := range symbol.Size {
				if _, taken := found[start+offset]; taken {
					return nil, false
				}
				found[start+offset] = byteAt{i, symbol.Start + offset, slices.Index(s.Entries, start)}
			}
			starts[start] = true
		}
	}
	for _, entry := range s.Entries {
		if !starts[entry] {
			return nil, false
		}
	}
	return found, len(s.Entries) > 0 && len(s.Entries) <= 6
}

// farAddresses are addresses at which no byte can be.
func farAddresses() []int {
	return []int{math.MinInt, math.MinInt + 1, -1000000, -1, 0, 2000000, 2000001, 1 << 32, 1<<32 + 1, math.MaxInt - 1, math.MaxInt}
}

// wantAt compares the functions with the test's own reading at an address.
func wantAt(t *testing.T, s impl.Space, address int, found map[int]byteAt) {
	t.Helper()
	at, ok := found[address]
	var x impl.Op
	size, is := 0, false
	if ok {
		x, size, is = readOp(s.Images[at.image].Code, at.offset)
	} else {
		at = byteAt{-1, -1, -1}
	}
	if image, offset := impl.Locate(s, address); image != at.image || offset != at.offset {
		t.Fatalf("Locate(%v, %d) = %d, %d, want %d, %d", s, address, image, offset, at.image, at.offset)
	}
	if gotX, gotSize, got := impl.FetchOp(s, address); gotX != x || gotSize != size || got != is {
		t.Fatalf("FetchOp(%v, %d) = %v, %d, %v, want %v, %d, %v", s, address, gotX, gotSize, got, x, size, is)
	}
	if got := impl.FunctionAt(s, address); got != at.function {
		t.Fatalf("FunctionAt(%v, %d) = %d, want %d", s, address, got, at.function)
	}
}

// wantSpace compares the functions with the test's own reading at all addresses around the images.
func wantSpace(t *testing.T, s impl.Space, want bool) {
	t.Helper()
	found, ok := readSpace(s)
	if ok != want {
		t.Fatalf("the test's own reading of the space %v is %v, want %v", s, ok, want)
	}
	if got := impl.SpaceOk(s); got != want {
		t.Fatalf("SpaceOk(%v) = %v, want %v", s, got, want)
	}
	if !ok {
		found = nil
	}
	for _, address := range farAddresses() {
		wantAt(t, s, address, found)
	}
	for i, base := range s.Bases {
		if base < 0 || base > 1000000 || i >= len(s.Images) {
			wantAt(t, s, base, found)
			continue
		}
		for address := base - 3; address < base+len(s.Images[i].Code)+3; address++ {
			wantAt(t, s, address, found)
		}
	}
}

// readLoaded is the space of a program in the test's own reading.
func readLoaded(p []impl.Line, b impl.Build, bases [2]int) impl.Space {
	s := impl.Space{Images: []impl.Image{readImage(p, b, 0), readImage(p, b, 1)}, Bases: bases[:], Entries: make([]int, functionCount(p))}
	for i := range 2 {
		for k, f := range readFunctions(p, b, i) {
			s.Entries[f] = bases[i] + readPlaces(p, b, i)[k][0].Offset
		}
	}
	return s
}

// wantLoaded checks the space of a program with what the promise says of it.
func wantLoaded(t *testing.T, p []impl.Line, b impl.Build, first int, second int) impl.Space {
	t.Helper()
	s, ok := impl.LoadSpace(p, b, first, second)
	want := readLoaded(p, b, [2]int{first, second})
	if !ok || !sameSpace(s, want) || !impl.SpaceOk(s) {
		t.Fatalf("LoadSpace(%q, %v, %d, %d) = %v, %v, want %v", impl.FormatProgram(p), b, first, second, s, ok, want)
	}
	for i := range 2 {
		for k, places := range readPlaces(p, b, i) {
			f := readFunctions(p, b, i)[k]
			if s.Entries[f] != s.Bases[i]+places[0].Offset {
				t.Fatalf("the entries of %q with %v at %d, %d are %v", impl.FormatProgram(p), b, first, second, s.Entries)
			}
			for _, x := range places {
				address := s.Bases[i] + x.Offset
				op, size, ok := impl.FetchOp(s, address)
				if !ok || op != x.Item.Op || size != readSize(x.Item.Op) || impl.FunctionAt(s, address) != f || impl.FunctionAt(s, address+size-1) != f {
					t.Fatalf("the instruction at %d of %v is %v, %d, %v, want %v of function %d", address, s, op, size, ok, x.Item.Op, f)
				}
			}
		}
	}
	return s
}

func wantNotLoaded(t *testing.T, p []impl.Line, b impl.Build, first int, second int) {
	t.Helper()
	if s, ok := impl.LoadSpace(p, b, first, second); ok || !noSpace(s) {
		t.Errorf("LoadSpace(%q, %v, %d, %d) = %v, %v, want the zero Space, false", impl.FormatProgram(p), b, first, second, s, ok)
	}
}

func wantLocate(t *testing.T, s impl.Space, address int, image int, offset int) {
	t.Helper()
	if i, at := impl.Locate(s, address); i != image || at != offset {
		t.Errorf("Locate at %d = %d, %d, want %d, %d", address, i, at, image, offset)
	}
}

func wantFetch(t *testing.T, s impl.Space, address int, want impl.Op, size int) {
	t.Helper()
	if x, n, ok := impl.FetchOp(s, address); x != want || n != size || ok != (size > 0) {
		t.Errorf("FetchOp at %d = %v, %d, %v, want %v, %d", address, x, n, ok, want, size)
	}
}

func wantFunctionAt(t *testing.T, s impl.Space, address int, want int) {
	t.Helper()
	if f := impl.FunctionAt(s, address); f != want {
		t.Errorf("FunctionAt(%v, %d) = %d, want %d", s, address, f, want)
	}
}

// plain is an image of bytes that are instructions of their own, with symbols of these sizes.
func plain(sizes ...int) impl.Image {
	var i impl.Image
	for k, size := range sizes {
		i.Symbols = append(i.Symbols, impl.Symbol{Name: string([]byte{byte('a' + k)}), Start: len(i.Code), Size: size})
		i.Code += strings.Repeat("\x05", size)
	}
	return i
}

func spaceOf(first impl.Image, second impl.Image, base int, other int, entries ...int) impl.Space {
	return impl.Space{Images: []impl.Image{first, second}, Bases: []int{base, other}, Entries: entries}
}

func TestPromise10Constants(t *testing.T) {
	if impl.MaxAddress != 1000000 {
		t.Error("MaxAddress is", impl.MaxAddress)
	}
}

func TestPromise10TwoImages(t *testing.T) {
	// main has the offsets 0 2 7 9 12 15 16 21 and 24 bytes, and f has 0 2 7 10 11 14 19 and 22.
	p := linesOf(t, calledProduct)
	s, ok := impl.LoadSpace(p, impl.Build{Split: true}, 100, 200)
	if !ok || !slices.Equal(s.Bases, []int{100, 200}) || !slices.Equal(s.Entries, []int{100, 200}) || len(s.Images) != 2 {
		t.Fatal("unexpected space", s, ok)
	}
	for image := range 2 {
		if !sameImage(s.Images[image], impl.AssembleImage(p, impl.Build{Split: true}, image)) {
			t.Error("unexpected image", s.Images[image])
		}
	}
	for address, want := range map[int][2]int{99: {-1, -1}, 100: {0, 0}, 101: {0, 1}, 123: {0, 23}, 124: {-1, -1}, 199: {-1, -1}, 200: {1, 0}, 210: {1, 10}, 221: {1, 21}, 222: {-1, -1}, 0: {-1, -1}, 1: {-1, -1}, 22: {-1, -1}} {
		wantLocate(t, s, address, want[0], want[1])
	}
	wantFetch(t, s, 99, impl.Op{}, 0)
	wantFetch(t, s, 100, impl.Op{Code: impl.OpSpace, Arg: 1}, 2)
	wantFetch(t, s, 102, impl.Op{Code: impl.OpConst, Arg: 2}, 5)
	wantFetch(t, s, 107, impl.Op{Code: impl.OpCall, Arg: 1}, 2)
	wantFetch(t, s, 121, impl.Op{Code: impl.OpReturn, Arg: 16}, 3)
	wantFetch(t, s, 124, impl.Op{}, 0)
	wantFetch(t, s, 199, impl.Op{}, 0)
	wantFetch(t, s, 200, impl.Op{Code: impl.OpSpace}, 2)
	wantFetch(t, s, 202, impl.Op{Code: impl.OpConst, Arg: 3}, 5)
	wantFetch(t, s, 210, impl.Op{Code: impl.OpMul}, 1)
	wantFetch(t, s, 219, impl.Op{Code: impl.OpReturn, Arg: 1}, 3)
	wantFetch(t, s, 222, impl.Op{}, 0)
	for address, f := range map[int]int{99: -1, 100: 0, 123: 0, 124: -1, 199: -1, 200: 1, 210: 1, 221: 1, 222: -1, 0: -1, -1: -1} {
		wantFunctionAt(t, s, address, f)
	}
	wantSpace(t, s, true)
}

func TestPromise10OneImage(t *testing.T) {
	s, ok := impl.LoadSpace(linesOf(t, calledProduct), impl.Build{}, 1000, 5)
	if !ok || !slices.Equal(s.Bases, []int{1000, 5}) || !slices.Equal(s.Entries, []int{1000, 1024}) || len(s.Images) != 2 || s.Images[1].Code != "" {
		t.Fatal("unexpected space", s, ok)
	}
	for address, want := range map[int][2]int{5: {-1, -1}, 999: {-1, -1}, 1000: {0, 0}, 1023: {0, 23}, 1024: {0, 24}, 1045: {0, 45}, 1046: {-1, -1}} {
		wantLocate(t, s, address, want[0], want[1])
	}
	for address, f := range map[int]int{5: -1, 999: -1, 1000: 0, 1023: 0, 1024: 1, 1045: 1, 1046: -1} {
		wantFunctionAt(t, s, address, f)
	}
	wantFetch(t, s, 1021, impl.Op{Code: impl.OpReturn, Arg: 16}, 3)
	wantFetch(t, s, 1024, impl.Op{Code: impl.OpSpace}, 2)
	wantSpace(t, s, true)
}

func TestPromise10WithinInstructions(t *testing.T) {
	// OpConst 3 has the bytes 00 03 00 00 00, and OpConst 2 the bytes 00 02 00 00 00; OpCall 1 follows the latter.
	s, _ := impl.LoadSpace(linesOf(t, calledProduct), impl.Build{Split: true}, 100, 200)
	wantFetch(t, s, 101, impl.Op{Code: impl.OpLoadFrame, Arg: 0x200}, 3)
	wantFetch(t, s, 103, impl.Op{Code: impl.OpStoreFrame, Arg: 0}, 3)
	wantFetch(t, s, 104, impl.Op{Code: impl.OpConst, Arg: 0x010c0000}, 5)
	wantFetch(t, s, 203, impl.Op{Code: impl.OpLoadStack, Arg: 0}, 3)
	// The last bytes of the images are those of arguments: 10 00 and 00, and 01 00 and 00.
	wantFetch(t, s, 122, impl.Op{}, 0)
	wantFetch(t, s, 123, impl.Op{}, 0)
	wantFetch(t, s, 220, impl.Op{}, 0)
	wantFetch(t, s, 221, impl.Op{}, 0)
	// An instruction is not taken from the bytes of both images, even if they follow each other.
	near, ok := impl.LoadSpace(linesOf(t, calledProduct), impl.Build{Split: true}, 100, 124)
	if !ok {
		t.Fatal("the images do not overlap")
	}
	wantFetch(t, near, 123, impl.Op{}, 0)
	wantFetch(t, near, 124, impl.Op{Code: impl.OpSpace}, 2)
	// It may be taken from the bytes of two functions of one image.
	one, _ := impl.LoadSpace(linesOf(t, calledProduct), impl.Build{}, 100, 1)
	wantFetch(t, one, 123, impl.Op{Code: impl.OpConst, Arg: 0x000f | 0x000300<<16}, 5)
	// A byte that is no code.
	text := strings.ReplaceAll(calledProduct, "3 x", "18 x")
	eighteen, _ := impl.LoadSpace(linesOf(t, text), impl.Build{Split: true}, 100, 200)
	wantFetch(t, eighteen, 202, impl.Op{Code: impl.OpConst, Arg: 18}, 5)
	wantFetch(t, eighteen, 203, impl.Op{}, 0)
	wantFunctionAt(t, eighteen, 203, 1)
	for _, s := range []impl.Space{s, near, one, eighteen} {
		wantSpace(t, s, true)
	}
}

func TestPromise10Bases(t *testing.T) {
	p := linesOf(t, calledProduct)
	const most = 1000000
	split := impl.Build{Split: true}
	for _, bases := range [][2]int{
		{1, most}, {most, 1}, {most - 24, most}, {most, most - 22},
		// Without a gap, in both orders: main has 24 bytes, and f has 22.
		{1, 25}, {23, 1}, {100, 124}, {122, 100}, {100, 125}, {123, 100}, {most, most - 23},
	} {
		wantSpace(t, wantLoaded(t, p, split, bases[0], bases[1]), true)
	}
	for _, bases := range [][2]int{
		// One address in common, in both orders, or more of them.
		{1, 24}, {22, 1}, {100, 123}, {121, 100}, {most, most - 21}, {most - 23, most}, {100, 110}, {110, 100},
		{1, 1}, {most, most}, {100, 101}, {101, 100}, {100, 102}, {102, 100},
		{0, 100}, {100, 0}, {0, 0}, {-1, 100}, {100, -1}, {-100, -200}, {most + 1, 1}, {1, most + 1}, {most + 1, most + 100},
		{math.MaxInt, 1}, {1, math.MaxInt}, {math.MinInt, 1}, {1, math.MinInt}, {math.MaxInt, math.MinInt}, {math.MaxInt - 24, math.MaxInt}, {1 << 32, 100}, {1<<32 + 1, 100}, {100, 1<<32 + 1},
	} {
		wantNotLoaded(t, p, split, bases[0], bases[1])
	}
	// Without Split, image 1 has no bytes, which belong to no address.
	for _, base := range []int{1, most, 100} {
		for _, other := range []int{1, most, 99, 100, 101, 110, 124, 145, 146} {
			wantSpace(t, wantLoaded(t, p, impl.Build{}, base, other), true)
		}
		for _, other := range []int{0, -1, most + 1, math.MinInt, math.MaxInt} {
			wantNotLoaded(t, p, impl.Build{}, base, other)
			wantNotLoaded(t, p, impl.Build{}, other, base)
		}
	}
}

func TestPromise10EmptyImages(t *testing.T) {
	// An image without bytes has a base like any other, even if it is that of the other one or within it.
	for other := 95; other < 110; other++ {
		wantSpace(t, spaceOf(plain(2, 3), impl.Image{}, 100, other, 100, 102), true)
		wantSpace(t, spaceOf(impl.Image{}, plain(2, 3), other, 100, 100, 102), true)
		// There is no symbol that begins at its base.
		wantSpace(t, spaceOf(plain(2, 3), impl.Image{}, 100, other, 100, other), other == 100 || other == 102)
	}
	wantSpace(t, spaceOf(plain(1), impl.Image{}, 7, 0, 7), false)
	wantSpace(t, spaceOf(impl.Image{}, plain(1), 1000001, 7, 7), false)
	wantSpace(t, spaceOf(impl.Image{}, impl.Image{}, 1, 2), false)
	wantSpace(t, spaceOf(impl.Image{}, impl.Image{}, 1, 2, 1), false)
	wantSpace(t, spaceOf(impl.Image{}, impl.Image{}, 1, 1, 1), false)
	// A program of one function has no others for image 1, with Split or without.
	for _, split := range []bool{false, true} {
		wantSpace(t, wantLoaded(t, linesOf(t, "fun main;end"), impl.Build{Split: split}, 50, 55), true)
	}
}

func TestPromise10Entries(t *testing.T) {
	// Image 0 has symbols at 10, 12 and 15, and image 1 has them at 30 and 31.
	s := spaceOf(plain(2, 3, 1), plain(1, 4), 10, 30)
	starts := []int{10, 12, 15, 30, 31}
	for address := -5; address < 50; address++ {
		want := slices.Contains(starts, address)
		s.Entries = []int{address}
		wantSpace(t, s, want)
		s.Entries = []int{10, 31, address, 15}
		wantSpace(t, s, want)
		s.Entries = []int{10, 31, address}
		wantSpace(t, s, want)
	}
	for _, address := range farAddresses() {
		s.Entries = []int{30, address}
		wantSpace(t, s, false)
	}
	for count := range 9 {
		s.Entries = slices.Repeat([]int{12}, count)
		wantSpace(t, s, count >= 1 && count <= 6)
	}
	s.Entries = starts
	wantSpace(t, s, true)
	s.Entries = append(starts, 10)
	wantSpace(t, s, true)
	s.Entries = append(starts, 10, 12)
	wantSpace(t, s, false)
	s.Entries = nil
	wantSpace(t, s, false)
	s.Entries = []int{}
	wantSpace(t, s, false)
}

func TestPromise10FunctionAt(t *testing.T) {
	s := spaceOf(plain(2, 3, 1), plain(1, 4), 10, 30, 31, 12, 31, 10, 12, 31)
	for address, want := range map[int]int{9: -1, 10: 3, 11: 3, 12: 1, 13: 1, 14: 1, 15: -1, 16: -1, 29: -1, 30: -1, 31: 0, 32: 0, 34: 0, 35: -1} {
		wantFunctionAt(t, s, address, want)
	}
	wantSpace(t, s, true)
	// The functions need not be in the order of their addresses.
	s.Entries = []int{30, 15, 31, 10, 12}
	for address, want := range map[int]int{10: 3, 11: 3, 12: 4, 13: 4, 14: 4, 15: 1, 16: -1, 29: -1, 30: 0, 31: 2, 34: 2, 35: -1} {
		wantFunctionAt(t, s, address, want)
	}
	wantSpace(t, s, true)
	// Both images may have symbols with the same offsets and names.
	s = spaceOf(plain(3, 3), plain(3, 3), 20, 10, 20, 13, 10)
	for address, want := range map[int]int{9: -1, 10: 2, 12: 2, 13: 1, 15: 1, 16: -1, 19: -1, 20: 0, 22: 0, 23: -1, 25: -1, 26: -1} {
		wantFunctionAt(t, s, address, want)
	}
	wantSpace(t, s, true)
}

// invalidSpaces are spaces of which nothing can be found, though their bytes are at 10 and 30.
func invalidSpaces() []impl.Space {
	one, two := plain(2, 3), plain(1, 4)
	gap := impl.Image{Code: one.Code, Symbols: one.Symbols[:1]}
	twice := impl.Image{Code: one.Code, Symbols: []impl.Symbol{{Name: "a", Size: 2}, {Name: "a", Start: 2, Size: 3}}}
	noCode := impl.Image{Code: "\x12\x12", Symbols: []impl.Symbol{{Name: "a", Size: 2}}}
	cutOff := impl.Image{Code: "\x05\x0c", Symbols: []impl.Symbol{{Name: "a", Size: 2}}}
	nameless := impl.Image{Code: "\x05", Symbols: []impl.Symbol{{Size: 1}}}
	list := []impl.Space{
		{},
		{Bases: []int{10, 30}, Entries: []int{10}},
		{Images: []impl.Image{one, two}, Entries: []int{10}},
		{Images: []impl.Image{one, two}, Bases: []int{10, 30}},
		{Images: []impl.Image{one}, Bases: []int{10, 30}, Entries: []int{10}},
		{Images: []impl.Image{one}, Bases: []int{10}, Entries: []int{10}},
		{Images: []impl.Image{one, two}, Bases: []int{10}, Entries: []int{10}},
		{Images: []impl.Image{one, two, {}}, Bases: []int{10, 30, 50}, Entries: []int{10}},
		{Images: []impl.Image{one, two, plain(1)}, Bases: []int{10, 30}, Entries: []int{10}},
		{Images: []impl.Image{one, two}, Bases: []int{10, 30, 50}, Entries: []int{10}},
		spaceOf(one, two, 10, 14, 10), spaceOf(one, two, 10, 10, 10), spaceOf(two, one, 14, 10, 10),
		spaceOf(one, two, 10, 30), spaceOf(one, two, 10, 30, 11), spaceOf(one, two, 10, 30, 10, 9), spaceOf(one, two, 10, 30, 10, 12, 10, 12, 30, 31, 30),
		spaceOf(one, two, 10, 0, 10), spaceOf(one, two, 0, 30, 30), spaceOf(one, two, 10, -30, 10), spaceOf(one, two, 10, 1000001, 10),
		spaceOf(one, two, 10, math.MaxInt, 10), spaceOf(one, two, math.MaxInt, 30, 30), spaceOf(one, two, math.MinInt, 30, 30), spaceOf(one, two, 10, math.MinInt, 10),
	}
	for _, bad := range []impl.Image{gap, twice, noCode, cutOff, nameless} {
		list = append(list, spaceOf(bad, two, 10, 30, 30), spaceOf(one, bad, 10, 30, 10), spaceOf(bad, two, 10, 30, 10))
	}
	return list
}

func TestPromise10InvalidSpaces(t *testing.T) {
	for _, s := range invalidSpaces() {
		wantSpace(t, s, false)
		for address := -5; address < 60; address++ {
			wantLocate(t, s, address, -1, -1)
			wantFetch(t, s, address, impl.Op{}, 0)
			wantFunctionAt(t, s, address, -1)
		}
	}
	wantSpace(t, spaceOf(plain(2, 3), plain(1, 4), 10, 30, 10), true)
}

func TestPromise10MaxAddress(t *testing.T) {
	const most = 1000000
	large, small := plain(most-5, 5), plain(1)
	check := func(s impl.Space, want bool, addresses ...int) {
		t.Helper()
		if got := impl.SpaceOk(s); got != want {
			t.Errorf("SpaceOk of a large image at %v = %v, want %v", s.Bases, got, want)
		}
		for _, address := range addresses {
			image, offset, size, f := -1, -1, 0, -1
			for i, base := range s.Bases {
				if want && address >= base && address < base+len(s.Images[i].Code) {
					image, offset, size, f = i, address-base, 1, slices.Index(s.Entries, address)
				}
			}
			wantLocate(t, s, address, image, offset)
			wantFetch(t, s, address, impl.Op{Code: impl.OpAdd * size}, size)
			if f >= 0 || image < 0 {
				wantFunctionAtLarge(t, s, address, f)
			}
		}
	}
	check(spaceOf(large, small, most, 1, most, 2*most-5, 1), true, 0, 1, 2, most-1, most, 2*most-5, 2*most-1, 2*most, 2*most+1)
	check(spaceOf(small, large, most-1, most, 2*most-5, most-1), true, most-2, most-1, most, 2*most-5, 2*most-1, 2*most)
	check(spaceOf(large, impl.Image{}, 1, most, 1), true, 0, 1, most, most+1)
	check(spaceOf(large, small, 1, most, 1), false, 0, 1, most-1, most, most+1)
	check(spaceOf(large, large, 1, most, 1), false, 1, most)
	check(spaceOf(plain(most+1), small, 2, 1, 2), false, 1, 2, most+2)
	check(spaceOf(large, plain(1), 2, most+1, 2), false, 2, most+1)
	check(spaceOf(plain(most-1), large, 1, most, most, 1), true, 0, 1, most-1, most, 2*most-1, 2*most)
}

// wantFunctionAtLarge is for spaces that are too long for messages.
func wantFunctionAtLarge(t *testing.T, s impl.Space, address int, want int) {
	t.Helper()
	if f := impl.FunctionAt(s, address); f != want {
		t.Errorf("FunctionAt %d of images at %v is %d, want %d", address, s.Bases, f, want)
	}
}

func TestPromise10EachShortSpace(t *testing.T) {
	// Valid images, some without bytes, and one that is not valid.
	images := []impl.Image{{}, plain(1), plain(1, 2), {Code: "\x0c\x05\x05", Symbols: []impl.Symbol{{Name: "m", Size: 2}, {Name: "n", Start: 2, Size: 1}}}, {Code: "\x05"}}
	entries, valid := listsUpTo([]int{1, 2, 4, 5}, 2), 0
	for _, first := range images {
		for _, second := range images {
			for base := range 7 {
				for other := range 7 {
					for _, list := range entries {
						s := spaceOf(first, second, base, other, list...)
						_, ok := readSpace(s)
						wantSpace(t, s, ok)
						if ok {
							valid++
						}
					}
				}
			}
		}
	}
	if valid < 1000 {
		t.Error("only", valid, "spaces are valid")
	}
}

func TestPromise10MostFunctions(t *testing.T) {
	var text []string
	for f := range impl.MaxFunctions {
		// The functions have 10 bytes, and 6 more for each line.
		text = append(text, "fun "+functionName(f)+strings.Repeat(";out 7", f)+";end")
	}
	p := linesOf(t, strings.Join(text, ";"))
	whole := wantLoaded(t, p, impl.Build{}, 1000, 500)
	if want := []int{1000, 1010, 1026, 1048, 1076, 1110}; !slices.Equal(whole.Entries, want) {
		t.Error("the entries are", whole.Entries, "want", want)
	}
	split := wantLoaded(t, p, impl.Build{Split: true}, 1000, 500)
	if want := []int{1000, 500, 1010, 516, 1032, 544}; !slices.Equal(split.Entries, want) {
		t.Error("the entries are", split.Entries, "want", want)
	}
	wantSpace(t, whole, true)
	wantSpace(t, split, true)
}

func TestPromise10MadePrograms(t *testing.T) {
	builds, functions := fewBuilds(), map[int]int{}
	programs := madePrograms()
	for seed := range int64(600) {
		p, ok := impl.ParseProgram(strings.ReplaceAll(madeCaller(seed), ";", "\n") + "\n")
		if ok && impl.ProgramOk(p) {
			programs = append(programs, p)
		}
	}
	for i, p := range programs {
		if i%3 == 0 {
			continue
		}
		b := builds[i%len(builds)]
		b.Frames, b.Split = b.Frames^i%64, i%5 > 1
		first, second := 1+i*7919%1000000, 1+i*104729%1000000
		if i%4 == 0 {
			// Without a gap, in one of both orders.
			first = 1 + i*7919%900000
			second = first + len(readImage(p, b, 0).Code)
		}
		if i%8 == 0 {
			second = 1 + i*7919%900000
			first = second + len(readImage(p, b, 1).Code)
		}
		if lengths := len(readImage(p, b, 0).Code) + len(readImage(p, b, 1).Code); i%4 > 0 && max(first-second, second-first) < lengths {
			continue
		}
		s := wantLoaded(t, p, b, first, second)
		functions[len(s.Entries)]++
		if i%10 == 0 {
			wantSpace(t, s, true)
		}
	}
	for _, count := range []int{1, 2, 3, 4, impl.MaxFunctions} {
		if functions[count] < 50 {
			t.Error("too few programs have", count, "functions:", functions)
		}
	}
}

func TestPromise10EachBase(t *testing.T) {
	// Image 0 stays where it is, and image 1 is moved over it.
	for _, text := range []string{calledProduct, nestedCalls, operandCalls} {
		p := linesOf(t, text)
		for _, b := range []impl.Build{{Split: true}, {Frames: 63, Split: true}, {Inline: 3, Fold: true, Split: true}, {Frames: 5}} {
			first, second := len(readImage(p, b, 0).Code), len(readImage(p, b, 1).Code)
			for other := 200 - second - 5; other < 200+first+5; other++ {
				if second == 0 || other+second <= 200 || other >= 200+first {
					wantLoaded(t, p, b, 200, other)
				} else {
					wantNotLoaded(t, p, b, 200, other)
				}
			}
		}
	}
}

func TestPromise10InvalidPrograms(t *testing.T) {
	for _, p := range append(invalidPrograms(t), nil) {
		for _, b := range []impl.Build{{}, {Split: true}, {Frames: 63, Inline: 3, Fold: true, Split: true}, {Frames: 64}} {
			wantNotLoaded(t, p, b, 100, 500000)
			wantNotLoaded(t, p, b, 0, 0)
		}
	}
}

func TestPromise10InvalidBuilds(t *testing.T) {
	p := linesOf(t, nestedCalls)
	for _, n := range []int{math.MinInt, -64, -1, 64, 65, 127, 1 << 32, math.MaxInt} {
		for _, split := range []bool{false, true} {
			wantNotLoaded(t, p, impl.Build{Frames: n, Split: split}, 100, 500000)
			wantNotLoaded(t, p, impl.Build{Inline: n, Split: split}, 100, 500000)
			wantNotLoaded(t, p, impl.Build{Frames: n, Inline: 3, Fold: true, Split: split}, 100, 500000)
		}
	}
	wantNotLoaded(t, p, impl.Build{Inline: 4, Split: true}, 100, 500000)
}

func TestPromise10ArgumentsAreKept(t *testing.T) {
	p := append(linesOf(t, calledProduct), impl.Line{Kind: 9})
	before := slices.Clone(p)
	s, ok := impl.LoadSpace(p[:len(p)-1], impl.Build{Split: true}, 100, 200)
	if !ok || !sameProgram(p, before) {
		t.Error("the program has changed", p, ok)
	}
	images, bases, entries := append(s.Images, plain(1)), append(s.Bases, 7), append(s.Entries, 8)
	kept := impl.Space{Images: slices.Clone(images), Bases: slices.Clone(bases), Entries: slices.Clone(entries)}
	short := impl.Space{Images: images[:2], Bases: bases[:2], Entries: entries[:2]}
	if image, offset := impl.Locate(short, 202); image != 1 || offset != 2 || !impl.SpaceOk(short) || impl.FunctionAt(short, 202) != 1 {
		t.Error("the space is not taken", short)
	}
	if _, _, ok := impl.FetchOp(short, 202); !ok || !sameSpace(impl.Space{Images: images, Bases: bases, Entries: entries}, kept) {
		t.Error("the space has changed", short)
	}
}

func TestPromise10ResultsShareNoMemory(t *testing.T) {
	p, b := linesOf(t, nestedCalls), impl.Build{Split: true}
	want := readLoaded(p, b, [2]int{100, 500})
	s, _ := impl.LoadSpace(p, b, 100, 500)
	scribbled, _ := impl.LoadSpace(p, b, 100, 500)
	for k := range scribbled.Images {
		list := scribbled.Images[k].Symbols[:cap(scribbled.Images[k].Symbols)]
		for at := range list {
			list[at] = impl.Symbol{Name: "scribble"}
		}
		if other := scribbled.Images[1-k].Symbols; k == 0 && !slices.Equal(other, want.Images[1].Symbols) {
			t.Error("the images share memory", other)
		}
	}
	bases, entries := scribbled.Bases[:cap(scribbled.Bases)], scribbled.Entries[:cap(scribbled.Entries)]
	for at := range bases {
		bases[at] = -7
	}
	if !slices.Equal(scribbled.Entries, want.Entries) {
		t.Error("the bases share memory with the entries", scribbled.Entries)
	}
	for at := range entries {
		entries[at] = -8
	}
	if !slices.Equal(scribbled.Bases, []int{-7, -7}) {
		t.Error("the entries share memory with the bases", scribbled.Bases)
	}
	again, _ := impl.LoadSpace(p, b, 100, 500)
	if !sameSpace(s, want) || !sameSpace(again, want) {
		t.Error("two results share memory", s, again)
	}
}
