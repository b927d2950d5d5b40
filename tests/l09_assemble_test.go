package tests

import (
	"encoding/hex"
	"math"
	"slices"
	"strings"
	"testing"

	"loop.example/g03314/impl"
)

// Promise 9: images consist of the symbols of their functions.

// bytesOf reads hexadecimal digits with spaces and line feeds between them.
func bytesOf(t *testing.T, text string) string {
	t.Helper()
	b, err := hex.DecodeString(strings.Join(strings.Fields(text), ""))
	if err != nil {
		t.Fatal(err)
	}
	return string(b)
}

func samePlace(a impl.Place, b impl.Place) bool {
	return a.Offset == b.Offset && sameItem(a.Item, b.Item)
}

func sameImage(a impl.Image, b impl.Image) bool {
	return a.Code == b.Code && slices.Equal(a.Symbols, b.Symbols)
}

// readSize is the size of an instruction in the test's own reading.
func readSize(x impl.Op) int {
	f, _ := readForm(x.Code)
	return 1 + f.size
}

// readDistance goes from behind the item at an index to another one, instruction by instruction.
func readDistance(items []impl.Item, from int, to int) int {
	distance := 0
	for k := from + 1; k < to; k++ {
		distance += readSize(items[k].Op)
	}
	for k := from; k >= to; k-- {
		distance -= readSize(items[k].Op)
	}
	return distance
}

// readFunctions are the numbers of the functions of an image.
func readFunctions(p []impl.Line, b impl.Build, image int) []int {
	var numbers []int
	for f := range functionCount(p) {
		if b.Split && f%2 == image || !b.Split && image == 0 {
			numbers = append(numbers, f)
		}
	}
	return numbers
}

// readPlaces are the places of an image in the test's own reading, with those of each function by itself.
func readPlaces(p []impl.Line, b impl.Build, image int) [][]impl.Place {
	var functions [][]impl.Place
	offset := 0
	for _, f := range readFunctions(p, b, image) {
		items := readItems(p, f, b)
		places := []impl.Place{}
		for k, x := range items {
			size := readSize(x.Op)
			if x.Op.Code == impl.OpJump || x.Op.Code == impl.OpZero {
				x.Op.Arg = readDistance(items, k, x.Op.Arg)
			}
			places = append(places, impl.Place{Offset: offset, Item: x})
			offset += size
		}
		functions = append(functions, places)
	}
	return functions
}

// readImage is the image that consists of such places.
func readImage(p []impl.Line, b impl.Build, image int) impl.Image {
	var names []string
	for _, x := range p {
		if x.Kind == impl.LineFun {
			names = append(names, x.Name)
		}
	}
	var got impl.Image
	numbers := readFunctions(p, b, image)
	for i, places := range readPlaces(p, b, image) {
		start := len(got.Code)
		for _, x := range places {
			got.Code += readBytes(x.Item.Op)
		}
		got.Symbols = append(got.Symbols, impl.Symbol{Name: names[numbers[i]], Start: start, Size: len(got.Code) - start})
	}
	return got
}

// wantAssembled compares both images of a program with the test's own reading, and checks what the promise says of them.
func wantAssembled(t *testing.T, p []impl.Line, b impl.Build) {
	t.Helper()
	found := map[string]bool{}
	for image := range 2 {
		places, want := impl.PlacesOf(p, b, image), slices.Concat(readPlaces(p, b, image)...)
		if !slices.EqualFunc(places, want, samePlace) {
			t.Fatalf("PlacesOf(%q, %v, %d) = %v, want %v", impl.FormatProgram(p), b, image, places, want)
		}
		i := impl.AssembleImage(p, b, image)
		if want := readImage(p, b, image); !sameImage(i, want) {
			t.Fatalf("AssembleImage(%q, %v, %d) = %v, want %v", impl.FormatProgram(p), b, image, i, want)
		}
		wantSymbols(t, p, b, i, image)
		for _, s := range i.Symbols {
			found[s.Name] = true
		}
	}
	for _, x := range p {
		if x.Kind == impl.LineFun && !found[x.Name] {
			t.Fatalf("no image of %q with %v has the function %s", impl.FormatProgram(p), b, x.Name)
		}
	}
	if len(found) != functionCount(p) {
		t.Fatalf("the images of %q with %v have the functions %v", impl.FormatProgram(p), b, found)
	}
}

// wantSymbols checks an image by its symbols alone: without gaps, and with the instructions of their functions.
func wantSymbols(t *testing.T, p []impl.Line, b impl.Build, i impl.Image, image int) {
	t.Helper()
	if !impl.ImageOk(i) || !wantImageOk(i) {
		t.Fatalf("the image %d of %q with %v is %v, which is not valid", image, impl.FormatProgram(p), b, i)
	}
	numbers, next := readFunctions(p, b, image), 0
	if len(i.Symbols) != len(numbers) {
		t.Fatalf("the image %d of %q with %v has %d symbols, want %d", image, impl.FormatProgram(p), b, len(i.Symbols), len(numbers))
	}
	for k, s := range i.Symbols {
		for offset := s.Start; offset < s.Start+s.Size; offset++ {
			if impl.SymbolAt(i, offset) != k {
				t.Fatalf("SymbolAt(%v, %d) = %d, want %d", i, offset, impl.SymbolAt(i, offset), k)
			}
		}
		if s.Start != next || s.Size < 1 || s.Size > len(i.Code)-next {
			t.Fatalf("the image %d of %q with %v has the symbols %v, and %d bytes", image, impl.FormatProgram(p), b, i.Symbols, len(i.Code))
		}
		next += s.Size
		wantFunction(t, i.Code[s.Start:next], impl.CompileFunction(p, numbers[k], b))
	}
	if next != len(i.Code) || impl.SymbolAt(i, next) != -1 || impl.SymbolAt(i, -1) != -1 {
		t.Fatalf("the image %d of %q with %v has the symbols %v, and %d bytes", image, impl.FormatProgram(p), b, i.Symbols, len(i.Code))
	}
}

// wantFunction finds the items of a function in its bytes: jumps lead to the beginning of an instruction, which has the index that the item tells.
func wantFunction(t *testing.T, code string, items []impl.Item) {
	t.Helper()
	var ops []impl.Op
	var ends []int
	index := map[int]int{}
	for at := 0; at < len(code); {
		x, size, ok := readOp(code, at)
		if !ok {
			t.Fatalf("there is no instruction at %d of %q", at, code)
		}
		index[at] = len(ops)
		at += size
		ops, ends = append(ops, x), append(ends, at)
	}
	for k := range ops {
		if ops[k].Code != impl.OpJump && ops[k].Code != impl.OpZero {
			continue
		}
		to, ok := index[ends[k]+ops[k].Arg]
		if !ok {
			t.Fatalf("instruction %d of %q continues at %d, where none begins", k, code, ends[k]+ops[k].Arg)
		}
		ops[k].Arg = to
	}
	if !slices.EqualFunc(ops, items, func(x impl.Op, y impl.Item) bool { return x == y.Op }) {
		t.Fatalf("%q has the instructions %v, want those of\n%s", code, ops, itemTexts(items))
	}
}

// wantImage compares an image with bytes and symbols that are written by hand; it checks the test's own reading as well.
func wantImage(t *testing.T, text string, b impl.Build, image int, code string, symbols ...impl.Symbol) {
	t.Helper()
	p, want := linesOf(t, text), impl.Image{Code: bytesOf(t, code), Symbols: symbols}
	for who, got := range map[string]impl.Image{"AssembleImage": impl.AssembleImage(p, b, image), "the test's own reading": readImage(p, b, image)} {
		if !sameImage(got, want) {
			t.Errorf("%s of %q with %v, %d: % x %v, want % x %v", who, text, b, image, got.Code, got.Symbols, want.Code, want.Symbols)
		}
	}
	wantAssembled(t, p, b)
}

// wantNothing is for arguments of which there are no places and no image.
func wantNothing(t *testing.T, p []impl.Line, b impl.Build, image int) {
	t.Helper()
	if places := impl.PlacesOf(p, b, image); len(places) != 0 {
		t.Errorf("PlacesOf(%q, %v, %d) = %v, want none", impl.FormatProgram(p), b, image, places)
	}
	if i := impl.AssembleImage(p, b, image); i.Code != "" || len(i.Symbols) != 0 {
		t.Errorf("AssembleImage(%q, %v, %d) = %v, want the zero Image", impl.FormatProgram(p), b, image, i)
	}
}

// wantImageOk reads the document in a second way: it compares the symbols with their neighbours.
func wantImageOk(i impl.Image) bool {
	list := i.Symbols
	if len(i.Code) > 1000000 || len(list) == 0 {
		return i.Code == ""
	}
	first, last := list[0], list[len(list)-1]
	for k, s := range list {
		inside := s.Start >= 0 && s.Start < len(i.Code) && s.Size >= 1 && s.Size <= len(i.Code)
		if !inside || k > 0 && s.Start != list[k-1].Start+list[k-1].Size {
			return false
		}
		if s.Name == "" || len(s.Name) > 8 || strings.Trim(s.Name, "abcdefghijklmnopqrstuvwxyz") != "" {
			return false
		}
		for _, other := range list[:k] {
			if other.Name == s.Name {
				return false
			}
		}
	}
	if first.Start != 0 || last.Start+last.Size != len(i.Code) {
		return false
	}
	for _, s := range list {
		for at := s.Start; at < s.Start+s.Size; {
			_, size, ok := readOp(i.Code[:s.Start+s.Size], at)
			if !ok {
				return false
			}
			at += size
		}
	}
	return true
}

func wantImageValid(t *testing.T, i impl.Image, want bool) {
	t.Helper()
	if got := impl.ImageOk(i); got != want {
		t.Errorf("ImageOk(%q, %v) = %v, want %v", i.Code, i.Symbols, got, want)
	}
	if got := wantImageOk(i); got != want {
		t.Errorf("the test's own reading of the image %q, %v is %v, want %v", i.Code, i.Symbols, got, want)
	}
}

func wantSymbolAt(t *testing.T, symbols []impl.Symbol, offset int, want int) {
	t.Helper()
	if got := impl.SymbolAt(impl.Image{Symbols: symbols}, offset); got != want {
		t.Errorf("SymbolAt(%v, %d) = %d, want %d", symbols, offset, got, want)
	}
}

const calledProduct = "fun main;set a f/1 2;out a;end;fun f x;return * 3 x;end"

func TestPromise9OneImage(t *testing.T) {
	main := "0f01 0002000000 0c01 040100 030000 11 0000000000 101000"
	called := "0f00 0003000000 030200 07 100100 0000000000 100100"
	wantImage(t, calledProduct, impl.Build{}, 0, main+called, impl.Symbol{Name: "main", Start: 0, Size: 24}, impl.Symbol{Name: "f", Start: 24, Size: 22})
	wantImage(t, calledProduct, impl.Build{}, 1, "")
	wantImage(t, calledProduct, impl.Build{Split: true}, 0, main, impl.Symbol{Name: "main", Size: 24})
	wantImage(t, calledProduct, impl.Build{Split: true}, 1, called, impl.Symbol{Name: "f", Size: 22})
	// With frames, OpLeave has one byte less than OpReturn.
	main = "0d01 0002000000 0c01 02ffff 01ffff 11 0000000000 0e00"
	called = "0d00 0003000000 010200 07 0e01 0000000000 0e01"
	wantImage(t, calledProduct, impl.Build{Frames: 3}, 0, main+called, impl.Symbol{Name: "main", Size: 23}, impl.Symbol{Name: "f", Start: 23, Size: 20})
	wantImage(t, calledProduct, impl.Build{Frames: 3, Split: true}, 1, called, impl.Symbol{Name: "f", Size: 20})
}

func TestPromise9Places(t *testing.T) {
	p := linesOf(t, calledProduct)
	for _, c := range []struct {
		b       impl.Build
		image   int
		offsets []int
	}{
		{impl.Build{}, 0, []int{0, 2, 7, 9, 12, 15, 16, 21, 24, 26, 31, 34, 35, 38, 43}},
		{impl.Build{}, 1, nil},
		{impl.Build{Split: true}, 0, []int{0, 2, 7, 9, 12, 15, 16, 21}},
		{impl.Build{Split: true}, 1, []int{0, 2, 7, 10, 11, 14, 19}},
		{impl.Build{Frames: 1}, 0, []int{0, 2, 7, 9, 12, 15, 16, 21, 23, 25, 30, 33, 34, 37, 42}},
		{impl.Build{Inline: 1, Split: true}, 0, []int{0, 2, 7, 10, 15, 18, 19, 22, 27, 30, 33, 34, 39}},
	} {
		var offsets []int
		var items []impl.Item
		for _, x := range impl.PlacesOf(p, c.b, c.image) {
			offsets = append(offsets, x.Offset)
			x.Item.Op.Arg = 0
			items = append(items, x.Item)
		}
		if !slices.Equal(offsets, c.offsets) {
			t.Errorf("PlacesOf with %v, %d has the offsets %v, want %v", c.b, c.image, offsets, c.offsets)
		}
		// Everything else is that of the items.
		var want []impl.Item
		for _, f := range readFunctions(p, c.b, c.image) {
			for _, x := range impl.CompileFunction(p, f, c.b) {
				x.Op.Arg = 0
				want = append(want, x)
			}
		}
		if !slices.EqualFunc(items, want, sameItem) {
			t.Errorf("PlacesOf with %v, %d has the items\n%s\nwant\n%s", c.b, c.image, itemTexts(items), itemTexts(want))
		}
	}
}

func TestPromise9Jumps(t *testing.T) {
	end := "0000000000 100000"
	for _, c := range []struct{ lines, code string }{
		// Forward to what is behind the LineEnd, and backward to the condition.
		{"while 0;out 1;end", "0f00 0000000000 0b0900 0001000000 11 0aefff" + end},
		{"while 0;end", "0f00 0000000000 0b0300 0af5ff" + end},
		{"while + 1 2;end", "0f00 0001000000 0002000000 05 0b0300 0aefff" + end},
		{"if 0;out 1;else;out 2;end", "0f00 0000000000 0b0900 0001000000 11 0a0600 0002000000 11" + end},
		{"if 0;out 1;end", "0f00 0000000000 0b0600 0001000000 11" + end},
		// A distance of 0 continues behind the instruction itself.
		{"if 1;end", "0f00 0001000000 0b0000" + end},
		{"if 1;else;end", "0f00 0001000000 0b0300 0a0000" + end},
		{"while 1;if 2;while 3;end;else;out 4;end;end", "0f00 0001000000 0b1f00 0002000000 0b0e00 0003000000 0b0300 0af5ff 0a0600 0004000000 11 0ad9ff" + end},
	} {
		code := bytesOf(t, c.code)
		wantImage(t, "fun main;"+c.lines+";end", impl.Build{}, 0, c.code, impl.Symbol{Name: "main", Size: len(code)})
		// The same lines behind another function, and in the other image.
		before := "0f00" + end
		wantImage(t, "fun main;end;fun f;"+c.lines+";end", impl.Build{}, 0, before+c.code, impl.Symbol{Name: "main", Size: 10}, impl.Symbol{Name: "f", Start: 10, Size: len(code)})
		wantImage(t, "fun main;end;fun f;"+c.lines+";end", impl.Build{Split: true}, 1, c.code, impl.Symbol{Name: "f", Size: len(code)})
	}
}

func TestPromise9FarJumps(t *testing.T) {
	// Fifty lines of 60 bytes each.
	p := linesOf(t, "fun main;while 1"+fillers(1000)+";end;end")
	ops := map[int]impl.Op{}
	for _, x := range impl.PlacesOf(p, impl.Build{}, 0) {
		ops[x.Offset] = x.Item.Op
	}
	if ops[7] != (impl.Op{Code: impl.OpZero, Arg: 3003}) || ops[3010] != (impl.Op{Code: impl.OpJump, Arg: -3011}) {
		t.Error("the jumps are", ops[7], ops[3010])
	}
	wantAssembled(t, p, impl.Build{})
	i := impl.AssembleImage(p, impl.Build{}, 0)
	if len(i.Code) != 3021 || i.Code[7:10] != "\x0b\xbb\x0b" || i.Code[3010:3013] != "\x0a\x3d\xf4" {
		t.Errorf("the %d bytes have the jumps %q and %q", len(i.Code), i.Code[7:10], i.Code[3010:3013])
	}
}

func TestPromise9JumpsOfReplacements(t *testing.T) {
	text := "fun main;out f/1 5;end;fun f x;if x;return 1;end;end"
	wantImage(t, text, impl.Build{Inline: 1, Split: true}, 0, `0f01 0005000000 040100
		030000 0b0800 0001000000 0a0500 0000000000 11 0000000000 101000`, impl.Symbol{Name: "main", Size: 38})
	wantImage(t, text, impl.Build{Inline: 1, Split: true}, 1, "0f00 030100 0b0800 0001000000 100100 0000000000 100100", impl.Symbol{Name: "f", Size: 24})
	for _, text := range []string{operandCalls, nestedCalls} {
		for _, b := range fewBuilds() {
			for i := range 2 {
				b.Split = i > 0
				wantAssembled(t, linesOf(t, text), b)
			}
		}
	}
}

func TestPromise9Split(t *testing.T) {
	var text []string
	for f := range impl.MaxFunctions {
		// The functions differ in their sizes: 10 bytes, and 6 more for each line.
		text = append(text, "fun "+functionName(f)+strings.Repeat(";out 7", f)+";end")
		p := linesOf(t, strings.Join(text, ";"))
		for _, split := range []bool{false, true} {
			var want [2][]impl.Symbol
			var next [2]int
			for k := range f + 1 {
				image := 0
				if split {
					image = k & 1
				}
				want[image] = append(want[image], impl.Symbol{Name: functionName(k), Start: next[image], Size: 10 + 6*k})
				next[image] += 10 + 6*k
			}
			for image := range 2 {
				i := impl.AssembleImage(p, impl.Build{Split: split}, image)
				if !slices.Equal(i.Symbols, want[image]) || len(i.Code) != next[image] {
					t.Errorf("%d functions, Split %v, image %d: %v, %d bytes, want %v", f+1, split, image, i.Symbols, len(i.Code), want[image])
				}
			}
			wantAssembled(t, p, impl.Build{Split: split})
			wantAssembled(t, p, impl.Build{Split: split, Frames: 63})
		}
	}
}

func TestPromise9OneFunction(t *testing.T) {
	for _, text := range []string{"fun main;end", "fun main;set a 1;while < a 5;set a + a 1;end;return a;end", "fun main;return main/0;end"} {
		p := linesOf(t, text)
		for _, b := range append(fewBuilds(), impl.Build{}, impl.Build{Split: true}) {
			wantNothing(t, p, b, 1)
			empty := impl.AssembleImage(p, b, 1)
			if !impl.ImageOk(empty) || impl.SymbolAt(empty, 0) != -1 {
				t.Error("the image without functions is", empty, impl.ImageOk(empty), impl.SymbolAt(empty, 0))
			}
			if whole := impl.AssembleImage(p, b, 0); len(whole.Symbols) != 1 || whole.Symbols[0] != (impl.Symbol{Name: "main", Size: len(whole.Code)}) {
				t.Errorf("the image of %q is %v", text, whole)
			}
			wantAssembled(t, p, b)
		}
	}
}

func TestPromise9Fold(t *testing.T) {
	text := "fun main;out + 1 * 2 3;end"
	wantImage(t, text, impl.Build{}, 0, "0f00 0001000000 0002000000 0003000000 07 05 11 0000000000 100000", impl.Symbol{Name: "main", Size: 28})
	wantImage(t, text, impl.Build{Fold: true}, 0, "0f00 0007000000 11 0000000000 100000", impl.Symbol{Name: "main", Size: 16})
}

func TestPromise9SymbolAt(t *testing.T) {
	i := impl.AssembleImage(linesOf(t, calledProduct), impl.Build{}, 0)
	for offset, want := range map[int]int{0: 0, 1: 0, 23: 0, 24: 1, 25: 1, 45: 1, 46: -1, 47: -1, -1: -1, -24: -1, math.MinInt: -1, math.MaxInt: -1, 1 << 32: -1, 1 << 62: -1} {
		if got := impl.SymbolAt(i, offset); got != want {
			t.Errorf("SymbolAt(.., %d) = %d, want %d", offset, got, want)
		}
		if got := impl.SymbolAt(impl.Image{}, offset); got != -1 {
			t.Errorf("SymbolAt of no symbols, %d = %d, want -1", offset, got)
		}
	}
	// The image need not be valid: there are gaps, symbols of no bytes, and symbols that contain the same offset.
	list := []impl.Symbol{{Start: 5, Size: 3}, {Start: 2, Size: 0}, {Start: 7, Size: 4}, {Start: 2, Size: 2}, {Start: 0, Size: 30}}
	for offset, want := range []int{4, 4, 3, 3, 4, 0, 0, 0, 2, 2, 2, 4, 4} {
		wantSymbolAt(t, list, offset, want)
	}
	wantSymbolAt(t, list, 29, 4)
	wantSymbolAt(t, list, 30, -1)
	same := []impl.Symbol{{Name: "f", Start: 3, Size: 2}, {Name: "g", Start: 3, Size: 2}, {Name: "f", Start: 4, Size: 1}}
	wantSymbolAt(t, same, 3, 0)
	wantSymbolAt(t, same, 4, 0)
	wantSymbolAt(t, same[1:], 4, 0)
	wantSymbolAt(t, same, 5, -1)
}

func TestPromise9SymbolAtOutOfRange(t *testing.T) {
	const most = impl.MaxAddress
	good := impl.Symbol{Start: most, Size: most}
	wantSymbolAt(t, []impl.Symbol{good}, most-1, -1)
	wantSymbolAt(t, []impl.Symbol{good}, most, 0)
	wantSymbolAt(t, []impl.Symbol{good}, 2*most-1, 0)
	wantSymbolAt(t, []impl.Symbol{good}, 2*most, -1)
	for _, bad := range []impl.Symbol{
		{Start: -1, Size: most}, {Start: most + 1, Size: most}, {Start: 0, Size: most + 1}, {Start: most, Size: -1}, {Start: -5, Size: 10},
		{Start: math.MinInt, Size: math.MaxInt}, {Start: math.MaxInt, Size: math.MaxInt}, {Start: math.MinInt, Size: math.MinInt}, {Start: 1, Size: math.MaxInt},
		{Start: 0, Size: math.MinInt}, {Start: math.MaxInt, Size: 1}, {Start: math.MaxInt, Size: 0}, {Start: math.MinInt, Size: most}, {Start: 0, Size: math.MaxInt},
	} {
		for _, offset := range []int{-5, -1, 0, 1, 4, most, most + 1, 2*most - 1, 2 * most, math.MaxInt, math.MaxInt - 1, math.MinInt, math.MinInt + 1} {
			wantSymbolAt(t, []impl.Symbol{bad}, offset, -1)
			behind := -1
			if offset >= most && offset < 2*most {
				behind = 1
			}
			wantSymbolAt(t, []impl.Symbol{bad, good}, offset, behind)
		}
	}
}

func TestPromise9ImageOk(t *testing.T) {
	one := "\x00\x07\x00\x00\x00"
	two := []impl.Symbol{{Name: "main", Size: 6}, {Name: "f", Start: 6, Size: 2}}
	code := one + "\x11" + "\x0c\x01"
	wantImageValid(t, impl.Image{}, true)
	wantImageValid(t, impl.Image{Code: code, Symbols: two}, true)
	wantImageValid(t, impl.Image{Code: "\x05", Symbols: []impl.Symbol{{Name: "abcdefgh", Size: 1}}}, true)
	wantImageValid(t, impl.Image{Code: code, Symbols: []impl.Symbol{{Name: "f", Size: 8}}}, true)
	for _, list := range [][]impl.Symbol{
		nil,
		{two[1], two[0]},
		{two[0]}, {two[1]},
		{two[0], two[1], two[1]}, {two[0], two[0], two[1]},
		// A gap before, between and behind.
		{{Name: "main", Start: 5, Size: 1}, two[1]}, {{Name: "main", Start: 0, Size: 5}, two[1]}, {two[0], {Name: "f", Start: 7, Size: 1}},
		{{Name: "main", Start: -6, Size: 6}, two[1]}, {{Name: "main", Start: 1, Size: 5}, two[1]}, {{Name: "main", Start: -1, Size: 7}, two[1]},
		// Too short or too long.
		{two[0], {Name: "f", Start: 6, Size: 1}}, {two[0], {Name: "f", Start: 6, Size: 3}}, {{Name: "main", Size: 7}, two[1]}, {{Name: "main", Size: 9}},
		{{Name: "main", Size: math.MaxInt}, two[1]}, {two[0], {Name: "f", Start: 6, Size: math.MaxInt}}, {two[0], {Name: "f", Start: 6, Size: math.MinInt}},
		// A Size of 0, or below.
		{{Name: "g"}, two[0], two[1]}, {two[0], {Name: "g", Start: 6}, two[1]}, {two[0], two[1], {Name: "g", Start: 8}},
		{two[0], two[1], {Name: "g", Start: 8, Size: -8}, {Name: "h", Start: 0, Size: 8}}, {{Name: "main", Size: -1}, {Name: "f", Start: -1, Size: 9}},
		// Names.
		{two[0], {Name: "main", Start: 6, Size: 2}}, {two[0], {Name: "", Start: 6, Size: 2}}, {two[0], {Name: "F", Start: 6, Size: 2}},
		{{Name: "abcdefghi", Size: 6}, two[1]}, {{Name: "main ", Size: 6}, two[1]}, {{Name: "a1", Size: 6}, two[1]},
		// The instructions of the image do not begin where these symbols do.
		{{Name: "main", Size: 4}, {Name: "f", Start: 4, Size: 4}}, {{Name: "main", Size: 7}, {Name: "f", Start: 7, Size: 1}},
	} {
		wantImageValid(t, impl.Image{Code: code, Symbols: list}, false)
	}
	for _, bad := range []string{"\x12", "\xff", "\x00", one[:4], "\x0c", "\x05\x0c", "\x05\x12\x05"} {
		symbol := impl.Symbol{Name: "f", Size: len(bad)}
		wantImageValid(t, impl.Image{Code: bad, Symbols: []impl.Symbol{symbol}}, false)
		wantImageValid(t, impl.Image{Code: bad}, false)
		wantImageValid(t, impl.Image{Code: bad + "\x05\x05\x05\x05\x05", Symbols: []impl.Symbol{symbol, {Name: "g", Start: len(bad), Size: 5}}}, false)
		wantImageValid(t, impl.Image{Code: "\x05" + bad, Symbols: []impl.Symbol{{Name: "g", Size: 1}, {Name: "f", Start: 1, Size: len(bad)}}}, false)
	}
	wantImageValid(t, impl.Image{Symbols: []impl.Symbol{{Name: "f"}}}, false)
	wantImageValid(t, impl.Image{Symbols: []impl.Symbol{{Name: "f", Size: 1}}}, false)
}

func TestPromise9EachName(t *testing.T) {
	for c := range 256 {
		for _, name := range []string{string([]byte{byte(c)}), "a" + string([]byte{byte(c)}), "abcdefg" + string([]byte{byte(c)})} {
			i := impl.Image{Code: "\x05", Symbols: []impl.Symbol{{Name: name, Size: 1}}}
			wantImageValid(t, i, c >= 'a' && c <= 'z')
		}
	}
}

func TestPromise9MaxAddress(t *testing.T) {
	const most = 1000000
	for size, want := range map[int]bool{most - 1: true, most: true, most + 1: false, most + 5: false} {
		i := impl.Image{Code: strings.Repeat("\x05", size), Symbols: []impl.Symbol{{Name: "f", Size: size}}}
		if got := impl.ImageOk(i); got != want {
			t.Errorf("ImageOk of %d bytes in one symbol = %v, want %v", size, got, want)
		}
		half := []impl.Symbol{{Name: "f", Size: size / 2}, {Name: "g", Start: size / 2, Size: size - size/2}}
		if got := impl.ImageOk(impl.Image{Code: i.Code, Symbols: half}); got != want {
			t.Errorf("ImageOk of %d bytes in two symbols = %v, want %v", size, got, want)
		}
		if impl.ImageOk(impl.Image{Code: i.Code}) {
			t.Errorf("ImageOk of %d bytes without a symbol is true", size)
		}
	}
}

func TestPromise9ManySymbols(t *testing.T) {
	// Each byte is a function, with a name of five letters that are the digits of its number.
	const most = 1000000
	i := impl.Image{Code: strings.Repeat("\x05", most)}
	for k := range most {
		name := []byte("aaaaa")
		for at, n := 0, k; n > 0; at, n = at+1, n/26 {
			name[at] += byte(n % 26)
		}
		i.Symbols = append(i.Symbols, impl.Symbol{Name: string(name), Start: k, Size: 1})
	}
	if !impl.ImageOk(i) || impl.SymbolAt(i, most-1) != most-1 || impl.SymbolAt(i, most) != -1 {
		t.Error("an image of a million symbols is not valid")
	}
	i.Symbols[most-1].Name = "aaaaa"
	if impl.ImageOk(i) {
		t.Error("an image is valid whose last symbol has the name of the first one")
	}
}

func TestPromise9EachShortImage(t *testing.T) {
	var symbols []impl.Symbol
	for start := -1; start <= 3; start++ {
		for size := -1; size <= 3; size++ {
			for _, name := range []string{"f", "g", "F"} {
				symbols = append(symbols, impl.Symbol{Name: name, Start: start, Size: size})
			}
		}
	}
	lists, valid := listsUpTo(symbols, 2), 0
	for _, code := range listsUpTo([]byte{0x05, 0x0c, 0x12}, 3) {
		for _, list := range lists {
			i := impl.Image{Code: string(code), Symbols: list}
			want := wantImageOk(i)
			if got := impl.ImageOk(i); got != want {
				t.Fatalf("ImageOk(%q, %v) = %v, want %v", i.Code, list, got, want)
			}
			if want {
				valid++
			}
		}
	}
	if valid < 30 {
		t.Error("only", valid, "images are valid")
	}
}

func TestPromise9EachStructure(t *testing.T) {
	// Each list of up to five of these lines, where it makes a program, is that of main or that of a function that main calls.
	lines := linesOf(t, "if x;else;while < x 2;out f/1 x;return x;end")
	count := 0
	for _, list := range listsUpTo(lines, 5) {
		called := slices.Concat(linesOf(t, "fun main;out g/1 3;end;fun g x"), list, linesOf(t, "end;fun f z;out z;return + z 1;end"))
		if !impl.ProgramOk(called) {
			continue
		}
		count++
		main := slices.Concat(linesOf(t, "fun main;set x 1"), list, linesOf(t, "end;fun f z;if z;return + z 5;end;end"))
		for _, b := range []impl.Build{{}, {Frames: 5, Split: true}, {Inline: 3, Split: true}, {Inline: 2, Frames: 2}} {
			wantAssembled(t, called, b)
			wantAssembled(t, main, b)
		}
	}
	if count < 150 {
		t.Error("only", count, "programs are assembled")
	}
}

func TestPromise9MadePrograms(t *testing.T) {
	builds, functions := fewBuilds(), map[int]int{}
	programs := madePrograms()
	for seed := range int64(600) {
		p, ok := impl.ParseProgram(strings.ReplaceAll(madeCaller(seed), ";", "\n") + "\n")
		if ok && impl.ProgramOk(p) {
			programs = append(programs, p)
		}
	}
	for i, p := range programs {
		functions[functionCount(p)]++
		for k := range 2 {
			b := builds[(i+k*5)%len(builds)]
			b.Frames ^= i % 64
			b.Split = k > 0
			wantAssembled(t, p, b)
		}
	}
	for _, count := range []int{1, 2, 3, 4, impl.MaxFunctions} {
		if functions[count] < 100 {
			t.Error("too few programs have", count, "functions:", functions)
		}
	}
}

func TestPromise9InvalidPrograms(t *testing.T) {
	for _, p := range append(invalidPrograms(t), nil) {
		for image := -1; image <= 2; image++ {
			for _, b := range []impl.Build{{}, {Split: true}, {Frames: 63, Inline: 3, Fold: true, Split: true}, {Frames: 64}} {
				wantNothing(t, p, b, image)
			}
		}
	}
}

func TestPromise9InvalidBuildsAndImages(t *testing.T) {
	p := linesOf(t, nestedCalls)
	for image := range 2 {
		for _, n := range []int{math.MinInt, -64, -1, 64, 65, 127, 1 << 32, math.MaxInt} {
			for _, split := range []bool{false, true} {
				wantNothing(t, p, impl.Build{Frames: n, Split: split}, image)
				wantNothing(t, p, impl.Build{Inline: n, Split: split}, image)
				wantNothing(t, p, impl.Build{Frames: 63, Inline: n, Fold: true, Split: split}, image)
			}
		}
		wantNothing(t, p, impl.Build{Inline: 4, Split: true}, image)
	}
	for _, image := range []int{math.MinInt, math.MinInt + 1, -3, -2, -1, 2, 3, 4, 5, 256, 1 << 32, 1<<32 + 1, math.MaxInt} {
		for _, b := range append(fewBuilds(), impl.Build{}, impl.Build{Split: true}) {
			wantNothing(t, p, b, image)
			wantNothing(t, linesOf(t, "fun main;end"), b, image)
		}
	}
}

func TestPromise9ArgumentsAreKept(t *testing.T) {
	args := []string{"x", "y", "spare"}
	list := append(mustParse(t, "+ f/2 + 1 2 3 * 2 2"), slices.Repeat([]impl.Tok{lessTok}, 8)...)
	p := append(linesOf(t, "fun main;out 1;end;fun f x y;set z x;return + z * 3 3;end"), impl.Line{Kind: 9})
	p[1].Expr, p[3].Args = list[:len(list)-8], args[:2]
	before, listBefore := slices.Clone(p), slices.Clone(list)
	for _, b := range fewBuilds() {
		for image := range 2 {
			if places, i := impl.PlacesOf(p[:7], b, image), impl.AssembleImage(p[:7], b, image); (len(places) == 0 || i.Code == "") && (b.Split || image == 0) {
				t.Error("the program is not taken")
			}
		}
	}
	if !sameProgram(p, before) || !slices.Equal(args, []string{"x", "y", "spare"}) || !slices.Equal(list, listBefore) {
		t.Error("the program has changed", p, args, list)
	}
	i := impl.AssembleImage(p[:7], impl.Build{}, 0)
	i.Symbols = append(i.Symbols, impl.Symbol{Name: "spare"})
	symbols := slices.Clone(i.Symbols)
	shorter := impl.Image{Code: i.Code, Symbols: i.Symbols[:2]}
	if !impl.ImageOk(shorter) || impl.SymbolAt(shorter, len(i.Code)) != -1 || !slices.Equal(i.Symbols, symbols) {
		t.Error("the symbols have changed", i.Symbols, symbols)
	}
}

func TestPromise9ResultsShareNoMemory(t *testing.T) {
	p, b := linesOf(t, nestedCalls), impl.Build{Inline: 3}
	want := slices.Concat(readPlaces(p, b, 0)...)
	for k := range want {
		places := impl.PlacesOf(p, b, 0)
		for n, other := range places {
			chain := other.Item.Chain[:cap(other.Item.Chain)]
			for at := range chain {
				if n != k {
					chain[at] = -2
				}
			}
		}
		if !samePlace(places[k], want[k]) {
			t.Fatal("two chains share memory", places[k], want[k])
		}
	}
	i := impl.AssembleImage(p, b, 0)
	for k := range i.Symbols[:cap(i.Symbols)] {
		i.Symbols[:cap(i.Symbols)][k] = impl.Symbol{Name: "scribble"}
	}
	if again := impl.AssembleImage(p, b, 0); !sameImage(again, readImage(p, b, 0)) {
		t.Error("two results share memory", again)
	}
}
