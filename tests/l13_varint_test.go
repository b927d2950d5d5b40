package tests

import (
	"math"
	"slices"
	"strings"
	"testing"

	"loop.example/g03314/impl"
)

// Promise 13: numbers, lists and rules can be read from their bytes.

const (
	mostNumber  = 1099511627775
	mostSigned  = 549755813887
	leastSigned = -549755813888
)

// around returns what the bytes of a number, list or text are laid between; some of it goes on in the form of a number or of a rune.
func around() [][2]string {
	return [][2]string{{"", ""}, {"", "\x00"}, {"\x00", ""}, {"x", "y"}, {"\x80", "\x80"}, {"\xc2", "\x01"}, {"\xe2\x82", "\xac"}, {"\xf0\x9f\x98", "\xbf\xbf"}, {"\xff\xff\xff\xff\xff\xff\xff", "\xff\xff\xff\xff\xff\xff\xff"}, {"\x81\x00\x80", "\x7f"}}
}

// manyNumbers returns all small numbers, those around each power of two, and others of each size, in the range 0 to MaxVarint.
func manyNumbers() []int {
	var list []int
	for n := range 20000 {
		list = append(list, n)
	}
	for bit := 14; bit <= 40; bit++ {
		for n := 1<<bit - 300; n <= 1<<bit+300; n++ {
			list = append(list, n)
		}
		for k := range 100 {
			list = append(list, 1<<bit+(k*7919+k*k*k*104729)%(1<<bit))
		}
	}
	return slices.DeleteFunc(list, func(n int) bool { return n > mostNumber })
}

// numbersOutside returns numbers that have no bytes.
func numbersOutside() []int {
	return []int{-1, -2, -128, -300, -mostNumber, -mostNumber - 1, math.MinInt, math.MinInt + 1, mostNumber + 1, mostNumber + 2, mostNumber + 128, 1 << 41, 1 << 42, 1<<42 + 5, 1 << 48, 1<<62 + 1, math.MaxInt - 1, math.MaxInt}
}

// signedOutside returns numbers that Signless cannot give back.
func signedOutside() []int {
	return []int{mostSigned + 1, mostSigned + 2, leastSigned - 1, leastSigned - 2, mostNumber, mostNumber + 1, -mostNumber, -mostNumber - 1, 1 << 62, -1 << 62, 1<<63 - 1<<40, 1 << 48, math.MaxInt, math.MaxInt - 1, math.MinInt, math.MinInt + 1, math.MinInt + 300}
}

// badNumbers returns bytes that do not begin with a number.
func badNumbers() []string {
	zeros := func(n int) string { return strings.Repeat("\x80", n) }
	list := []string{"", "\x80\x00", "\x81\x00", "\xff\x00", "\xff\xff\x00", "\x80\x81\x00", "\xff\xff\xff\xff\xff\x00", "\xac\x82\x00", "\xef\xbf\xbd\x00", "\xc2\x80\x00",
		"\x80\x80\x80\x80\x80\x20", "\x80\x80\x80\x80\x80\x40", "\x80\x80\x80\x80\x80\x7f", "\xff\xff\xff\xff\xff\x20", "\xff\xff\xff\xff\xff\x3f", "\xff\xff\xff\xff\xff\x7f", "\x81\x80\x80\x80\x80\x21",
		"\xff\xff\xff\xff\xff\x9f\x00", "\xff\xff\xff\xff\xff\x80\x01", "\xff\xff\xff\xff\xff\x9f\x01", "\xff\xff\xff\xff\xff\xff\xff\xff\x7f", "\xff\xff\xff\xff\xff\xff\xff\xff\xff\x01", "\xac\x82\x80\x80\x80\x80\x80\x80\x80\x02", "\xac\x82\x80\x80\x80\x80\x80\x80\x80\x80\x01"}
	for n := 1; n < 80; n++ {
		list = append(list, zeros(n), strings.Repeat("\xff", n), zeros(n)+"\x00", strings.Repeat("\xc2\x80", n), strings.Repeat("\xf0\x9f\x98\x80", n))
		if n > 5 {
			list = append(list, zeros(n)+"\x01", zeros(n)+"\x7f", strings.Repeat("\xff", n)+"\x01", strings.Repeat("\xe2\x82\xac", n)+"\x01")
		}
	}
	return append(list, zeros(100000), zeros(100000)+"\x01")
}

// writeNumber is a second EncodeVarint, for a number in the range.
func writeNumber(n int) string {
	if n < 128 {
		return string([]byte{byte(n)})
	}
	return string([]byte{byte(n%128 + 128)}) + writeNumber(n/128)
}

// readNumber is a second DecodeVarint: it tries each number of bytes.
func readNumber(s string, at int) (int, int, bool) {
	if at < 0 || at > len(s) {
		return 0, 0, false
	}
	n, weight := 0, 1
	for size := 1; size <= 6 && at+size <= len(s); size++ {
		n += int(s[at+size-1]) % 128 * weight
		weight *= 128
		if n <= mostNumber && writeNumber(n) == s[at:at+size] {
			return n, size, true
		}
	}
	return 0, 0, false
}

// readNumbers is a second UnpackInts.
func readNumbers(s string, at int) ([]int, int, bool) {
	count, size, ok := readNumber(s, at)
	var list []int
	for ok && len(list) < count {
		var n, more int
		n, more, ok = readNumber(s, at+size)
		if n%2 > 0 {
			n = -n - 1
		}
		list = append(list, n/2)
		size += more
	}
	if !ok {
		return nil, 0, false
	}
	return list, size, true
}

// readText is a second UnpackText.
func readText(s string, at int) (string, int, bool) {
	var text strings.Builder
	count, size, ok := readNumber(s, at)
	for k := 0; ok && k < count; k++ {
		if at+size+k >= len(s) {
			return "", 0, false
		}
		text.WriteByte(s[at+size+k])
	}
	if !ok {
		return "", 0, false
	}
	return text.String(), size + text.Len(), true
}

// readEncodedRules is a second DecodeRules.
func readEncodedRules(s string) ([]impl.Rule, bool) {
	list, size, ok := readNumbers(s, 0)
	if !ok || size != len(s) || len(list)%4 != 0 {
		return nil, false
	}
	var rules []impl.Rule
	before := 0
	for k := 0; k < len(list); k += 4 {
		if list[k+2] != 0 && list[k+2] != 1 {
			return nil, false
		}
		r := impl.Rule{Start: before + list[k], Frame: list[k+2] == 1, Depth: list[k+3]}
		r.End = r.Start + list[k+1]
		before = r.End
		rules = append(rules, r)
	}
	_, ok = readFound(rules)
	if !ok {
		return nil, false
	}
	return rules, true
}

func wantDecoded(t *testing.T, s string, at int, n int, size int, ok bool) {
	t.Helper()
	if gotN, gotSize, gotOk := impl.DecodeVarint(s, at); gotN != n || gotSize != size || gotOk != ok {
		t.Fatalf("DecodeVarint(%.200q, %d) = %d, %d, %v, want %d, %d, %v", s, at, gotN, gotSize, gotOk, n, size, ok)
	}
}

func wantUnpacked(t *testing.T, s string, at int, list []int, size int, ok bool) {
	t.Helper()
	if got, gotSize, gotOk := impl.UnpackInts(s, at); !slices.Equal(got, list) || gotSize != size || gotOk != ok {
		t.Fatalf("UnpackInts(%.200q, %d) = %v, %d, %v, want %v, %d, %v", s, at, got, gotSize, gotOk, list, size, ok)
	}
}

func wantUnpackedText(t *testing.T, s string, at int, text string, size int, ok bool) {
	t.Helper()
	if got, gotSize, gotOk := impl.UnpackText(s, at); got != text || gotSize != size || gotOk != ok {
		t.Fatalf("UnpackText(%.200q, %d) = %.200q, %d, %v, want %.200q, %d, %v", s, at, got, gotSize, gotOk, text, size, ok)
	}
}

func wantDecodedRules(t *testing.T, s string, want []impl.Rule, ok bool) {
	t.Helper()
	if got, gotOk := impl.DecodeRules(s); !slices.Equal(got, want) || gotOk != ok {
		t.Fatalf("DecodeRules(%.200q) = %v, %v, want %v, %v", s, got, gotOk, want, ok)
	}
}

// wantNoRules checks bytes that are those of no rules.
func wantNoRules(t *testing.T, s string) {
	t.Helper()
	wantDecodedRules(t, s, nil, false)
}

// wantNumber checks the bytes of a number, alone and with other bytes around them, and that fewer of them are no number.
func wantNumber(t *testing.T, n int, bytes string) {
	t.Helper()
	if got := impl.EncodeVarint(n); got != bytes {
		t.Fatalf("EncodeVarint(%d) = %q, want %q", n, got, bytes)
	}
	for _, other := range around() {
		wantDecoded(t, other[0]+bytes+other[1], len(other[0]), n, len(bytes), true)
		for size := range len(bytes) {
			wantDecoded(t, other[0]+bytes[:size], len(other[0]), 0, 0, false)
		}
	}
}

// wantEachRead compares what is read at each index of a string, and outside of it, with the test's own reading.
func wantEachRead(t *testing.T, s string) {
	t.Helper()
	for at := -2; at <= len(s)+2; at++ {
		n, size, ok := readNumber(s, at)
		wantDecoded(t, s, at, n, size, ok)
		list, size, ok := readNumbers(s, at)
		wantUnpacked(t, s, at, list, size, ok)
		text, size, ok := readText(s, at)
		wantUnpackedText(t, s, at, text, size, ok)
	}
	rules, ok := readEncodedRules(s)
	wantDecodedRules(t, s, rules, ok)
}

func TestPromise13Numbers(t *testing.T) {
	if impl.MaxVarint != mostNumber {
		t.Error("MaxVarint is", impl.MaxVarint)
	}
	for bytes, n := range map[string]int{
		"\x00": 0, "\x01": 1, "\x7e": 126, "\x7f": 127, "\x80\x01": 128, "\x81\x01": 129, "\xff\x01": 255, "\x80\x02": 256, "\xac\x02": 300, "\xfe\x7f": 16382, "\xff\x7f": 16383,
		"\x80\x80\x01": 16384, "\x81\x80\x01": 16385, "\x80\x81\x01": 16512, "\xff\xff\x7f": 2097151, "\x80\x80\x80\x01": 2097152, "\xff\xff\xff\x7f": 268435455, "\x80\x80\x80\x80\x01": 268435456,
		"\x80\x80\x80\x80\x10": 1 << 32, "\xff\xff\xff\xff\x7f": 34359738367, "\x80\x80\x80\x80\x80\x01": 34359738368, "\x80\x80\x80\x80\x80\x10": 549755813888, "\xfe\xff\xff\xff\xff\x1f": mostNumber - 1, "\xff\xff\xff\xff\xff\x1f": mostNumber,
	} {
		wantNumber(t, n, bytes)
	}
}

func TestPromise13NumbersWithRunes(t *testing.T) {
	// Bytes that are a rune of two, three or four bytes, or a part of one, before the last byte.
	for bytes, n := range map[string]int{
		"\xc2\x80\x01": 0x42 + 1<<14, "\xdf\xbf\x7f": 0x5f + 0x3f<<7 + 0x7f<<14, "\xe2\x82\xac\x05": 0x62 + 0x02<<7 + 0x2c<<14 + 5<<21, "\xef\xbf\xbd\x01": 0x6f + 0x3f<<7 + 0x3d<<14 + 1<<21,
		"\xf0\x9f\x98\x80\x01": 0x70 + 0x1f<<7 + 0x18<<14 + 1<<28, "\x80\xf0\x9f\x98\x80\x1f": 0x70<<7 + 0x1f<<14 + 0x18<<21 + 0x1f<<35, "\xc2\x80\xc2\x80\x01": 0x42 + 0x42<<14 + 1<<28, "\xe2\x82\x01": 0x62 + 2<<7 + 1<<14, "\xf0\x01": 0x70 + 1<<7,
	} {
		wantNumber(t, n, bytes)
		wantDecoded(t, bytes, len(bytes)-1, int(bytes[len(bytes)-1]), 1, true)
	}
	wantDecoded(t, "\xc2\x80\x01", 1, 128, 2, true)
	wantDecoded(t, "\xf0\x9f\x98\x80\x01", 3, 128, 2, true)
	// The last byte is cut off from a rune that goes on.
	wantDecoded(t, "\x80\x80\x80\x80\x80\xc2\x80\x01", 0, 0, 0, false)
	wantDecoded(t, "\x80\x80\x80\x80\x80\x01\xc2\x80", 0, 1<<35, 6, true)
}

func TestPromise13ManyNumbers(t *testing.T) {
	for k, n := range manyNumbers() {
		bytes := writeNumber(n)
		if got := impl.EncodeVarint(n); got != bytes {
			t.Fatalf("EncodeVarint(%d) = %q, want %q", n, got, bytes)
		}
		other := around()[k%len(around())]
		wantDecoded(t, bytes, 0, n, len(bytes), true)
		wantDecoded(t, other[0]+bytes+other[1], len(other[0]), n, len(bytes), true)
		wantDecoded(t, other[0]+bytes[:len(bytes)-1], len(other[0]), 0, 0, false)
		if signed := impl.Signed(n); impl.Signless(signed) != n || signed < leastSigned || signed > mostSigned || signed < 0 != (n%2 > 0) {
			t.Fatalf("Signed(%d) = %d, whose Signless is %d", n, signed, impl.Signless(signed))
		}
		for _, signed := range []int{n, -n} {
			signless := impl.Signless(signed)
			if signed < leastSigned || signed > mostSigned {
				if signless != -1 {
					t.Fatalf("Signless(%d) = %d", signed, signless)
				}
			} else if back := impl.Signed(signless); back != signed || signless < 0 || signless > mostNumber {
				t.Fatalf("Signless(%d) = %d, whose Signed is %d", signed, signless, back)
			}
		}
	}
}

func TestPromise13NumbersOutside(t *testing.T) {
	for _, n := range numbersOutside() {
		if got := impl.EncodeVarint(n); got != "" {
			t.Errorf("EncodeVarint(%d) = %q", n, got)
		}
		if got := impl.Signed(n); got != 0 {
			t.Errorf("Signed(%d) = %d", n, got)
		}
	}
	for _, n := range signedOutside() {
		if got := impl.Signless(n); got != -1 {
			t.Errorf("Signless(%d) = %d", n, got)
		}
		for _, list := range [][]int{{n}, {n, 0}, {0, n}, {1, n, -1}, {n, n}, {leastSigned, mostSigned, n}} {
			if got := impl.PackInts(list); got != "" {
				t.Errorf("PackInts(%v) = %q", list, got)
			}
		}
	}
}

func TestPromise13Indexes(t *testing.T) {
	for _, at := range []int{math.MinInt, math.MinInt + 1, -1 << 32, -5, -2, -1, 5, 6, 7, 1 << 32, math.MaxInt - 1, math.MaxInt} {
		for _, s := range []string{"\x00\x00\x00\x00\x00", "\x01\x01\x01\x01\x01", "\xac\x02\x01\x01\x01", "\x01\x80\x01\x80\x01", "\x02abc\x00"} {
			wantDecoded(t, s, at, 0, 0, false)
			wantUnpacked(t, s, at, nil, 0, false)
			wantUnpackedText(t, s, at, "", 0, false)
		}
		wantDecoded(t, "", at, 0, 0, false)
		wantUnpacked(t, "", at, nil, 0, false)
		wantUnpackedText(t, "", at, "", 0, false)
	}
	wantDecoded(t, "", 0, 0, 0, false)
	for at, n := range []int{300, 2, 5, 1, 0} {
		wantDecoded(t, "\xac\x02\x05\x01\x00", at, n, 1+n/300, true)
	}
	wantDecoded(t, "\x01\x01\x01\x01\x01", 4, 1, 1, true)
	// At the beginning, inside and at the end of lists and texts.
	wantUnpacked(t, "\x03\x01\x00\x02\x00", 0, []int{-1, 0, 1}, 4, true)
	wantUnpacked(t, "\x03\x01\x00\x02\x00", 1, []int{0}, 2, true)
	wantUnpacked(t, "\x03\x01\x00\x02\x00", 2, nil, 1, true)
	wantUnpacked(t, "\x03\x01\x00\x02\x00", 3, nil, 0, false)
	wantUnpacked(t, "\x03\x01\x00\x02\x00", 4, nil, 1, true)
	wantUnpackedText(t, "\x03\x01\x00\x02\x00", 0, "\x01\x00\x02", 4, true)
	wantUnpackedText(t, "\x03\x01\x00\x02\x00", 1, "\x00", 2, true)
	wantUnpackedText(t, "\x03\x01\x00\x02\x00", 2, "", 1, true)
	wantUnpackedText(t, "\x03\x01\x00\x02\x00", 3, "", 0, false)
	wantUnpackedText(t, "\x03\x01\x00\x02\x00", 4, "", 1, true)
}

func TestPromise13BadNumbers(t *testing.T) {
	for _, s := range badNumbers() {
		for _, other := range around() {
			// What follows could make a number of bytes that end too early.
			for _, bytes := range []string{other[0] + s, other[0] + s + other[1]} {
				n, size, ok := readNumber(bytes, len(other[0]))
				wantDecoded(t, bytes, len(other[0]), n, size, ok)
				if ok && bytes == other[0]+s {
					t.Fatalf("the bytes %.200q are a number", s)
				}
			}
		}
		wantDecoded(t, s, 0, 0, 0, false)
		wantUnpacked(t, s, 0, nil, 0, false)
		wantUnpackedText(t, s, 0, "", 0, false)
		wantNoRules(t, s)
		// As a number within a list, and of rules.
		wantUnpacked(t, "\x01"+s, 0, nil, 0, false)
		wantUnpacked(t, "\x03\x04"+s, 0, nil, 0, false)
		wantNoRules(t, "\x04\x00\x02\x00"+s)
	}
	// With a good number behind the bad one.
	wantUnpacked(t, "\x02\x80\x00\x01", 0, nil, 0, false)
	wantUnpacked(t, "\x02\x01\x80\x00\x01", 0, nil, 0, false)
	wantUnpacked(t, "\x80\x00\x01", 0, nil, 0, false)
	wantUnpacked(t, "\x81\x00\x01", 0, nil, 0, false)
	wantUnpackedText(t, "\x81\x00\x01", 0, "", 0, false)
	wantNoRules(t, "\x84\x00\x00\x02\x00\x02")
	wantNoRules(t, "\x04\x80\x00\x02\x00\x02")
	wantNoRules(t, "\x04\x00\x02\x00\x82\x00")
	wantNoRules(t, "\x04\x00\x02\x80\x00\x02")
}

func TestPromise13Signless(t *testing.T) {
	for n, signless := range map[int]int{
		0: 0, -1: 1, 1: 2, -2: 3, 2: 4, -3: 5, 3: 6, 63: 126, -64: 127, 64: 128, -65: 129, 8191: 16382, -8192: 16383, 8192: 16384, 1000000: 2000000, -1000000: 1999999, 1 << 31: 1 << 32, -1 << 31: 1<<32 - 1, 1 << 38: 1 << 39,
		mostSigned: 1099511627774, mostSigned - 1: 1099511627772, leastSigned: mostNumber, leastSigned + 1: 1099511627773,
	} {
		if got := impl.Signless(n); got != signless {
			t.Errorf("Signless(%d) = %d, want %d", n, got, signless)
		}
		if got := impl.Signed(signless); got != n {
			t.Errorf("Signed(%d) = %d, want %d", signless, got, n)
		}
	}
}

func TestPromise13Lists(t *testing.T) {
	for _, x := range []struct {
		list  []int
		bytes string
	}{
		{nil, "\x00"}, {[]int{}, "\x00"}, {[]int{0}, "\x01\x00"}, {[]int{-1}, "\x01\x01"}, {[]int{1}, "\x01\x02"}, {[]int{0, 0}, "\x02\x00\x00"}, {[]int{-1, 300}, "\x02\x01\xd8\x04"}, {[]int{63, -64, 64, -65}, "\x04\x7e\x7f\x80\x01\x81\x01"},
		{[]int{mostSigned}, "\x01\xfe\xff\xff\xff\xff\x1f"}, {[]int{leastSigned}, "\x01\xff\xff\xff\xff\xff\x1f"}, {[]int{leastSigned, 0, mostSigned, 5}, "\x04\xff\xff\xff\xff\xff\x1f\x00\xfe\xff\xff\xff\xff\x1f\x0a"},
		{make([]int, 127), "\x7f" + strings.Repeat("\x00", 127)}, {make([]int, 128), "\x80\x01" + strings.Repeat("\x00", 128)}, {make([]int, 16383), "\xff\x7f" + strings.Repeat("\x00", 16383)}, {make([]int, 16384), "\x80\x80\x01" + strings.Repeat("\x00", 16384)},
	} {
		if got := impl.PackInts(x.list); got != x.bytes {
			t.Fatalf("PackInts(%v) = %q, want %q", x.list, got, x.bytes)
		}
		for _, other := range around() {
			wantUnpacked(t, other[0]+x.bytes+other[1], len(other[0]), x.list, len(x.bytes), true)
			wantUnpacked(t, other[0]+x.bytes[:len(x.bytes)-1], len(other[0]), nil, 0, false)
		}
	}
}

func TestPromise13EachShortListOfNumbers(t *testing.T) {
	numbers := []int{0, 1, -1, 63, -64, 64, -65, 300, 8192, -8193, 1 << 20, -1 << 27, 1 << 35, mostSigned, leastSigned}
	for k, list := range listsUpTo(numbers, 4) {
		s, other := impl.PackInts(list), around()[k%len(around())]
		bytes := writeNumber(len(list))
		for _, n := range list {
			signless := 2 * n
			if n < 0 {
				signless = -signless - 1
			}
			bytes += writeNumber(signless)
		}
		if s != bytes {
			t.Fatalf("PackInts(%v) = %q, want %q", list, s, bytes)
		}
		wantUnpacked(t, other[0]+s+other[1], len(other[0]), list, len(s), true)
		wantUnpacked(t, other[0]+s[:len(s)*(k%7)/7], len(other[0]), nil, 0, false)
	}
	if s := impl.PackInts(manyNumbers()[:20000]); len(s) != 3+64+2*(8192-64)+3*(20000-8192) {
		t.Error("unexpected bytes", len(s))
	} else {
		wantUnpacked(t, "?"+s+"?", 1, manyNumbers()[:20000], len(s), true)
	}
}

func TestPromise13Texts(t *testing.T) {
	texts := []string{"", "x", "ab", "\x00", "\x80", "\x80\x01", "\xff\xff", "fun main\n", "\xe2\x82\xac", allBytes(), strings.Repeat("a", 126), strings.Repeat("\x80", 127), strings.Repeat("b", 128), strings.Repeat("c", 16383), strings.Repeat("\x00", 16384), strings.Repeat("d", 70000)}
	for _, text := range texts {
		s := impl.PackText(text)
		if want := writeNumber(len(text)) + text; s != want {
			t.Fatalf("PackText(%.200q) = %.200q, want %.200q", text, s, want)
		}
		for _, other := range around() {
			wantUnpackedText(t, other[0]+s+other[1], len(other[0]), text, len(s), true)
			for _, size := range []int{0, len(s) / 2, len(s) - 1} {
				wantUnpackedText(t, other[0]+s[:size], len(other[0]), "", 0, false)
			}
		}
	}
	for text, bytes := range map[string]string{"": "\x00", "x": "\x01x", "ab": "\x02ab", "\x80": "\x01\x80", strings.Repeat("z", 300): "\xac\x02" + strings.Repeat("z", 300)} {
		if got := impl.PackText(text); got != bytes {
			t.Errorf("PackText(%q) = %q, want %q", text, got, bytes)
		}
	}
}

func TestPromise13LengthsOfTooMuch(t *testing.T) {
	for _, length := range []string{"\x06", "\x07", "\x7f", "\x80\x01", "\xac\x02", "\xff\x7f", "\x80\x80\x80\x80\x10", "\x85\x80\x80\x80\x10", "\x80\x80\x80\x80\x80\x10", "\xff\xff\xff\xff\xff\x1f"} {
		for _, s := range []string{length + "\x00\x00\x00\x00\x00", length + "\x00", length} {
			wantUnpacked(t, s, 0, nil, 0, false)
			wantUnpacked(t, "\x00\x00"+s, 2, nil, 0, false)
			wantUnpackedText(t, s, 0, "", 0, false)
			wantUnpackedText(t, "\x00\x00"+s, 2, "", 0, false)
			wantNoRules(t, s)
		}
	}
	wantUnpacked(t, "\x05\x00\x00\x00\x00\x00", 0, make([]int, 5), 6, true)
	wantUnpackedText(t, "\x05\x00\x00\x00\x00\x00", 0, "\x00\x00\x00\x00\x00", 6, true)
	// There are enough bytes for the length, but not for numbers of several bytes.
	wantUnpacked(t, "\x03\x80\x01\x80\x01", 0, nil, 0, false)
	wantUnpacked(t, "\x03\x80\x01\x80\x01\x00", 0, []int{64, 64, 0}, 6, true)
}

func TestPromise13EachShortString(t *testing.T) {
	for _, list := range listsUpTo([]byte{0, 1, 2, 3, 31, 32, 127, 128, 129, 0xc2, 0xff}, 4) {
		wantEachRead(t, string(list))
	}
	// The end of the longest numbers.
	for _, list := range listsUpTo([]byte{0, 1, 31, 32, 128, 0x9f, 0xbf}, 4) {
		wantEachRead(t, "\xff\x80\x83\xf0"+string(list))
		wantEachRead(t, "\x02\xff\xff\xff\xff"+string(list))
	}
	for k := range 1 << 16 {
		s := string([]byte{byte(k), byte(k >> 8)})
		n, size, ok := readNumber(s, 0)
		wantDecoded(t, s, 0, n, size, ok)
		n, size, ok = readNumber(s+"\x05", 0)
		wantDecoded(t, s+"\x05", 0, n, size, ok)
	}
}

// wantRules checks the bytes of rules, and that neither fewer nor more of them are rules.
func wantRules(t *testing.T, list []impl.Rule, bytes string) {
	t.Helper()
	if got := impl.EncodeRules(list); got != bytes {
		t.Fatalf("EncodeRules(%v) = %q, want %q", list, got, bytes)
	}
	wantDecodedRules(t, bytes, list, true)
	wantNoRules(t, bytes[:len(bytes)-1])
	wantNoRules(t, bytes[1:])
	for _, other := range []string{"\x00", "\x01", "\x80", "x", bytes} {
		wantNoRules(t, bytes+other)
	}
	if len(bytes) > 1 {
		wantNoRules(t, "\x00"+bytes)
	}
}

func TestPromise13Rules(t *testing.T) {
	wantRules(t, nil, "\x00")
	wantRules(t, []impl.Rule{}, "\x00")
	wantRules(t, []impl.Rule{depthRule(0, 1, 0)}, "\x04\x00\x02\x00\x00")
	wantRules(t, []impl.Rule{frameRule(0, 1)}, "\x04\x00\x02\x02\x00")
	wantRules(t, []impl.Rule{depthRule(3, 10, 5)}, "\x04\x06\x0e\x00\x0a")
	wantRules(t, []impl.Rule{depthRule(0, 4, 0), frameRule(4, 9)}, "\x08\x00\x08\x00\x00\x00\x0a\x02\x00")
	wantRules(t, []impl.Rule{depthRule(64, 128, 64), frameRule(200, 201), depthRule(201, 202, 1200)}, "\x0c\x80\x01\x80\x01\x00\x80\x01\x90\x01\x02\x02\x00\x00\x02\x00\xe0\x12")
	wantRules(t, []impl.Rule{depthRule(0, 1000000, 1200)}, "\x04\x00\x80\x89\x7a\x00\xe0\x12")
	wantRules(t, []impl.Rule{frameRule(999999, 1000000)}, "\x04\xfe\x88\x7a\x02\x02\x00")
}

func TestPromise13ManyRules(t *testing.T) {
	var list []impl.Rule
	bytes := ""
	for k := range 20000 {
		if k%3 > 1 {
			list = append(list, frameRule(3*k, 3*k+2))
			bytes += "\x02\x04\x02\x00"
			continue
		}
		list = append(list, depthRule(3*k, 3*k+2, k%3))
		bytes += "\x02\x04\x00" + string([]byte{byte(k % 3 * 2)})
	}
	// The first one begins at 0, and there are 4 * 20000 numbers.
	wantRules(t, list, "\x80\xf1\x04\x00"+bytes[1:])
}

func TestPromise13InvalidRules(t *testing.T) {
	a, b := depthRule(0, 3, 1), frameRule(3, 6)
	for _, list := range [][]impl.Rule{
		{b, a}, {a, a}, {a, b, b}, {depthRule(0, 4, 1), b}, {depthRule(-1, 2, 0)}, {depthRule(5, 5, 0)}, {depthRule(6, 5, 0)}, {depthRule(0, 1000001, 0)}, {depthRule(0, 1, -1)}, {depthRule(0, 1, 1201)}, {{End: 1, Frame: true, Depth: 1}},
		{a, depthRule(math.MinInt, math.MaxInt, 0)}, {depthRule(0, math.MaxInt, 0)}, {depthRule(math.MaxInt-1, math.MaxInt, 0)}, {a, b, depthRule(9, 9, 0)}, {{}}, {a, {}},
	} {
		if got := impl.EncodeRules(list); got != "" {
			t.Errorf("EncodeRules(%v) = %q", list, got)
		}
	}
	wantNoRules(t, "")
	for _, numbers := range [][]int{
		{-1, 3, 0, 0}, {0, 0, 0, 0}, {0, -1, 0, 0}, {5, -2, 0, 0}, {0, 3, 0, -1}, {0, 3, 0, 1201}, {0, 3, 1, 1}, {0, 3, 1, -1}, {0, 1000001, 0, 0}, {1000000, 1, 0, 0}, {999999, 2, 0, 0}, {mostSigned, 1, 0, 0}, {0, mostSigned, 0, 0}, {mostSigned, leastSigned, 0, 0},
		{leastSigned, mostSigned, 0, 0}, {0, 3, 0, mostSigned}, {0, 3, 0, leastSigned}, {0, 3, 2, 0}, {0, 3, -1, 0}, {0, 3, 3, 0}, {0, 3, 256, 0}, {0, 3, 257, 0}, {0, 3, 1 << 32, 0}, {0, 3, 1<<32 + 1, 0}, {0, 3, -2, 0},
		{0, 3, 0, 1, -1, 3, 0, 0}, {0, 3, 0, 1, 0, 0, 0, 0}, {0, 3, 0, 1, 0, 3, 2, 0}, {2, 3, 0, 1, -5, 2, 0, 0}, {0, 3, 0, 1, 0, 3, 0, 1201}, {0, 3, 0, 1, 0, 999998, 0, 1},
		{0}, {0, 3}, {0, 3, 0}, {0, 3, 0, 1, 0}, {0, 3, 0, 1, 0, 3}, {0, 3, 0, 1, 0, 3, 1}, {1, 1, 1},
	} {
		wantNoRules(t, impl.PackInts(numbers))
		wantNoRules(t, impl.PackInts(numbers)+"\x00")
	}
	// Offsets that are too large, again and again.
	wantNoRules(t, impl.PackInts(slices.Repeat([]int{mostSigned, mostSigned, 0, 0}, 20000)))
	wantNoRules(t, impl.PackInts(append([]int{mostSigned, 1, 0, 0}, leastSigned, 1, 0, 0)))
}

func TestPromise13EachShortListOfRules(t *testing.T) {
	var rules []impl.Rule
	for _, span := range [][2]int{{-1, 1}, {0, 0}, {0, 1}, {0, 3}, {1, 2}, {1, 3}, {2, 3}, {2, 1}, {3, 130}, {4, 700}, {4, 1000001}} {
		for _, depth := range []int{-1, 0, 1, 64, 1200, 1201} {
			rules = append(rules, depthRule(span[0], span[1], depth), impl.Rule{Start: span[0], End: span[1], Frame: true, Depth: depth})
		}
	}
	seen := map[string]bool{"": true}
	for _, list := range append(listsUpTo(rules, 2), listsUpTo([]impl.Rule{depthRule(0, 1, 0), frameRule(0, 1), depthRule(1, 3, 1), frameRule(1, 2), depthRule(2, 3, 64), frameRule(7, 9), depthRule(9, 9, 0), depthRule(10, 11, 2)}, 4)...) {
		_, ok := readFound(list)
		s := impl.EncodeRules(list)
		if !ok {
			if s != "" {
				t.Fatalf("EncodeRules(%v) = %q", list, s)
			}
			continue
		}
		seen[s] = true
		wantDecodedRules(t, s, list, true)
		if want, ok := readEncodedRules(s); !ok || !slices.Equal(list, want) {
			t.Fatalf("EncodeRules(%v) = %q, which are the bytes of %v", list, s, want)
		}
		wantNoRules(t, s[:len(s)-1])
		wantNoRules(t, s+"\x00")
	}
	if len(seen) < 300 {
		t.Error("only", len(seen), "lists are valid")
	}
}

func TestPromise13EachShortStringOfRules(t *testing.T) {
	found := 0
	for _, list := range listsUpTo([]byte{0, 1, 2, 3, 4, 6, 128, 0x89}, 5) {
		for _, count := range []string{"\x04", "\x05", "\x08"} {
			s := count + string(list)
			rules, ok := readEncodedRules(s)
			wantDecodedRules(t, s, rules, ok)
			if ok {
				found++
			}
		}
	}
	for _, list := range listsUpTo([]byte{0, 1, 2, 4}, 4) {
		s := "\x08\x02\x02\x00\x04" + string(list)
		rules, ok := readEncodedRules(s)
		wantDecodedRules(t, s, rules, ok)
		if ok {
			found++
		}
	}
	if found < 100 {
		t.Error("only", found, "strings are rules")
	}
}

// wantRulesBack checks that the rules of both images of a program come back from their bytes, and returns their number.
func wantRulesBack(t *testing.T, p []impl.Line, b impl.Build) int {
	t.Helper()
	count := 0
	for image := range 2 {
		rules := impl.RulesOf(impl.PlacesOf(p, b, image))
		s := impl.EncodeRules(rules)
		wantDecodedRules(t, s, rules, true)
		if again, ok := readEncodedRules(s); !ok || !slices.Equal(again, rules) {
			t.Fatalf("the bytes %q of the rules %v are those of %v", s, rules, again)
		}
		wantNoRules(t, s+"\x00")
		wantNoRules(t, s[:len(s)-1])
		count += len(rules)
	}
	return count
}

func TestPromise13RulesOfPrograms(t *testing.T) {
	for _, text := range []string{"fun main;end", calledProduct, operandCalls, nestedCalls} {
		p := linesOf(t, text)
		for inline := range impl.MaxInline + 1 {
			for frames := range 1 << functionCount(p) {
				for k := range 4 {
					wantRulesBack(t, p, impl.Build{Frames: frames, Inline: inline, Fold: k%2 > 0, Split: k > 1})
				}
			}
		}
	}
	// space, const, store, const, load, mul, jump, const, store, load, out, const, return: the rules of chapter 12.
	places := impl.PlacesOf(linesOf(t, calledProduct), impl.Build{Split: true}, 1)
	wantRules(t, impl.RulesOf(places), "\x18\x00\x0e\x00\x00\x00\x06\x00\x02\x00\x02\x00\x04\x00\x06\x00\x02\x00\x0a\x00\x00\x00\x06\x00\x02")
	wantRules(t, impl.RulesOf(impl.PlacesOf(linesOf(t, calledProduct), impl.Build{Frames: 3}, 0)), "\x10\x00\x04\x00\x00\x00\x2a\x02\x00\x00\x04\x00\x00\x00\x24\x02\x00")
}

func TestPromise13RulesOfMadePrograms(t *testing.T) {
	builds, rules := fewBuilds(), 0
	for i, p := range allMadePrograms() {
		b := builds[i%len(builds)]
		b.Frames ^= i % 64
		b.Split = i/len(builds)%2 > 0
		rules += wantRulesBack(t, p, b)
	}
	if rules < 100000 {
		t.Error("only", rules, "rules are checked")
	}
}

func TestPromise13ArgumentsAreKept(t *testing.T) {
	list := []int{1, -2, 300, 9, 9}
	s := impl.PackInts(list[:3])
	if !slices.Equal(list, []int{1, -2, 300, 9, 9}) {
		t.Error("the list has changed", list)
	}
	first, _, _ := impl.UnpackInts(s, 0)
	for k := range first[:cap(first)] {
		first[:cap(first)][k] = -7
	}
	wantUnpacked(t, s, 0, list[:3], len(s), true)
	rules := []impl.Rule{depthRule(0, 3, 1), frameRule(3, 6), depthRule(7, 9, 2)}
	text := impl.EncodeRules(rules[:2])
	if !slices.Equal(rules, []impl.Rule{depthRule(0, 3, 1), frameRule(3, 6), depthRule(7, 9, 2)}) {
		t.Error("the rules have changed", rules)
	}
	again, _ := impl.DecodeRules(text)
	for k := range again[:cap(again)] {
		again[:cap(again)][k] = depthRule(-1, -1, -1)
	}
	wantDecodedRules(t, text, rules[:2], true)
}
