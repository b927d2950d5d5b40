package tests

import (
	"math"
	"slices"
	"strconv"
	"strings"
	"testing"

	"loop.example/g03314/impl"
)

// Promise 1: strings can be decoded from their hexadecimal text and numbers from their decimal
// text, within the limits; clamped values are in the range.

func allBytes() string {
	var b strings.Builder
	for i := range 256 {
		b.WriteByte(byte(i))
	}
	return b.String()
}

func TestPromise1TextLimits(t *testing.T) {
	if impl.MaxInputLen != 20000 || impl.MaxUint != 1000000000 || impl.MaxLineLen != 600 || impl.MaxFieldsPerLine != 24 {
		t.Error("a limit differs from the document's")
	}
}

func TestPromise1EncodeHex(t *testing.T) {
	for _, c := range []struct{ in, want string }{
		{"", ""},
		{"az", "617a"},
		{"\x00\x01\x0f\x10\x7f\x80\xff", "00010f107f80ff"},
		{"\xab\xcd\xef", "abcdef"},
		{"é", "c3a9"},
	} {
		if got, ok := impl.EncodeHex(c.in); got != c.want || !ok {
			t.Errorf("EncodeHex(%q) = %q, %v, want %q", c.in, got, ok, c.want)
		}
	}
}

func TestPromise1EncodeHexLimit(t *testing.T) {
	got, ok := impl.EncodeHex(strings.Repeat("k", impl.MaxInputLen))
	if !ok || got != strings.Repeat("6b", impl.MaxInputLen) {
		t.Errorf("at the limit: %d digits, %v", len(got), ok)
	}
	if got, ok := impl.EncodeHex(strings.Repeat("k", impl.MaxInputLen+1)); got != "" || ok {
		t.Errorf("past the limit: %d digits, %v", len(got), ok)
	}
}

func TestPromise1DecodeHex(t *testing.T) {
	for _, c := range []struct{ in, want string }{
		{"", ""},
		{"617a", "az"},
		{"00010f107f80ff", "\x00\x01\x0f\x10\x7f\x80\xff"},
		{"abcdef", "\xab\xcd\xef"},
		{"1032547698", "\x10\x32\x54\x76\x98"},
	} {
		if got, ok := impl.DecodeHex(c.in); got != c.want || !ok {
			t.Errorf("DecodeHex(%q) = %q, %v, want %q", c.in, got, ok, c.want)
		}
	}
}

func TestPromise1DecodeHexInvalid(t *testing.T) {
	for _, in := range []string{
		"6", "617", "61 7", " 617a", "617a ", "617a\n", "617A", "AF", "6g", "g6", "`0", "0`",
		"/0", "0/", ":0", "0:", "@0", "0@", "0x61", "-1", "+1", "é", "\x00\x00", "\xff\xff", "617a6z",
	} {
		if got, ok := impl.DecodeHex(in); got != "" || ok {
			t.Errorf("DecodeHex(%q) = %q, %v, want none", in, got, ok)
		}
	}
}

func TestPromise1DecodeHexEveryCharacter(t *testing.T) {
	for i := range 256 {
		digit := string([]byte{byte(i)})
		valid := strings.Contains("0123456789abcdef", digit)
		if _, ok := impl.DecodeHex("0" + digit); ok != valid {
			t.Errorf("low digit %q: %v", digit, ok)
		}
		if _, ok := impl.DecodeHex(digit + "0"); ok != valid {
			t.Errorf("high digit %q: %v", digit, ok)
		}
	}
}

func TestPromise1DecodeHexLimit(t *testing.T) {
	got, ok := impl.DecodeHex(strings.Repeat("6b", impl.MaxInputLen))
	if !ok || got != strings.Repeat("k", impl.MaxInputLen) {
		t.Errorf("at the limit: %d bytes, %v", len(got), ok)
	}
	for _, in := range []string{strings.Repeat("6b", impl.MaxInputLen+1), strings.Repeat("6b", impl.MaxInputLen) + "6"} {
		if got, ok := impl.DecodeHex(in); got != "" || ok {
			t.Errorf("%d digits: %d bytes, %v", len(in), len(got), ok)
		}
	}
}

func TestPromise1HexRoundTrip(t *testing.T) {
	every := allBytes()
	for _, s := range []string{"", "a", every, strings.Repeat(every, 78), "\x00", "0", "617a"} {
		h, ok := impl.EncodeHex(s)
		if !ok || len(h) != 2*len(s) {
			t.Fatalf("EncodeHex of %d bytes: %d digits, %v", len(s), len(h), ok)
		}
		if back, ok := impl.DecodeHex(h); back != s || !ok {
			t.Errorf("%d bytes do not come back", len(s))
		}
	}
	for i := range 65536 {
		s := string([]byte{byte(i >> 8), byte(i)})
		h, _ := impl.EncodeHex(s)
		if back, ok := impl.DecodeHex(h); back != s || !ok {
			t.Fatalf("%q: %q, %q, %v", s, h, back, ok)
		}
	}
}

func TestPromise1FormatInt(t *testing.T) {
	for _, c := range []struct {
		n    int
		want string
	}{
		{0, "0"},
		{1, "1"},
		{-1, "-1"},
		{9, "9"},
		{10, "10"},
		{-30, "-30"},
		{120, "120"},
		{1000000000, "1000000000"},
		{math.MaxInt, "9223372036854775807"},
		{math.MinInt, "-9223372036854775808"},
		{math.MinInt + 1, "-9223372036854775807"},
	} {
		if got := impl.FormatInt(c.n); got != c.want {
			t.Errorf("FormatInt(%s) = %q", c.want, got)
		}
	}
}

func TestPromise1ParseUint(t *testing.T) {
	for _, c := range []struct {
		in   string
		want int
	}{
		{"0", 0}, {"1", 1}, {"9", 9}, {"10", 10}, {"120", 120}, {"101", 101},
		{"999999999", impl.MaxUint - 1}, {"1000000000", impl.MaxUint},
	} {
		if got, ok := impl.ParseUint(c.in); got != c.want || !ok {
			t.Errorf("ParseUint(%q) = %d, %v", c.in, got, ok)
		}
	}
}

func TestPromise1ParseUintInvalid(t *testing.T) {
	for _, in := range []string{
		"", "01", "00", "000", "010", "01000000000", "0000000001",
		"1000000001", "9999999999", "10000000000", "9223372036854775807", "9223372036854775808",
		"18446744073709551616", "18446744073709551617", "4294967297", strings.Repeat("1", 700), strings.Repeat("0", 700),
		"-1", "-0", "+1", "+0", "-", "+", " 1", "1 ", " ", "1\n", "\x001", "1\x00", "1_0", "1,0", "1.0", "1e3",
		"0x1", "0b1", "0o1", "a", "1a", "a1", "/", ":", "１", "\xff",
	} {
		if got, ok := impl.ParseUint(in); got != 0 || ok {
			t.Errorf("ParseUint(%q) = %d, %v, want none", in, got, ok)
		}
	}
}

func TestPromise1UintRoundTrip(t *testing.T) {
	check := func(n int) {
		s := impl.FormatInt(n)
		if s != strconv.Itoa(n) {
			t.Fatalf("FormatInt(%d) = %q", n, s)
		}
		if back, ok := impl.ParseUint(s); back != n || !ok {
			t.Fatalf("ParseUint(%q) = %d, %v", s, back, ok)
		}
		if back, ok := impl.ParseUint("0" + s); back != 0 || ok {
			t.Fatalf("ParseUint(%q) = %d, %v", "0"+s, back, ok)
		}
	}
	for n := range 20000 {
		check(n)
		check(impl.MaxUint - n)
	}
	for n := 1; n <= impl.MaxUint; n = n*3 + 1 {
		check(n)
	}
}

func TestPromise1UintRoundTripOutside(t *testing.T) {
	for _, n := range []int{-1, -9, math.MinInt, impl.MaxUint + 1, math.MaxInt} {
		if back, ok := impl.ParseUint(impl.FormatInt(n)); back != 0 || ok {
			t.Errorf("ParseUint of %d = %d, %v", n, back, ok)
		}
	}
}

func TestPromise1SplitFields(t *testing.T) {
	for _, c := range []struct {
		line string
		want []string
	}{
		{"", nil},
		{" ", nil},
		{"     ", nil},
		{"a", []string{"a"}},
		{" a", []string{"a"}},
		{"a ", []string{"a"}},
		{"a b", []string{"a", "b"}},
		{"  send 12  x ", []string{"send", "12", "x"}},
		{"set x + 1 2", []string{"set", "x", "+", "1", "2"}},
		{"a!~ ~ !", []string{"a!~", "~", "!"}},
		{"x x x", []string{"x", "x", "x"}},
		{strings.Repeat(" ", impl.MaxLineLen), nil},
	} {
		got, ok := impl.SplitFields(c.line)
		if !ok || !slices.Equal(got, c.want) {
			t.Errorf("SplitFields(%q) = %q, %v", c.line, got, ok)
		}
	}
}

func TestPromise1SplitFieldsEveryByte(t *testing.T) {
	for i := range 256 {
		b := string([]byte{byte(i)})
		for _, line := range []string{b, "ab " + b, b + " ab", "a" + b + "b"} {
			got, ok := impl.SplitFields(line)
			if valid := i >= 32 && i <= 126; ok != valid {
				t.Errorf("SplitFields(%q) = %q, %v", line, got, ok)
			}
			if !ok && got != nil {
				t.Errorf("SplitFields(%q) = %q with false", line, got)
			}
			if ok && !slices.Equal(got, strings.Fields(line)) {
				t.Errorf("SplitFields(%q) = %q", line, got)
			}
		}
	}
}

func TestPromise1SplitFieldsLength(t *testing.T) {
	long := strings.Repeat("y", impl.MaxLineLen)
	if got, ok := impl.SplitFields(long); !ok || !slices.Equal(got, []string{long}) {
		t.Errorf("at the limit: %d fields, %v", len(got), ok)
	}
	for _, line := range []string{long + "y", long + " ", " " + long, strings.Repeat(" ", impl.MaxLineLen+1)} {
		if got, ok := impl.SplitFields(line); got != nil || ok {
			t.Errorf("past the limit: %d fields, %v", len(got), ok)
		}
	}
}

func TestPromise1SplitFieldsCount(t *testing.T) {
	want := slices.Repeat([]string{"q"}, impl.MaxFieldsPerLine)
	for _, line := range []string{strings.Join(want, " "), "  " + strings.Join(want, "   ") + "  "} {
		if got, ok := impl.SplitFields(line); !ok || !slices.Equal(got, want) {
			t.Errorf("SplitFields(%q) = %q, %v", line, got, ok)
		}
		for _, more := range []string{line + " q", "q " + line, line + " q "} {
			if got, ok := impl.SplitFields(more); got != nil || ok {
				t.Errorf("SplitFields(%q) = %q, %v", more, got, ok)
			}
		}
	}
}

func TestPromise1SplitFieldsNewMemory(t *testing.T) {
	first, _ := impl.SplitFields("a b c")
	second, _ := impl.SplitFields("a b c")
	for i := range first {
		first[i] = "changed"
	}
	if !slices.Equal(second, []string{"a", "b", "c"}) {
		t.Errorf("two results share memory: %q", second)
	}
}

func TestPromise1Clamp(t *testing.T) {
	for _, c := range []struct{ n, low, high, want int }{
		{3, 1, 5, 3},
		{1, 1, 5, 1},
		{5, 1, 5, 5},
		{0, 1, 5, 1},
		{6, 1, 5, 5},
		{9, 1, 5, 5},
		{-9, 1, 5, 1},
		{-7, -8, -6, -7},
		{-9, -8, -6, -8},
		{0, -8, -6, -6},
		{7, 4, 4, 4},
		{1, 4, 4, 4},
		{math.MaxInt, math.MinInt, math.MaxInt, math.MaxInt},
		{math.MinInt, math.MinInt, math.MaxInt, math.MinInt},
		{math.MinInt, 0, math.MaxInt, 0},
		{math.MaxInt, math.MinInt, 0, 0},
	} {
		if got := impl.Clamp(c.n, c.low, c.high); got != c.want {
			t.Errorf("Clamp(%d, %d, %d) = %d, want %d", c.n, c.low, c.high, got, c.want)
		}
	}
}

func TestPromise1ClampEmptyRange(t *testing.T) {
	for _, n := range []int{math.MinInt, -1, 0, 1, 2, 3, 4, 5, 6, 9, math.MaxInt} {
		if got := impl.Clamp(n, 5, 1); got != 5 {
			t.Errorf("Clamp(%d, 5, 1) = %d", n, got)
		}
		if got := impl.Clamp(n, math.MaxInt, math.MinInt); got != math.MaxInt {
			t.Errorf("Clamp(%d, MaxInt, MinInt) = %d", n, got)
		}
	}
}

func TestPromise1ClampInRange(t *testing.T) {
	for n := -6; n <= 6; n++ {
		for low := -4; low <= 4; low++ {
			for high := low; high <= 4; high++ {
				got := impl.Clamp(n, low, high)
				if got < low || got > high || (n >= low && n <= high && got != n) {
					t.Errorf("Clamp(%d, %d, %d) = %d", n, low, high, got)
				}
			}
		}
	}
}
