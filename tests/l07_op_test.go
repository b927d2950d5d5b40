package tests

import (
	"encoding/binary"
	"math"
	"slices"
	"strings"
	"testing"

	"loop.example/g03314/impl"
)

// Promise 7: instructions can be decoded from their bytes.

// opForm is what the document tells about the arguments of some codes.
type opForm struct {
	codes []int
	size  int
	low   int
	high  int
}

var opForms = []opForm{
	{[]int{impl.OpConst}, 4, math.MinInt32, math.MaxInt32},
	{[]int{impl.OpLoadFrame, impl.OpStoreFrame, impl.OpLoadStack, impl.OpStoreStack, impl.OpJump, impl.OpZero}, 2, math.MinInt16, math.MaxInt16},
	{[]int{impl.OpReturn}, 2, 0, math.MaxUint16},
	{[]int{impl.OpCall, impl.OpEnter, impl.OpLeave, impl.OpSpace}, 1, 0, math.MaxUint8},
	{[]int{impl.OpAdd, impl.OpSub, impl.OpMul, impl.OpLess, impl.OpSame, impl.OpOut}, 0, 0, 0},
}

// readForm is false for a number that is no code.
func readForm(code int) (opForm, bool) {
	for _, f := range opForms {
		if slices.Contains(f.codes, code) {
			return f, true
		}
	}
	return opForm{}, false
}

// readBytes encodes in a second way, with the number types of the sizes; it is "" for an instruction that cannot be stored.
func readBytes(x impl.Op) string {
	f, ok := readForm(x.Code)
	if !ok || x.Arg < f.low || x.Arg > f.high {
		return ""
	}
	b := []byte{byte(x.Code)}
	switch f.size {
	case 1:
		b = append(b, uint8(x.Arg))
	case 2:
		b = binary.LittleEndian.AppendUint16(b, uint16(x.Arg))
	case 4:
		b = binary.LittleEndian.AppendUint32(b, uint32(x.Arg))
	}
	return string(b)
}

// readOp decodes in a second way.
func readOp(s string, at int) (impl.Op, int, bool) {
	if at < 0 || at >= len(s) {
		return impl.Op{}, 0, false
	}
	f, ok := readForm(int(s[at]))
	rest := []byte(s[at+1:])
	if !ok || len(rest) < f.size {
		return impl.Op{}, 0, false
	}
	arg := 0
	switch {
	case f.size == 4:
		arg = int(int32(binary.LittleEndian.Uint32(rest)))
	case f.size == 2 && f.low < 0:
		arg = int(int16(binary.LittleEndian.Uint16(rest)))
	case f.size == 2:
		arg = int(binary.LittleEndian.Uint16(rest))
	case f.size == 1:
		arg = int(rest[0])
	}
	return impl.Op{Code: int(s[at]), Arg: arg}, 1 + f.size, true
}

func wantOp(t *testing.T, s string, at int, want impl.Op, size int) {
	t.Helper()
	if x, n, ok := impl.DecodeOp(s, at); x != want || n != size || !ok {
		t.Fatalf("DecodeOp(%q, %d) = %v, %d, %v, want %v, %d", s, at, x, n, ok, want, size)
	}
}

func wantNoOp(t *testing.T, s string, at int) {
	t.Helper()
	if x, n, ok := impl.DecodeOp(s, at); x != (impl.Op{}) || n != 0 || ok {
		t.Fatalf("DecodeOp(%q, %d) = %v, %d, %v, want none", s, at, x, n, ok)
	}
}

// wantStored checks an instruction wherever its bytes stand: alone, behind other bytes, and in front of others.
func wantStored(t *testing.T, x impl.Op, s string) {
	t.Helper()
	if !impl.OpOk(x) || impl.EncodeOp(x) != s || impl.OpSize(x.Code) != len(s) {
		t.Fatalf("OpOk(%v) = %v, EncodeOp = %q, OpSize = %d, want %q", x, impl.OpOk(x), impl.EncodeOp(x), impl.OpSize(x.Code), s)
	}
	for _, before := range []string{"", "?", "\x00", "\xff\xff\xff\xff\xff\xff\xff\xff", s} {
		for _, behind := range []string{"", "?", "\x00", "\xff\xff\xff\xff\xff\xff\xff\xff", s} {
			wantOp(t, before+s+behind, len(before), x, len(s))
		}
	}
	if list, ok := impl.Disassemble(s); !ok || !slices.Equal(list, []impl.Op{x}) {
		t.Fatalf("Disassemble(%q) = %v, %v, want %v", s, list, ok, x)
	}
}

func wantNotStored(t *testing.T, x impl.Op) {
	t.Helper()
	if impl.OpOk(x) || impl.EncodeOp(x) != "" {
		t.Fatalf("OpOk(%v) = %v, EncodeOp = %q, want false", x, impl.OpOk(x), impl.EncodeOp(x))
	}
}

func wantOps(t *testing.T, s string, want []impl.Op) {
	t.Helper()
	if list, ok := impl.Disassemble(s); !ok || !slices.Equal(list, want) {
		t.Fatalf("Disassemble(%q) = %v, %v, want %v", s, list, ok, want)
	}
}

func wantNoOps(t *testing.T, s string) {
	t.Helper()
	if list, ok := impl.Disassemble(s); len(list) != 0 || ok {
		t.Fatalf("Disassemble(%q) = %v, %v, want none", s, list, ok)
	}
}

func notCodes() []int {
	return []int{-1, -2, -18, -256, -255, -239, 18, 19, 100, 127, 128, 255, 256, 257, 261, 272, 273, 1 << 32, 1<<32 + 5, math.MinInt, math.MinInt + 5, math.MaxInt}
}

func TestPromise7Codes(t *testing.T) {
	codes := []int{
		impl.OpConst, impl.OpLoadFrame, impl.OpStoreFrame, impl.OpLoadStack, impl.OpStoreStack, impl.OpAdd, impl.OpSub, impl.OpMul, impl.OpLess,
		impl.OpSame, impl.OpJump, impl.OpZero, impl.OpCall, impl.OpEnter, impl.OpLeave, impl.OpSpace, impl.OpReturn, impl.OpOut,
	}
	count := 0
	for want, code := range codes {
		if code != want {
			t.Errorf("a code is %d, want %d", code, want)
		}
	}
	for _, f := range opForms {
		count += len(f.codes)
	}
	if len(codes) != 18 || count != 18 {
		t.Error("the test's list of forms lacks a code", len(codes), count)
	}
}

func TestPromise7Sizes(t *testing.T) {
	for code, want := range []int{5, 3, 3, 3, 3, 1, 1, 1, 1, 1, 3, 3, 2, 2, 2, 2, 3, 1} {
		if got := impl.OpSize(code); got != want {
			t.Errorf("OpSize(%d) = %d, want %d", code, got, want)
		}
	}
	for _, code := range notCodes() {
		if got := impl.OpSize(code); got != 0 {
			t.Errorf("OpSize(%d) = %d, want 0", code, got)
		}
	}
}

func TestPromise7Bytes(t *testing.T) {
	for _, c := range []struct {
		code, arg int
		want      string
	}{
		{impl.OpConst, 0, "\x00\x00\x00\x00\x00"}, {impl.OpConst, 1, "\x00\x01\x00\x00\x00"}, {impl.OpConst, 0x12345678, "\x00\x78\x56\x34\x12"},
		{impl.OpConst, -1, "\x00\xff\xff\xff\xff"}, {impl.OpConst, -2, "\x00\xfe\xff\xff\xff"}, {impl.OpConst, 255, "\x00\xff\x00\x00\x00"},
		{impl.OpConst, 128, "\x00\x80\x00\x00\x00"}, {impl.OpConst, 32768, "\x00\x00\x80\x00\x00"}, {impl.OpConst, 999, "\x00\xe7\x03\x00\x00"},
		{impl.OpConst, 2147483647, "\x00\xff\xff\xff\x7f"}, {impl.OpConst, -2147483648, "\x00\x00\x00\x00\x80"},
		{impl.OpLoadFrame, -2, "\x01\xfe\xff"}, {impl.OpLoadFrame, 258, "\x01\x02\x01"}, {impl.OpStoreFrame, 0, "\x02\x00\x00"}, {impl.OpStoreFrame, -256, "\x02\x00\xff"},
		{impl.OpLoadStack, 32767, "\x03\xff\x7f"}, {impl.OpLoadStack, -32768, "\x03\x00\x80"}, {impl.OpStoreStack, 128, "\x04\x80\x00"}, {impl.OpStoreStack, -128, "\x04\x80\xff"},
		{impl.OpAdd, 0, "\x05"}, {impl.OpSub, 0, "\x06"}, {impl.OpMul, 0, "\x07"}, {impl.OpLess, 0, "\x08"}, {impl.OpSame, 0, "\x09"}, {impl.OpOut, 0, "\x11"},
		{impl.OpJump, -1, "\x0a\xff\xff"}, {impl.OpJump, 300, "\x0a\x2c\x01"}, {impl.OpZero, 7, "\x0b\x07\x00"}, {impl.OpZero, -300, "\x0b\xd4\xfe"},
		{impl.OpCall, 0, "\x0c\x00"}, {impl.OpCall, 255, "\x0c\xff"}, {impl.OpEnter, 127, "\x0d\x7f"}, {impl.OpEnter, 128, "\x0d\x80"},
		{impl.OpLeave, 4, "\x0e\x04"}, {impl.OpLeave, 254, "\x0e\xfe"}, {impl.OpSpace, 1, "\x0f\x01"}, {impl.OpSpace, 200, "\x0f\xc8"},
		{impl.OpReturn, 258, "\x10\x02\x01"}, {impl.OpReturn, 65535, "\x10\xff\xff"}, {impl.OpReturn, 32768, "\x10\x00\x80"}, {impl.OpReturn, 128, "\x10\x80\x00"}, {impl.OpReturn, 0, "\x10\x00\x00"},
	} {
		x := impl.Op{Code: c.code, Arg: c.arg}
		wantStored(t, x, c.want)
		if got := readBytes(x); got != c.want {
			t.Errorf("the test's own encoding of %v is %q, want %q", x, got, c.want)
		}
	}
}

func TestPromise7Limits(t *testing.T) {
	for _, f := range opForms {
		for _, code := range f.codes {
			for _, arg := range []int{f.low, f.high} {
				x := impl.Op{Code: code, Arg: arg}
				wantStored(t, x, readBytes(x))
			}
			// Numbers whose low bytes are those of numbers that can be stored cannot be stored themselves.
			out := []int{f.low - 1, f.high + 1, f.high + 1<<8, f.high + 1<<16, f.low - 1<<16, 1<<32 + f.high, f.low - 1<<32, 1 << 32, 1<<40 + 1, 1 << 62, math.MaxInt, math.MinInt, math.MinInt + 1}
			for _, arg := range out {
				wantNotStored(t, impl.Op{Code: code, Arg: arg})
			}
		}
	}
}

func TestPromise7NoArgument(t *testing.T) {
	for _, code := range []int{impl.OpAdd, impl.OpSub, impl.OpMul, impl.OpLess, impl.OpSame, impl.OpOut} {
		for _, arg := range []int{-1, 1, 2, 128, 255, 256, -256, 1 << 16, 1 << 32, math.MinInt, math.MaxInt} {
			wantNotStored(t, impl.Op{Code: code, Arg: arg})
		}
		wantStored(t, impl.Op{Code: code}, string(rune(code)))
	}
}

func TestPromise7NoCode(t *testing.T) {
	for _, code := range notCodes() {
		for _, arg := range []int{0, 1, -1, 300} {
			wantNotStored(t, impl.Op{Code: code, Arg: arg})
		}
	}
	for code := impl.OpOut + 1; code < 256; code++ {
		first := string([]byte{byte(code)})
		wantNoOp(t, first, 0)
		wantNoOp(t, first+"\x00\x00\x00\x00\x00\x00\x00\x00", 0)
		wantNoOp(t, "\x05"+first+"\x05", 1)
		wantNoOps(t, first)
		wantNoOps(t, first+"\x00\x00\x00\x00\x00")
		wantNoOps(t, "\x05"+first)
		wantNoOps(t, "\x05"+first+"\x05")
	}
}

func TestPromise7EachArgument(t *testing.T) {
	// Each number near the ranges of one and of two bytes, and numbers near each power of 2.
	args := []int{math.MinInt, math.MaxInt}
	for arg := -70000; arg <= 70000; arg++ {
		args = append(args, arg)
	}
	for shift := range 63 {
		for near := -2; near <= 2; near++ {
			args = append(args, 1<<shift+near, -(1<<shift)+near)
		}
	}
	for code := impl.OpConst - 1; code <= impl.OpOut+1; code++ {
		for _, arg := range args {
			x := impl.Op{Code: code, Arg: arg}
			want := readBytes(x)
			if impl.OpOk(x) != (want != "") || impl.EncodeOp(x) != want {
				t.Fatalf("OpOk(%v) = %v, EncodeOp = %q, want %q", x, impl.OpOk(x), impl.EncodeOp(x), want)
			}
			if want != "" {
				wantOp(t, want, 0, x, len(want))
			}
		}
	}
}

func TestPromise7EachTwoBytes(t *testing.T) {
	// All codes with all bytes of an argument of two; an argument of four has the same two bytes twice.
	for code := range 256 {
		for arg := range 1 << 16 {
			low, high := byte(arg), byte(arg>>8)
			s := string([]byte{byte(code), low, high, low, high})
			x, size, ok := impl.DecodeOp(s, 0)
			wantX, wantSize, wantOk := readOp(s, 0)
			if x != wantX || size != wantSize || ok != wantOk {
				t.Fatalf("DecodeOp(%q, 0) = %v, %d, %v, want %v, %d, %v", s, x, size, ok, wantX, wantSize, wantOk)
			}
			if ok && impl.EncodeOp(x) != s[:size] {
				t.Fatalf("EncodeOp(%v) = %q, want %q", x, impl.EncodeOp(x), s[:size])
			}
		}
	}
}

func TestPromise7Indexes(t *testing.T) {
	s := "\x00\x01\x02\x03\x04\x10\x11\x05"
	wantOp(t, s, 0, impl.Op{Code: impl.OpConst, Arg: 0x04030201}, 5)
	wantOp(t, s, 1, impl.Op{Code: impl.OpLoadFrame, Arg: 0x0302}, 3)
	wantOp(t, s, 2, impl.Op{Code: impl.OpStoreFrame, Arg: 0x0403}, 3)
	wantOp(t, s, 4, impl.Op{Code: impl.OpStoreStack, Arg: 0x1110}, 3)
	wantOp(t, s, 5, impl.Op{Code: impl.OpReturn, Arg: 0x0511}, 3)
	wantOp(t, s, 6, impl.Op{Code: impl.OpOut}, 1)
	wantOp(t, s, 7, impl.Op{Code: impl.OpAdd}, 1)
	for _, at := range []int{-1, -2, -7, -8, -9, 8, 9, 16, 1 << 32, math.MaxInt, math.MaxInt - 1, math.MinInt, math.MinInt + 7} {
		wantNoOp(t, s, at)
	}
	for _, at := range []int{-1, 0, 1, math.MinInt, math.MaxInt} {
		wantNoOp(t, "", at)
	}
}

func TestPromise7CutOff(t *testing.T) {
	for _, f := range opForms {
		for _, code := range f.codes {
			s := string(rune(code)) + "\x05\x05\x05\x05"[:f.size]
			for end := 1; end < len(s); end++ {
				wantNoOp(t, s[:end], 0)
				wantNoOp(t, "\x05"+s[:end], 1)
				wantNoOps(t, s[:end])
				wantNoOps(t, "\x05"+s[:end])
				wantNoOps(t, s+s[:end])
			}
			wantOps(t, "\x05"+s+"\x06", []impl.Op{{Code: impl.OpAdd}, {Code: code, Arg: 0x05050505 & (1<<(8*f.size) - 1)}, {Code: impl.OpSub}})
		}
	}
}

func TestPromise7EachShortString(t *testing.T) {
	// Strings of up to five bytes, read from each index, and as a whole.
	for _, list := range listsUpTo([]byte{0, 1, 5, 12, 16, 17, 18, 0x80, 0xff}, 5) {
		s := string(list)
		for at := -1; at <= len(s)+1; at++ {
			x, size, ok := impl.DecodeOp(s, at)
			wantX, wantSize, wantOk := readOp(s, at)
			if x != wantX || size != wantSize || ok != wantOk {
				t.Fatalf("DecodeOp(%q, %d) = %v, %d, %v, want %v, %d, %v", s, at, x, size, ok, wantX, wantSize, wantOk)
			}
		}
		var want []impl.Op
		at := 0
		for at < len(s) {
			x, size, ok := readOp(s, at)
			if !ok {
				break
			}
			want, at = append(want, x), at+size
		}
		if at < len(s) {
			wantNoOps(t, s)
		} else {
			wantOps(t, s, want)
		}
	}
}

// storedOps has two instructions of each form, with its smallest and its greatest argument.
func storedOps() []impl.Op {
	var ops []impl.Op
	for _, f := range opForms {
		ops = append(ops, impl.Op{Code: f.codes[0], Arg: f.low}, impl.Op{Code: f.codes[len(f.codes)-1], Arg: f.high})
	}
	return ops
}

func TestPromise7Disassemble(t *testing.T) {
	wantOps(t, "", nil)
	wantOps(t, "\x11", []impl.Op{{Code: impl.OpOut}})
	wantOps(t, "\x05\x05", []impl.Op{{Code: impl.OpAdd}, {Code: impl.OpAdd}})
	wantOps(t, "\x00\x07\x00\x00\x00\x11\x10\x21\x00", []impl.Op{{Code: impl.OpConst, Arg: 7}, {Code: impl.OpOut}, {Code: impl.OpReturn, Arg: 33}})
	wantOps(t, "\x0d\x02\x0a\xfd\xff\x0e\x12", []impl.Op{{Code: impl.OpEnter, Arg: 2}, {Code: impl.OpJump, Arg: -3}, {Code: impl.OpLeave, Arg: 18}})
	wantNoOps(t, "\x11\x00\x07\x00\x00")
	wantNoOps(t, "\x11\x12\x11")
	wantNoOps(t, "\x0c\x12\x12")
}

func TestPromise7DisassembleRoundTrip(t *testing.T) {
	// Each list of up to three instructions comes back from its bytes, and the bytes up to each place are instructions only if one ends there.
	for _, list := range listsUpTo(storedOps(), 3) {
		s := ""
		ends := map[int]int{0: 0}
		for i, x := range list {
			s += impl.EncodeOp(x)
			ends[len(s)] = i + 1
		}
		for end := 0; end <= len(s); end++ {
			if count, ok := ends[end]; ok {
				wantOps(t, s[:end], list[:count])
				wantNoOps(t, s[:end]+"\x12"+s[end:])
			} else {
				wantNoOps(t, s[:end])
			}
		}
	}
}

func TestPromise7DisassembleLong(t *testing.T) {
	var want []impl.Op
	s := ""
	for _, x := range storedOps() {
		want, s = append(want, x), s+readBytes(x)
	}
	wantOps(t, strings.Repeat(s, 2000), slices.Repeat(want, 2000))
	wantNoOps(t, strings.Repeat(s, 2000)+"\x00")
	wantNoOps(t, "\x12"+strings.Repeat(s, 2000))
}

func TestPromise7NewMemory(t *testing.T) {
	s := "\x0c\x01\x11"
	first, _ := impl.Disassemble(s)
	for i := range first[:cap(first)] {
		first[:cap(first)][i] = impl.Op{Code: -1}
	}
	wantOps(t, s, []impl.Op{{Code: impl.OpCall, Arg: 1}, {Code: impl.OpOut}})
}
