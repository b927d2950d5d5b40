package tests

import (
	"math"
	"slices"
	"strings"
	"testing"

	"loop.example/g03314/impl"
)

// Promise 2: expressions can be parsed from their words, and numbers are wrapped.

var (
	oneTok  = impl.Tok{Kind: impl.TokNumber, Num: 1}
	addTok  = impl.Tok{Kind: impl.TokAdd}
	lessTok = impl.Tok{Kind: impl.TokLess}
	varTok  = impl.Tok{Kind: impl.TokVariable, Name: "x"}
)

func callTok(name string, operands int) impl.Tok {
	return impl.Tok{Kind: impl.TokCall, Num: operands, Name: name}
}

// validToks and invalidToks have tokens of each kind, with Nums and Names that it may and may not have.
func validToks() []impl.Tok {
	list := []impl.Tok{
		{Kind: impl.TokNumber}, oneTok, {Kind: impl.TokNumber, Num: 10}, {Kind: impl.TokNumber, Num: impl.MaxLiteral},
		varTok, {Kind: impl.TokVariable, Name: "abcdefgh"}, {Kind: impl.TokVariable, Name: "az"},
	}
	for kind := impl.TokAdd; kind <= impl.TokSame; kind++ {
		list = append(list, impl.Tok{Kind: kind})
	}
	for operands := 0; operands <= impl.MaxArity; operands++ {
		list = append(list, callTok("f", operands), callTok("zyxwvuts", operands))
	}
	return list
}

func invalidToks() []impl.Tok {
	list := []impl.Tok{
		{Kind: -1}, {Kind: impl.TokCall + 1, Name: "f"}, {Kind: impl.TokCall + 1}, {Kind: math.MinInt}, {Kind: math.MaxInt},
		{Kind: impl.TokNumber, Num: -1}, {Kind: impl.TokNumber, Num: impl.MaxLiteral + 1}, {Kind: impl.TokNumber, Num: math.MaxInt},
		{Kind: impl.TokNumber, Num: math.MinInt}, {Kind: impl.TokNumber, Num: 1, Name: "x"},
		{Kind: impl.TokVariable}, {Kind: impl.TokVariable, Num: 1, Name: "x"}, {Kind: impl.TokVariable, Num: -1, Name: "x"},
		{Kind: impl.TokVariable, Name: "abcdefghi"}, {Kind: impl.TokVariable, Name: "X"},
		callTok("f", -1), callTok("f", impl.MaxArity+1), callTok("", 1), callTok("abcdefghi", 1), callTok("f1", 1),
	}
	for kind := impl.TokAdd; kind <= impl.TokSame; kind++ {
		list = append(list, impl.Tok{Kind: kind, Num: 1}, impl.Tok{Kind: kind, Num: 2}, impl.Tok{Kind: kind, Num: -1}, impl.Tok{Kind: kind, Name: "x"})
	}
	return list
}

func mustParse(t *testing.T, text string) []impl.Tok {
	t.Helper()
	list, ok := impl.ParseExpr(strings.Fields(text))
	if !ok {
		t.Fatalf("ParseExpr(%q) has none", text)
	}
	return list
}

func TestPromise2Constants(t *testing.T) {
	if impl.MaxTokens != 20 || impl.MaxArity != 4 || impl.MaxLiteral != 999 {
		t.Error("a limit differs from the document's")
	}
	kinds := []int{impl.TokNumber, impl.TokVariable, impl.TokAdd, impl.TokSub, impl.TokMul, impl.TokLess, impl.TokSame, impl.TokCall}
	if !slices.Equal(kinds, []int{0, 1, 2, 3, 4, 5, 6, 7}) {
		t.Error("a kind differs from the document's", kinds)
	}
}

func TestPromise2NameOk(t *testing.T) {
	for _, name := range []string{"a", "z", "main", "abcdefgh", "zzzzzzzz"} {
		if !impl.NameOk(name) {
			t.Errorf("NameOk(%q) is false", name)
		}
	}
	for _, name := range []string{"", "abcdefghi", strings.Repeat("a", 700), "A", "aB", "Za", "a1", "1", "a b", " a", "a ", "a-", "_", "é", "a\x00", "`", "{", "a/1"} {
		if impl.NameOk(name) {
			t.Errorf("NameOk(%q) is true", name)
		}
	}
}

func TestPromise2NameOkEveryByte(t *testing.T) {
	for i := range 256 {
		b := string([]byte{byte(i)})
		want := i >= 'a' && i <= 'z'
		if impl.NameOk(b) != want || impl.NameOk("a"+b) != want || impl.NameOk(b+"a") != want {
			t.Errorf("the byte %d in a name", i)
		}
	}
}

func TestPromise2TokOk(t *testing.T) {
	for _, tok := range validToks() {
		if !impl.TokOk(tok) {
			t.Errorf("TokOk(%v) is false", tok)
		}
	}
	for _, tok := range invalidToks() {
		if impl.TokOk(tok) {
			t.Errorf("TokOk(%v) is true", tok)
		}
	}
}

func TestPromise2Arity(t *testing.T) {
	for _, tok := range validToks() {
		want := 2
		switch tok.Kind {
		case impl.TokNumber, impl.TokVariable:
			want = 0
		case impl.TokCall:
			want = tok.Num
		}
		if got := impl.Arity(tok); got != want {
			t.Errorf("Arity(%v) = %d, want %d", tok, got, want)
		}
	}
	for _, tok := range invalidToks() {
		if got := impl.Arity(tok); got != -1 {
			t.Errorf("Arity(%v) = %d, want -1", tok, got)
		}
	}
}

func TestPromise2ExprEnd(t *testing.T) {
	list := mustParse(t, "+ f/3 x 1 * 2 y 7")
	for at, want := range []int{8, 7, 3, 4, 7, 6, 7, 8} {
		if got := impl.ExprEnd(list, at); got != want {
			t.Errorf("ExprEnd at %d = %d, want %d", at, got, want)
		}
	}
	for _, at := range []int{-1, -2, 8, 9, math.MinInt, math.MaxInt} {
		if got := impl.ExprEnd(list, at); got != -1 {
			t.Errorf("ExprEnd at %d = %d, want -1", at, got)
		}
	}
}

func TestPromise2ExprEndIncomplete(t *testing.T) {
	whole := mustParse(t, "+ f/3 x 1 * 2 y 7")
	for length := range whole {
		if got := impl.ExprEnd(whole[:length], 0); got != -1 {
			t.Errorf("ExprEnd of %d tokens = %d, want -1", length, got)
		}
	}
	if got := impl.ExprEnd(nil, 0); got != -1 {
		t.Errorf("ExprEnd of an empty list = %d", got)
	}
	longer := append(slices.Clone(whole), oneTok, addTok)
	for at, want := range []int{8, 7, 3, 4, 7, 6, 7, 8, 9, -1} {
		if got := impl.ExprEnd(longer, at); got != want {
			t.Errorf("ExprEnd at %d of the longer list = %d, want %d", at, got, want)
		}
	}
}

func TestPromise2ExprEndInvalidToken(t *testing.T) {
	for _, bad := range invalidToks() {
		list := []impl.Tok{oneTok, addTok, oneTok, bad, oneTok}
		for at, want := range []int{1, -1, 3, -1, 5} {
			if got := impl.ExprEnd(list, at); got != want {
				t.Errorf("ExprEnd at %d with %v = %d, want %d", at, bad, got, want)
			}
		}
	}
}

func TestPromise2ExprEndLongList(t *testing.T) {
	var long []impl.Tok
	for range 100 {
		long = append(long, addTok, oneTok)
	}
	long = append(long, oneTok)
	if got := impl.ExprEnd(long, 0); got != 201 {
		t.Errorf("ExprEnd = %d, want 201", got)
	}
	if impl.ExprOk(long) {
		t.Error("ExprOk is true for 201 tokens")
	}
}

func TestPromise2ExprOk(t *testing.T) {
	for _, list := range [][]impl.Tok{
		{oneTok}, {varTok}, {addTok, oneTok, varTok}, {callTok("f", 0)},
		{callTok("f", 4), oneTok, oneTok, oneTok, oneTok},
		{addTok, lessTok, oneTok, varTok, callTok("f", 1), varTok},
	} {
		if !impl.ExprOk(list) {
			t.Errorf("ExprOk(%v) is false", list)
		}
	}
	for _, list := range [][]impl.Tok{
		nil, {}, {addTok}, {addTok, oneTok}, {oneTok, oneTok}, {oneTok, addTok}, {addTok, oneTok, oneTok, oneTok},
		{callTok("f", 0), oneTok}, {callTok("f", 1)}, {callTok("f", 5), oneTok, oneTok, oneTok, oneTok, oneTok},
		{{Kind: impl.TokNumber, Num: impl.MaxLiteral + 1}}, {{Kind: -1}},
	} {
		if impl.ExprOk(list) {
			t.Errorf("ExprOk(%v) is true", list)
		}
	}
}

// exprOfLength has one call without operands if the length is even, so that each length is possible.
func exprOfLength(length int) []impl.Tok {
	var list []impl.Tok
	if length%2 == 0 {
		list = append(list, callTok("f", 1))
	}
	for len(list) < length-1 {
		list = append(list, addTok, oneTok)
	}
	return append(list, oneTok)
}

func TestPromise2MaxTokens(t *testing.T) {
	for length := 1; length <= impl.MaxTokens+3; length++ {
		list := exprOfLength(length)
		if got := impl.ExprEnd(list, 0); got != length {
			t.Errorf("ExprEnd of %d tokens = %d", length, got)
		}
		fits := length <= impl.MaxTokens
		if impl.ExprOk(list) != fits {
			t.Errorf("ExprOk of %d tokens is %v", length, !fits)
		}
		if text := impl.FormatExpr(list); (text != "") != fits {
			t.Errorf("FormatExpr of %d tokens is %q", length, text)
		}
		var words []string
		for _, tok := range list {
			words = append(words, impl.FormatTok(tok))
		}
		got, ok := impl.ParseExpr(words)
		if ok != fits || fits && !slices.Equal(got, list) || !fits && got != nil {
			t.Errorf("ParseExpr of %d words = %v, %v", length, got, ok)
		}
	}
}

func TestPromise2Operands(t *testing.T) {
	list := mustParse(t, "+ f/4 x * 1 2 3 g/0 - h/1 4 5")
	for at, want := range [][]int{{1, 8}, {2, 3, 6, 7}, nil, {4, 5}, nil, nil, nil, nil, {9, 11}, {10}, nil, nil} {
		if got := impl.Operands(list, at); !slices.Equal(got, want) {
			t.Errorf("Operands at %d = %v, want %v", at, got, want)
		}
	}
	for _, at := range []int{-1, 12, 13, math.MinInt, math.MaxInt} {
		if got := impl.Operands(list, at); got != nil {
			t.Errorf("Operands at %d = %v, want nil", at, got)
		}
	}
}

func TestPromise2OperandsInvalid(t *testing.T) {
	for _, list := range [][]impl.Tok{
		nil, {addTok}, {addTok, oneTok}, {addTok, oneTok, {Kind: 9}}, {addTok, {Kind: 9}, oneTok}, {callTok("f", 5), oneTok, oneTok, oneTok, oneTok, oneTok},
		{callTok("f", 3), oneTok, oneTok}, {addTok, addTok, oneTok, oneTok},
	} {
		if got := impl.Operands(list, 0); got != nil {
			t.Errorf("Operands(%v) = %v, want nil", list, got)
		}
	}
	behind := []impl.Tok{addTok, oneTok, oneTok, {Kind: 9}}
	if got := impl.Operands(behind, 0); !slices.Equal(got, []int{1, 2}) {
		t.Errorf("Operands with an invalid token behind = %v", got)
	}
}

func TestPromise2FormatTok(t *testing.T) {
	for _, c := range []struct {
		tok  impl.Tok
		want string
	}{
		{impl.Tok{}, "0"},
		{impl.Tok{Num: 999}, "999"},
		{varTok, "x"},
		{impl.Tok{Kind: impl.TokVariable, Name: "abcdefgh"}, "abcdefgh"},
		{addTok, "+"},
		{impl.Tok{Kind: impl.TokSub}, "-"},
		{impl.Tok{Kind: impl.TokMul}, "*"},
		{lessTok, "<"},
		{impl.Tok{Kind: impl.TokSame}, "="},
		{callTok("f", 0), "f/0"},
		{callTok("abcdefgh", 4), "abcdefgh/4"},
	} {
		if got := impl.FormatTok(c.tok); got != c.want {
			t.Errorf("FormatTok(%v) = %q, want %q", c.tok, got, c.want)
		}
	}
	for _, tok := range invalidToks() {
		if got := impl.FormatTok(tok); got != "" {
			t.Errorf("FormatTok(%v) = %q", tok, got)
		}
	}
}

func TestPromise2ParseTok(t *testing.T) {
	for _, want := range validToks() {
		text := impl.FormatTok(want)
		if got, ok := impl.ParseTok(text); got != want || !ok {
			t.Errorf("ParseTok(%q) = %v, %v", text, got, ok)
		}
	}
	for n := 0; n <= impl.MaxLiteral; n++ {
		if got, ok := impl.ParseTok(impl.FormatInt(n)); got != (impl.Tok{Num: n}) || !ok {
			t.Errorf("ParseTok of %d = %v, %v", n, got, ok)
		}
	}
}

func TestPromise2ParseTokInvalid(t *testing.T) {
	for _, s := range []string{
		"", " ", "00", "01", "007", "+1", "-1", "-0", "+0", "1000", "1001", "1000000000", "1000000001", "99999999999999999999", "0x1", "1.0", "1e2",
		"++", "+-", "+-*<=", "-*", "<=", "==", "/", "//", ">", "!", "%", "+ ", " +",
		"X", "xY", "x1", "1x", "abcdefghi", "x ", " x", "x y", "x\n", "é", "\x00",
		"f/", "/1", "f/5", "f/-1", "f/+1", "f/01", "f/00", "f/1/", "f/1/1", "f//1", "f/ 1", "f /1", "f/1 ", "F/1", "f1/1", "abcdefghi/1", "f/x", "1/1", "f/1000000001", "+/2", "x/",
	} {
		if got, ok := impl.ParseTok(s); got != (impl.Tok{}) || ok {
			t.Errorf("ParseTok(%q) = %v, %v, want none", s, got, ok)
		}
	}
}

func TestPromise2ParseTokEveryByte(t *testing.T) {
	for i := range 256 {
		s := string([]byte{byte(i)})
		want := strings.Contains("+-*<=0123456789abcdefghijklmnopqrstuvwxyz", s)
		tok, ok := impl.ParseTok(s)
		if ok != want || ok && impl.FormatTok(tok) != s {
			t.Errorf("ParseTok(%q) = %v, %v", s, tok, ok)
		}
	}
}

func TestPromise2FormatExpr(t *testing.T) {
	for _, text := range []string{"0", "x", "+ 1 2", "f/0", "< x 999", "+ f/2 x 1 7", "f/4 g/0 * = a b - c d < 1 2 h/1 + x y"} {
		if got := impl.FormatExpr(mustParse(t, text)); got != text {
			t.Errorf("FormatExpr = %q, want %q", got, text)
		}
	}
	for _, list := range [][]impl.Tok{nil, {}, {addTok}, {addTok, oneTok}, {oneTok, oneTok}, {{Kind: 8}}, {{Num: 1000}}, exprOfLength(21)} {
		if got := impl.FormatExpr(list); got != "" {
			t.Errorf("FormatExpr(%v) = %q", list, got)
		}
	}
}

func TestPromise2ParseExpr(t *testing.T) {
	got, ok := impl.ParseExpr([]string{"=", "f/2", "x", "12", "-", "y", "0"})
	want := []impl.Tok{
		{Kind: impl.TokSame}, callTok("f", 2), varTok, {Num: 12}, {Kind: impl.TokSub}, {Kind: impl.TokVariable, Name: "y"}, {},
	}
	if !ok || !slices.Equal(got, want) {
		t.Errorf("ParseExpr = %v, %v", got, ok)
	}
}

func TestPromise2ParseExprInvalid(t *testing.T) {
	for _, words := range [][]string{
		nil, {}, {""}, {"+"}, {"+", "1"}, {"1", "2"}, {"+", "1", "2", "3"}, {"1", "+", "2"}, {"+ 1 2"}, {"+", "1", "", "2"}, {"1", ""},
		{"f/1"}, {"f/0", "1"}, {"f/5", "1", "1", "1", "1", "1"}, {"+", "01", "2"}, {"+", "1000", "2"}, {"+", "-1", "2"}, {"abcdefghi"},
		{"+", "1", "X"}, {"X", "+", "1"},
	} {
		if got, ok := impl.ParseExpr(words); got != nil || ok {
			t.Errorf("ParseExpr(%q) = %v, %v, want none", words, got, ok)
		}
	}
}

// listsUpTo has all lists of some items up to a length, the empty one included.
func listsUpTo[T any](items []T, length int) [][]T {
	lists := [][]T{nil}
	for begin := 0; len(lists[begin]) < length; begin++ {
		for _, item := range items {
			lists = append(lists, append(slices.Clone(lists[begin]), item))
		}
	}
	return lists
}

func TestPromise2ExprRoundTrip(t *testing.T) {
	// Each list of up to four of these tokens either is no expression or comes back from its words.
	toks := []impl.Tok{oneTok, varTok, addTok, callTok("f", 0), callTok("f", 1), callTok("g", 3), {Kind: 8}}
	for _, list := range listsUpTo(toks, 4) {
		text := impl.FormatExpr(list)
		if (text != "") != impl.ExprOk(list) {
			t.Fatalf("FormatExpr(%v) = %q", list, text)
		}
		if text == "" {
			continue
		}
		if back := mustParse(t, text); !slices.Equal(back, list) {
			t.Errorf("%v comes back as %v", list, back)
		}
	}
}

func TestPromise2ArgumentsAreKept(t *testing.T) {
	list := make([]impl.Tok, 3, 8)
	copy(list, []impl.Tok{addTok, oneTok, oneTok})
	spare := list[:8]
	impl.ExprEnd(list, 0)
	first := impl.Operands(list, 0)
	first[0] = 9
	if second := impl.Operands(list, 0); !slices.Equal(second, []int{1, 2}) {
		t.Errorf("two results share memory: %v", second)
	}
	impl.FormatExpr(list)
	for i, want := range []impl.Tok{addTok, oneTok, oneTok, {}, {}, {}, {}, {}} {
		if spare[i] != want {
			t.Errorf("token %d has become %v", i, spare[i])
		}
	}
}

func TestPromise2Wrap(t *testing.T) {
	for _, c := range []struct{ x, want int }{
		{0, 0}, {1, 1}, {-1, -1}, {999, 999},
		{math.MaxInt32, math.MaxInt32}, {math.MaxInt32 + 1, math.MinInt32},
		{math.MinInt32, math.MinInt32}, {math.MinInt32 - 1, math.MaxInt32},
		{1 << 32, 0}, {1<<32 - 1, -1}, {1<<32 + 7, 7}, {-1 << 32, 0}, {-1<<32 - 7, -7}, {3 << 31, math.MinInt32},
		{math.MaxInt, -1}, {math.MinInt, 0}, {math.MinInt + 5, 5},
	} {
		if got := impl.Wrap(c.x); got != c.want {
			t.Errorf("Wrap(%d) = %d, want %d", c.x, got, c.want)
		}
	}
}

func TestPromise2WrapProperty(t *testing.T) {
	for x := -1 << 40; x < 1<<40; x += 1<<29 - 3 {
		got := impl.Wrap(x)
		if got < math.MinInt32 || got > math.MaxInt32 || (got-x)%(1<<32) != 0 {
			t.Errorf("Wrap(%d) = %d", x, got)
		}
	}
}

func TestPromise2Apply(t *testing.T) {
	for _, c := range []struct{ kind, a, b, want int }{
		{impl.TokAdd, 2, 3, 5},
		{impl.TokAdd, math.MaxInt32, 1, math.MinInt32},
		{impl.TokAdd, math.MinInt32, -1, math.MaxInt32},
		{impl.TokAdd, math.MaxInt, 1, 0},
		{impl.TokSub, 1, 3, -2},
		{impl.TokSub, 3, 1, 2},
		{impl.TokSub, math.MinInt32, 1, math.MaxInt32},
		{impl.TokSub, 0, math.MinInt32, math.MinInt32},
		{impl.TokMul, 6, -7, -42},
		{impl.TokMul, 65536, 65536, 0},
		{impl.TokMul, 65536, 32768, math.MinInt32},
		{impl.TokMul, math.MaxInt32, math.MaxInt32, 1},
		{impl.TokMul, math.MinInt32, math.MinInt32, 0},
		{impl.TokMul, math.MinInt32, -1, math.MinInt32},
		{impl.TokMul, 46341, 46341, 46341*46341 - 1<<32},
		{impl.TokMul, 1<<32 + 3, -1<<32 + 5, 15},
		{impl.TokMul, math.MaxInt, math.MaxInt, 1},
		{impl.TokLess, -1, 0, 1},
		{impl.TokLess, 0, -1, 0},
		{impl.TokLess, 4, 4, 0},
		{impl.TokLess, math.MinInt32, math.MaxInt32, 1},
		{impl.TokLess, math.MaxInt32 + 1, 0, 1},
		{impl.TokLess, 0, math.MinInt32 - 1, 1},
		{impl.TokSame, 4, 4, 1},
		{impl.TokSame, 4, 5, 0},
		{impl.TokSame, 5, 4, 0},
		{impl.TokSame, 7, 1<<32 + 7, 1},
		{impl.TokSame, math.MaxInt, -1, 1},
		{impl.TokSame, math.MinInt32, math.MaxInt32 + 1, 1},
	} {
		if got := impl.Apply(c.kind, c.a, c.b); got != c.want {
			t.Errorf("Apply(%d, %d, %d) = %d, want %d", c.kind, c.a, c.b, got, c.want)
		}
	}
}

func TestPromise2ApplyOtherKinds(t *testing.T) {
	for _, kind := range []int{impl.TokNumber, impl.TokVariable, impl.TokCall, -1, 8, math.MinInt, math.MaxInt} {
		if got := impl.Apply(kind, 3, 3); got != 0 {
			t.Errorf("Apply(%d, 3, 3) = %d", kind, got)
		}
	}
}
