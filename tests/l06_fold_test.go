package tests

import (
	"math/rand"
	"reflect"
	"slices"
	"strconv"
	"strings"
	"testing"

	"loop.example/g03314/impl"
)

// Promise 6: folding changes neither what is put out nor what is visited.

// readResult is the number that stands for three tokens, if they are an operator and two numbers and there is such a number.
func readResult(three []impl.Tok) (int, bool) {
	if three[0].Kind < impl.TokAdd || three[0].Kind > impl.TokSame || three[1].Kind != impl.TokNumber || three[2].Kind != impl.TokNumber {
		return 0, false
	}
	a, b := three[1].Num, three[2].Num
	holds := map[bool]int{true: 1}
	value := map[int]int{impl.TokAdd: a + b, impl.TokSub: a - b, impl.TokMul: a * b, impl.TokLess: holds[a < b], impl.TokSame: holds[a == b]}[three[0].Kind]
	return value, value >= 0 && value <= impl.MaxLiteral
}

// readFold folds in a second way: two numbers behind an operator are its operands, so that such tokens are replaced wherever they stand until there are none.
func readFold(list []impl.Tok) []impl.Tok {
	folded := slices.Clone(list)
	for at := 0; at+2 < len(folded); at++ {
		if value, ok := readResult(folded[at : at+3]); ok {
			folded = slices.Replace(folded, at, at+3, impl.Tok{Num: value})
			at = -1
		}
	}
	return folded
}

// wantFold checks the test's own reading of the document as well.
func wantFold(t *testing.T, text string, want string) {
	t.Helper()
	list := mustParse(t, text)
	if got := impl.FormatExpr(impl.FoldExpr(list)); got != want {
		t.Errorf("FoldExpr(%q) = %q, want %q", text, got, want)
	}
	if got := impl.FormatExpr(readFold(list)); got != want {
		t.Errorf("the test's own folding of %q is %q, want %q", text, got, want)
	}
}

// wantUnfolded checks an expression in which nothing can be folded.
func wantUnfolded(t *testing.T, texts ...string) {
	t.Helper()
	for _, text := range texts {
		wantFold(t, text, text)
	}
}

// wantFoldedProgram has the saved tokens as well.
func wantFoldedProgram(t *testing.T, text string, want string, saved int) {
	t.Helper()
	p := linesOf(t, text)
	if got := impl.FoldProgram(p); !sameProgram(got, linesOf(t, want)) {
		t.Errorf("FoldProgram(%q) = %q, want %q", text, impl.FormatProgram(got), want)
	}
	if got := impl.SavedTokens(p); got != saved {
		t.Errorf("SavedTokens(%q) = %d, want %d", text, got, saved)
	}
}

// wantSameRuns compares the runs of a program with those of the folded one, and returns the code of the longest run.
func wantSameRuns(t *testing.T, p []impl.Line) int {
	t.Helper()
	folded := impl.FoldProgram(p)
	whole := impl.Interpret(p, largestLimit)
	count := len(whole.Visits)
	if whole.Code == impl.RunBad || len(folded) != len(p) {
		t.Fatalf("%q is no program, or is folded to other lines: %v", impl.FormatProgram(p), folded)
	}
	for _, limit := range []int{largestLimit, count, max(count-1, 0), count / 2, count / 3, min(count, 7), min(count, 2), 1, 0} {
		before, after := impl.Interpret(p, limit), impl.Interpret(folded, limit)
		if !sameRun(before, after) {
			t.Fatalf("Interpret(%q, %d) = %v, but folded it is %v", impl.FormatProgram(p), limit, before, after)
		}
	}
	return whole.Code
}

func TestPromise6EachOperator(t *testing.T) {
	for _, c := range []struct{ text, want string }{
		{"+ 2 3", "5"}, {"+ 0 0", "0"}, {"- 7 2", "5"}, {"- 999 0", "999"}, {"* 6 7", "42"}, {"* 0 999", "0"}, {"* 999 0", "0"},
		{"< 2 3", "1"}, {"< 3 2", "0"}, {"< 3 3", "0"}, {"< 0 999", "1"}, {"< 999 0", "0"},
		{"= 3 3", "1"}, {"= 2 3", "0"}, {"= 3 2", "0"}, {"= 999 999", "1"}, {"= 0 0", "1"},
	} {
		wantFold(t, c.text, c.want)
		wantFold(t, "f/1 "+c.text, "f/1 "+c.want)
	}
}

func TestPromise6Range(t *testing.T) {
	for _, c := range []struct{ text, want string }{
		{"- 5 5", "0"}, {"- 999 999", "0"}, {"- 0 0", "0"}, {"- 1 0", "1"}, {"+ 499 500", "999"}, {"+ 999 0", "999"}, {"+ 0 999", "999"}, {"* 27 37", "999"}, {"* 999 1", "999"},
		{"+ 499 499", "998"}, {"* 2 499", "998"}, {"- 999 998", "1"},
	} {
		wantFold(t, c.text, c.want)
	}
	wantUnfolded(t, "- 5 6", "- 0 1", "- 998 999", "- 0 999", "- 0 2")
	wantUnfolded(t, "+ 500 500", "+ 999 1", "+ 1 999", "+ 999 999", "* 25 40", "* 2 500", "* 999 2", "* 999 999", "* 7 143")
}

func TestPromise6AllNumbers(t *testing.T) {
	numbers := []int{0, 1, 2, 3, 9, 10, 26, 27, 28, 31, 32, 36, 37, 38, 99, 100, 333, 334, 498, 499, 500, 501, 997, 998, 999}
	for kind := impl.TokAdd; kind <= impl.TokSame; kind++ {
		for _, a := range numbers {
			for _, b := range numbers {
				list := []impl.Tok{{Kind: kind}, {Num: a}, {Num: b}}
				want := list
				if value := impl.Apply(kind, a, b); value >= 0 && value <= 999 {
					want = []impl.Tok{{Num: value}}
				}
				if got := impl.FoldExpr(list); !slices.Equal(got, want) {
					t.Errorf("FoldExpr(%q) = %v, want %v", impl.FormatExpr(list), got, want)
				}
			}
		}
	}
}

func TestPromise6FromTheInside(t *testing.T) {
	for _, c := range []struct{ text, want string }{
		{"+ * 2 3 4", "10"}, {"+ 4 * 2 3", "10"}, {"+ * 2 3 * 4 5", "26"},
		{"- - 9 1 - 3 1", "6"}, {"< + 1 1 3", "1"}, {"= 6 * 2 3", "1"},
		{"+ 1 + 2 + 3 + 4 5", "15"}, {"+ + + + 1 2 3 4 5", "15"}, {"+ + 1 + 2 3 + + 4 5 6", "21"},
		{"- 9 - 8 - 7 - 6 - 5 4", "3"}, {"- - - 9 3 2 1", "3"}, {"* - 9 8 < = 1 1 2", "1"},
		// What is out of the range in the middle stays, and so does all around it.
		{"+ - 0 1 1", "+ - 0 1 1"}, {"+ 1 - 0 1", "+ 1 - 0 1"}, {"- * 999 2 999", "- * 999 2 999"}, {"- 999 + 999 1", "- 999 + 999 1"},
		{"+ - + 1 2 + 3 4 + 5 6", "+ - 3 7 11"}, {"* + 600 600 < 2 3", "* + 600 600 1"}, {"< - 1 2 - 2 1", "< - 1 2 1"}, {"= + 500 * 5 100 * 10 100", "= + 500 500 * 10 100"},
		{"* 0 - 3 4", "* 0 - 3 4"}, {"- - 3 4 - 3 4", "- - 3 4 - 3 4"}, {"+ + 1 - 2 3 + 4 5", "+ + 1 - 2 3 9"},
	} {
		wantFold(t, c.text, c.want)
	}
}

func TestPromise6VariablesAndCalls(t *testing.T) {
	wantUnfolded(t, "x", "f/0", "+ x 1", "+ 1 x", "+ x y", "- x x", "= x x", "< x x", "+ x 0", "+ 0 x", "* 1 x", "* x 1", "* 0 x", "* x 0", "- x 0")
	wantUnfolded(t, "+ f/0 1", "+ 1 f/0", "* 0 f/0", "* f/0 0", "= f/0 f/0", "f/1 2", "f/2 2 3", "f/3 1 2 3", "f/4 1 2 3 4", "f/1 x")
	// Numbers are not brought together across a variable or a call.
	wantUnfolded(t, "+ + x 1 2", "+ 1 + x 2", "+ + 1 x 2", "+ 1 + 2 x", "* 2 * 3 x", "- - x 1 1", "+ + f/0 1 2", "+ 1 + 2 f/0", "+ 2 f/1 3", "+ f/1 2 3", "+ f/2 1 2 3", "+ 1 f/2 2 3")
	for _, c := range []struct{ text, want string }{
		{"+ * 2 3 x", "+ 6 x"}, {"+ x * 2 3", "+ x 6"}, {"+ * 2 3 f/0", "+ 6 f/0"}, {"+ f/0 * 2 3", "+ f/0 6"},
		{"+ + x * 2 3 + 4 5", "+ + x 6 9"}, {"- * x + 1 1 * + 2 2 y", "- * x 2 * 4 y"}, {"* < 3 2 x", "* 0 x"}, {"+ x - 5 5", "+ x 0"},
		{"+ + 1 2 + 3 x", "+ 3 + 3 x"}, {"+ + 1 x + 3 4", "+ + 1 x 7"}, {"- + * 2 2 * x + 1 1 = 4 + 2 2", "- + 4 * x 2 1"},
	} {
		wantFold(t, c.text, c.want)
	}
}

func TestPromise6OperandsOfCalls(t *testing.T) {
	for _, c := range []struct{ text, want string }{
		{"f/1 + 1 2", "f/1 3"}, {"f/2 + 1 2 * 3 4", "f/2 3 12"}, {"f/2 x + 1 2", "f/2 x 3"}, {"f/2 + 1 2 x", "f/2 3 x"},
		{"f/3 1 + 1 1 3", "f/3 1 2 3"}, {"f/4 + 1 0 + 1 1 + 1 2 + 1 3", "f/4 1 2 3 4"}, {"f/4 - 0 1 + 999 1 * 2 500 + 1 3", "f/4 - 0 1 + 999 1 * 2 500 4"},
		{"f/1 g/1 + 1 2", "f/1 g/1 3"}, {"f/1 + g/1 + 1 2 * 2 2", "f/1 + g/1 3 4"}, {"+ f/1 + 1 2 + 3 4", "+ f/1 3 7"}, {"+ + 3 4 f/1 + 1 2", "+ 7 f/1 3"},
		{"f/2 + + 1 2 + 3 4 g/2 - 3 3 = 1 2", "f/2 10 g/2 0 0"}, {"< f/0 + 1 f/1 - 2 1", "< f/0 + 1 f/1 1"},
	} {
		wantFold(t, c.text, c.want)
	}
}

func TestPromise6ShortestAndLongest(t *testing.T) {
	wantUnfolded(t, "0", "1", "999", "x", "abcdefgh", "f/0")
	for length := 1; length <= impl.MaxTokens+3; length++ {
		// The sum of (length+1)/2 ones, in a call if the length is even.
		list, want := exprOfLength(length), strconv.Itoa((length+1)/2)
		if length%2 == 0 {
			want = "f/1 " + strconv.Itoa(length/2)
		}
		if length > impl.MaxTokens {
			want = ""
		}
		got := impl.FoldExpr(list)
		if impl.FormatExpr(got) != want || want == "" && len(got) > 0 {
			t.Errorf("FoldExpr of %d tokens = %v, want %q", length, got, want)
		}
	}
	ones := strings.Repeat("+ ", 9) + strings.Repeat("1 ", 9)
	wantFold(t, "f/1 "+ones+"1", "f/1 10")
	wantFold(t, "f/1 "+ones+"x", "f/1 + 9 x")
	wantUnfolded(t, "f/1 "+strings.Repeat("+ 1 ", 9)+"x")
	wantFold(t, "f/4 + + 1 1 1 + + 1 1 1 + + 1 1 1 + 1 x", "f/4 3 3 3 + 1 x")
	wantFold(t, "f/2 * 2 * 2 * 2 * 2 2 * * * * 2 2 2 2 x", "f/2 32 * 16 x")
}

func TestPromise6AllShortExpressions(t *testing.T) {
	toks := []impl.Tok{{}, oneTok, {Num: 500}, {Num: 999}, varTok, addTok, {Kind: impl.TokSub}, {Kind: impl.TokMul}, lessTok, {Kind: impl.TokSame}, callTok("f", 1)}
	shorter := 0
	for _, list := range listsUpTo(toks, 5) {
		got := impl.FoldExpr(list)
		if !impl.ExprOk(list) {
			if len(got) > 0 {
				t.Fatalf("FoldExpr(%v) = %v, want none", list, got)
			}
			continue
		}
		if want := readFold(list); !slices.Equal(got, want) || !impl.ExprOk(got) {
			t.Fatalf("FoldExpr(%q) = %v, want %v", impl.FormatExpr(list), got, want)
		}
		if again := impl.FoldExpr(got); !slices.Equal(again, got) {
			t.Fatalf("FoldExpr(%q) = %v, and folded again %v", impl.FormatExpr(list), got, again)
		}
		if len(got) < len(list) {
			shorter++
		}
	}
	if shorter < 1000 {
		t.Error("only", shorter, "expressions are folded")
	}
}

func TestPromise6FoldedAlready(t *testing.T) {
	for _, text := range []string{"+ 1 2", "+ * 2 3 x", "f/2 + 1 2 - 1 2", "- * 999 2 + 1 2", "+ - + 1 2 + 3 4 + 5 6", "< x 1", "7"} {
		once := impl.FoldExpr(mustParse(t, text))
		if twice := impl.FoldExpr(once); len(once) == 0 || !slices.Equal(twice, once) {
			t.Errorf("%q is folded to %v, and then to %v", text, once, twice)
		}
	}
	for _, p := range constantPrograms() {
		folded := impl.FoldProgram(p)
		if again := impl.FoldProgram(folded); !sameProgram(again, folded) || impl.SavedTokens(folded) != 0 {
			t.Fatalf("%q can be folded again to %q", impl.FormatProgram(folded), impl.FormatProgram(again))
		}
	}
}

func TestPromise6InvalidExpressions(t *testing.T) {
	lists := [][]impl.Tok{
		nil, {}, {addTok}, {addTok, oneTok}, {addTok, oneTok, oneTok, oneTok}, {oneTok, oneTok}, {oneTok, addTok, oneTok}, {oneTok, oneTok, addTok},
		{callTok("f", 1)}, {callTok("f", 0), oneTok}, {callTok("f", 5), oneTok, oneTok, oneTok, oneTok, oneTok}, {addTok, addTok, oneTok, oneTok},
		exprOfLength(impl.MaxTokens + 1), exprOfLength(1000), slices.Repeat([]impl.Tok{addTok}, 1000),
	}
	for _, bad := range invalidToks() {
		lists = append(lists, []impl.Tok{bad}, []impl.Tok{bad, oneTok, oneTok}, []impl.Tok{addTok, bad, oneTok}, []impl.Tok{addTok, oneTok, bad},
			[]impl.Tok{addTok, addTok, oneTok, oneTok, bad}, []impl.Tok{addTok, bad, addTok, oneTok, oneTok}, []impl.Tok{addTok, oneTok, oneTok, bad})
	}
	for _, list := range lists {
		if got := impl.FoldExpr(list); len(got) != 0 {
			t.Errorf("FoldExpr(%v) = %v, want none", list, got)
		}
	}
}

func TestPromise6Lines(t *testing.T) {
	wantFoldedProgram(t, "fun main;out + 1 * 2 3;end", "fun main;out 7;end", 4)
	// Lines without an expression stay, with their names and arguments.
	wantFoldedProgram(t, "fun main;end", "fun main;end", 0)
	wantFoldedProgram(t, "fun main;if 1;else;end;end;fun f a b c d;end;fun g;end", "fun main;if 1;else;end;end;fun f a b c d;end;fun g;end", 0)
	for _, line := range []string{"set x", "out", "if", "while", "return"} {
		behind := ";end;fun f y;set x y;end"
		if line == "if" || line == "while" {
			behind = ";end" + behind
		}
		around := func(expr string) string { return "fun main;" + line + " " + expr + behind }
		wantFoldedProgram(t, around("+ 1 2"), around("3"), 2)
		wantFoldedProgram(t, around("+ f/1 * 2 3 - 4 4"), around("+ f/1 6 0"), 4)
		wantFoldedProgram(t, around("- 1 2"), around("- 1 2"), 0)
	}
	// A line stays even if it is never performed, or only once.
	wantFoldedProgram(t, "fun main;if < 2 1;out + 1 1;else;out + 1 2;end;while = 1 2;out * 2 2;end;return - 9 9;out + 4 4;end",
		"fun main;if 0;out 2;else;out 3;end;while 0;out 4;end;return 0;out 8;end", 14)
}

func TestPromise6SavedTokens(t *testing.T) {
	for _, c := range []struct {
		text  string
		want  string
		saved int
	}{
		{"fun main;set x 1;out + x 1;return - 0 x;end", "fun main;set x 1;out + x 1;return - 0 x;end", 0},
		{"fun main;out f/2 1 2;out - 0 1;end;fun f x y;return + 999 x;end", "fun main;out f/2 1 2;out - 0 1;end;fun f x y;return + 999 x;end", 0},
		{"fun main;set x 1;out + x + 1 1;return - 0 x;end", "fun main;set x 1;out + x 2;return - 0 x;end", 2},
		{"fun main;set x + 1 1;out + x * 3 3;return = = 1 1 1;end", "fun main;set x 2;out + x 9;return 1;end", 8},
		{"fun main;out f/1 + 2 2;end;fun f x;return + x - 3 2;end;fun g;if < 1 2;return f/1 * 2 + 2 2;end;end", "fun main;out f/1 4;end;fun f x;return + x 1;end;fun g;if 1;return f/1 8;end;end", 10},
		{"fun main;out " + strings.Repeat("+ 1 ", 9) + "1;end", "fun main;out 10;end", 18},
	} {
		wantFoldedProgram(t, c.text, c.want, c.saved)
		wantSameRuns(t, linesOf(t, c.text))
	}
	longest := "fun main" + strings.Repeat(";out "+strings.Repeat("+ 1 ", 9)+"1", impl.MaxLines-2) + ";end"
	wantFoldedProgram(t, longest, "fun main"+strings.Repeat(";out 10", impl.MaxLines-2)+";end", 18*(impl.MaxLines-2))
}

func TestPromise6InvalidPrograms(t *testing.T) {
	foldable := linesOf(t, "fun main;out + 1 2;end")
	// With a line behind its last LineEnd each of them is no program, and has something to fold.
	for _, p := range append(invalidPrograms(t), foldable) {
		longer := slices.Concat(p, foldable[1:2])
		if got, saved := impl.FoldProgram(longer), impl.SavedTokens(longer); len(got) != 0 || saved != 0 {
			t.Errorf("%v is folded to %v, %d tokens are saved", longer, got, saved)
		}
	}
	for _, p := range invalidPrograms(t) {
		if got, saved := impl.FoldProgram(p), impl.SavedTokens(p); len(got) != 0 || saved != 0 {
			t.Errorf("%v is folded to %v, %d tokens are saved", p, got, saved)
		}
	}
	if got, saved := impl.FoldProgram(nil), impl.SavedTokens(nil); len(got) != 0 || saved != 0 {
		t.Error("no lines are folded", got, saved)
	}
}

// constantPrograms are the programs that are made, with numbers in place of most variables; many of them have large numbers, and some end early.
func constantPrograms() [][]impl.Line {
	random := rand.New(rand.NewSource(6))
	numbers := []int{0, 0, 1, 1, 2, 3, 5, 30, 500, 999}
	programs := madePrograms()
	for _, p := range programs {
		for k := range p {
			for i, tok := range p[k].Expr {
				if tok.Kind == impl.TokVariable && random.Intn(3) > 0 {
					p[k].Expr[i] = impl.Tok{Num: numbers[random.Intn(len(numbers))]}
				}
			}
		}
	}
	return programs
}

func TestPromise6RunsOfMadePrograms(t *testing.T) {
	codes, folded := map[int]int{}, 0
	for _, p := range constantPrograms() {
		codes[wantSameRuns(t, p)]++
		if impl.SavedTokens(p) > 0 {
			folded++
		}
	}
	if codes[impl.RunDone] < 100 || codes[impl.RunDepth] < 100 || codes[impl.RunVisits] < 100 || folded < 1000 {
		t.Error("too few programs are folded, or they end too much alike", codes, folded)
	}
}

func TestPromise6MadePrograms(t *testing.T) {
	for _, p := range constantPrograms() {
		want, saved := slices.Clone(p), 0
		for k, x := range p {
			want[k].Expr = readFold(x.Expr)
			saved += len(x.Expr) - len(want[k].Expr)
		}
		got := impl.FoldProgram(p)
		if !sameProgram(got, want) || !impl.ProgramOk(got) || impl.SavedTokens(p) != saved {
			t.Fatalf("FoldProgram(%q) = %q, want %q; %d tokens are saved, want %d", impl.FormatProgram(p), impl.FormatProgram(got), impl.FormatProgram(want), impl.SavedTokens(p), saved)
		}
	}
}

func TestPromise6RunsOfShortExpressions(t *testing.T) {
	// Each expression of up to five of these tokens as a condition, in a loop, as an operand and as a value.
	toks := []impl.Tok{{}, oneTok, {Num: 999}, varTok, addTok, {Kind: impl.TokSub}, {Kind: impl.TokMul}, lessTok, {Kind: impl.TokSame}, callTok("f", 1)}
	for _, list := range listsUpTo(toks, 5) {
		if !impl.ExprOk(list) {
			continue
		}
		expr := impl.FormatExpr(list)
		wantSameRuns(t, linesOf(t, "fun main;set x 3;if "+expr+";out 1;else;out 2;end;while "+expr+";return "+expr+";end;set x "+expr+";out f/1 "+expr+";end;fun f y;out y;return * y - 0 1;end"))
	}
}

func TestPromise6RunsWithCalls(t *testing.T) {
	for _, text := range []string{
		// Calls are still made, in the same order, also if they have constant operands or a product with 0.
		"fun main;out + f/1 + 1 2 f/1 - 1 2;out * 0 f/1 * 2 2;out * f/1 * 2 2 - 1 1;end;fun f x;out * x + 1 1;return - x * 2 3;end",
		"fun main;set i * 2 2;while < - 3 3 i;set i - i - 3 2;if = i + 1 1;out f/1 + i + 1 1;else;out + * 9 9 i;end;end;return = = 4 4 < 1 2;end;fun f y;return + y g/0;end;fun g;return * 30 30;end",
		"fun main;out * * 999 999 * 999 999;out - - 0 1 * 999 999;out < - 0 1 0;out * * * 999 999 999 * * 999 999 999;end",
		"fun main;return f/1 + 2 2;end;fun f x;out x;if < + 0 0 x;return + 1 f/1 - x - 3 2;end;end",
		"fun main;return f/1 + 5 5;end;fun f x;out x;if < + 0 0 x;return + 1 f/1 - x - 3 2;end;end",
		"fun main;while + 1 1;out * 2 2;end;end",
		"fun main;while - 1 2;out + 999 1;end;end",
		"fun main;while - 1 1;out 1;end;if - 2 2;out 2;else;out 3;end;return main/0;end",
		"fun main;out f/4 + 1 1 - 1 1 - 1 2 * 999 999;end;fun f a b c d;out a;out b;out c;out d;return + a + b + c d;end",
		"fun main;end",
	} {
		p := linesOf(t, text)
		for limit := range 60 {
			before, after := impl.Interpret(p, limit), impl.Interpret(impl.FoldProgram(p), limit)
			if !sameRun(before, after) {
				t.Errorf("Interpret(%q, %d) = %v, but folded it is %v", text, limit, before, after)
			}
		}
		wantSameRuns(t, p)
	}
}

func TestPromise6ArgumentsAreKept(t *testing.T) {
	for _, text := range []string{"1", "+ 1 2", "- 1 2", "f/2 + 1 2 x", "x"} {
		list := append(mustParse(t, text), slices.Repeat([]impl.Tok{lessTok}, 8)...)
		before, length := slices.Clone(list), len(list)-8
		got := impl.FoldExpr(list[:length])
		got = got[:cap(got)]
		for i := range got {
			got[i] = addTok
		}
		if !slices.Equal(list, before) {
			t.Errorf("%q has become %v", text, list)
		}
	}
	args := []string{"x", "y", "spare"}
	p := append(linesOf(t, "fun main;out f/2 + 1 2 3;end;fun f x y;return - x 1;end"), impl.Line{Kind: 9})
	p[3].Args = args[:2]
	before := slices.Clone(p)
	for k := range before {
		before[k].Expr = slices.Clone(p[k].Expr)
	}
	impl.SavedTokens(p[:6])
	scribble(impl.FoldProgram(p[:6]), -1)
	if !slices.Equal(args, []string{"x", "y", "spare"}) || !sameProgram(p, before) {
		t.Error("the program has changed", p, args)
	}
}

// scribble writes into the slices of all lines but one, and into their spare capacity.
func scribble(p []impl.Line, but int) {
	for k, x := range p {
		if k == but {
			continue
		}
		args, list := x.Args[:cap(x.Args)], x.Expr[:cap(x.Expr)]
		for i := range args {
			args[i] = "scribble"
		}
		for i := range list {
			list[i] = impl.Tok{Kind: -1}
		}
	}
}

func TestPromise6ResultsShareNoMemory(t *testing.T) {
	p := linesOf(t, "fun main;set a + 1 2;set a + 1 2;out x;out x;set x 1;if - 1 2;else;end;return f/2 1 * 2 2;end;fun f x y;return x;end;fun g x y;return x;end")
	// Lines of the program have slices in common.
	p[2], p[4], p[14].Args = p[1], p[3], p[11].Args
	want := impl.FormatProgram(impl.FoldProgram(p))
	if want == "" {
		t.Fatal("the program is not folded")
	}
	for k := range p {
		folded := impl.FoldProgram(p)
		kept := plainLine(impl.Line{Kind: folded[k].Kind, Name: folded[k].Name, Args: slices.Clone(folded[k].Args), Expr: slices.Clone(folded[k].Expr)})
		scribble(folded, k)
		if !reflect.DeepEqual(plainLine(folded[k]), kept) {
			t.Error("two lines share memory", folded[k], kept)
		}
	}
	if again := impl.FormatProgram(impl.FoldProgram(p)); again != want {
		t.Errorf("two results share memory: %q, %q", again, want)
	}
}
