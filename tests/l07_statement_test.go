package tests

import (
	"fmt"
	"maps"
	"math"
	"reflect"
	"slices"
	"strings"
	"testing"

	"loop.example/g00338/impl"
)

var noKinds = []int64{math.MinInt64, math.MinInt64 + 1, -4, -1, 0, 5, 6, 1<<32 + 1, math.MaxInt64 - 1, math.MaxInt64}
var noNexts = []int64{math.MinInt64, math.MinInt64 + 1, -8, -7, -1, 8, 9, 10, 1 << 32, math.MaxInt64 - 1, math.MaxInt64}

func issue(epoch int64, form int64, set int64) impl.Statement {
	return impl.Statement{Kind: impl.SayIssue, Epoch: epoch, Form: form, Set: set}
}

func revoke(epoch int64, form int64, set int64) impl.Statement {
	return impl.Statement{Kind: impl.SayRevoke, Epoch: epoch, Form: form, Set: set}
}

func next(epoch int64, number int64) impl.Statement {
	return impl.Statement{Kind: impl.SayNext, Epoch: epoch, Next: number}
}

func take(epoch int64, number int64) impl.Statement {
	return impl.Statement{Kind: impl.SayTake, Epoch: epoch, Next: number}
}

// statementsByText has each of the 18504 statements without a fault, by a text that is
// put together here digit by digit.
func statementsByText() map[string]impl.Statement {
	all := map[string]impl.Statement{}
	for epoch := int64(1); epoch <= 9; epoch++ {
		at := " " + string(rune('0'+epoch)) + " "
		for number := range int64(8) {
			all["next"+at+string(rune('0'+number))] = next(epoch, number)
			all["take"+at+string(rune('0'+number))] = take(epoch, number)
		}
		for form := int64(1); form <= 4; form++ {
			for set := 1; set < allSets; set++ {
				what := at + string(rune('0'+form)) + " " + textOfSet(set)
				all["issue"+what] = issue(epoch, form, int64(set))
				all["revoke"+what] = revoke(epoch, form, int64(set))
			}
		}
	}
	return all
}

// someTexts has the texts of each next and take, and those of some issues and revokes of each length.
func someTexts() []string {
	var texts []string
	for i, text := range slices.Sorted(maps.Keys(statementsByText())) {
		if i%151 == 0 || strings.HasPrefix(text, "next") || strings.HasPrefix(text, "take") {
			texts = append(texts, text)
		}
	}
	return append(texts, "issue 1 1 {1}", "issue 9 4 {1,2,3,4,5,6,7,8}", "revoke 1 4 {8}", "revoke 9 1 {1,2,3,4,5,6,7,8}")
}

func someStatements() []impl.Statement {
	all := statementsByText()
	var some []impl.Statement
	for _, text := range someTexts() {
		some = append(some, all[text])
	}
	return some
}

// wordsOf finds what 251 leaves by taking 251 away: it is asked of statements without a fault.
func wordsOf(x impl.Statement) [6]int64 {
	last := x.Kind + x.Epoch*3 + x.Form*7 + x.Set*11 + x.Next*13
	for last > 250 {
		last -= 251
	}
	return [6]int64{x.Kind, x.Epoch, x.Form, x.Set, x.Next, last}
}

func statementsByWords() map[[6]int64]impl.Statement {
	all := map[[6]int64]impl.Statement{}
	for _, x := range statementsByText() {
		all[wordsOf(x)] = x
	}
	return all
}

func numbersOfStatement(x *impl.Statement) []*int64 {
	return []*int64{&x.Kind, &x.Epoch, &x.Form, &x.Set, &x.Next}
}

// wantStatementFault asks the codes of each kind one behind the other, as they are told.
func wantStatementFault(x impl.Statement) int64 {
	if x.Kind < 1 || x.Kind > 4 {
		return impl.ErrForm
	}
	issues := x.Kind <= 2
	if issues && x.Next != 0 || !issues && (x.Form != 0 || x.Set != 0) {
		return impl.ErrForm
	}
	if x.Epoch < 1 || x.Epoch > 9 {
		return impl.ErrRange
	}
	if issues && (x.Form < 1 || x.Form > 4 || x.Set < 1 || x.Set > 255) {
		return impl.ErrRange
	}
	if x.Next < 0 || x.Next > 7 {
		return impl.ErrRange
	}
	return impl.OK
}

// checkStatement asks every function that tells the fault of a statement.
func checkStatement(t *testing.T, x impl.Statement, want int64) {
	t.Helper()
	if got := impl.StatementFault(x); got != want {
		t.Errorf("StatementFault(%+v) = %d, want %d", x, got, want)
	}
	text, words := impl.StatementText(x), impl.PackStatement(x)
	if text.Code != want || words.Code != want {
		t.Errorf("%+v: codes %d and %d, want %d", x, text.Code, words.Code, want)
	}
	if want != impl.OK && (text.Text != "" || len(words.List) != 0) {
		t.Errorf("%+v: %q and %v beside a code", x, text.Text, words.List)
	}
	if want == impl.OK {
		return
	}
	good := issue(1, 1, 1)
	if impl.ClashStatements([]int64{15}, x, good) || impl.ClashStatements([]int64{15}, good, x) || impl.ClashStatements([]int64{15}, x, x) {
		t.Errorf("%+v has a fault and clashes", x)
	}
}

func TestSayConstants(t *testing.T) {
	got := []int64{impl.SayIssue, impl.SayRevoke, impl.SayNext, impl.SayTake}
	if !slices.Equal(got, []int64{1, 2, 3, 4}) {
		t.Errorf("kinds are %v", got)
	}
}

func TestStatementIsReadBack(t *testing.T) { // P8
	all := statementsByText()
	if len(all) != 2*9*4*255+2*9*8 || len(statementsByWords()) != len(all) {
		t.Fatalf("there are %d statements", len(all))
	}
	for text, x := range all {
		if code := impl.StatementFault(x); code != impl.OK {
			t.Fatalf("StatementFault(%+v) = %d", x, code)
		}
		told, packed := impl.StatementText(x), impl.PackStatement(x)
		if told != (impl.TextResult{Text: text}) {
			t.Fatalf("StatementText(%+v) = %+v, want %q", x, told, text)
		}
		if want := wordsOf(x); packed.Code != impl.OK || !slices.Equal(packed.List, want[:]) {
			t.Fatalf("PackStatement(%+v) = %+v, want %v", x, packed, want)
		}
		want := impl.StatementResult{Statement: x}
		if got := impl.ParseStatement(told.Text); got != want {
			t.Fatalf("ParseStatement(%q) = %+v", told.Text, got)
		}
		if got := impl.UnpackStatement(packed.List); got != want {
			t.Fatalf("UnpackStatement(%v) = %+v", packed.List, got)
		}
	}
}

func TestStatementsByHand(t *testing.T) { // P8
	cases := []struct {
		x     impl.Statement
		text  string
		words []int64
	}{
		{issue(1, 2, 5), "issue 1 2 {1,3}", []int64{1, 1, 2, 5, 0, 73}},
		{issue(1, 1, 1), "issue 1 1 {1}", []int64{1, 1, 1, 1, 0, 22}},
		{issue(9, 4, 255), "issue 9 4 {1,2,3,4,5,6,7,8}", []int64{1, 9, 4, 255, 0, 100}},
		{issue(1, 3, 20), "issue 1 3 {3,5}", []int64{1, 1, 3, 20, 0, 245}},
		{revoke(2, 1, 128), "revoke 2 1 {8}", []int64{2, 2, 1, 128, 0, 168}},
		{revoke(9, 4, 254), "revoke 9 4 {2,3,4,5,6,7,8}", []int64{2, 9, 4, 254, 0, 90}},
		{next(1, 0), "next 1 0", []int64{3, 1, 0, 0, 0, 6}},
		{next(9, 7), "next 9 7", []int64{3, 9, 0, 0, 7, 121}},
		{take(1, 2), "take 1 2", []int64{4, 1, 0, 0, 2, 33}},
		{take(9, 0), "take 9 0", []int64{4, 9, 0, 0, 0, 31}},
	}
	for _, c := range cases {
		if got := impl.StatementText(c.x); got != (impl.TextResult{Text: c.text}) {
			t.Errorf("StatementText(%+v) = %+v, want %q", c.x, got, c.text)
		}
		if got := impl.PackStatement(c.x); got.Code != impl.OK || !slices.Equal(got.List, c.words) {
			t.Errorf("PackStatement(%+v) = %+v, want %v", c.x, got, c.words)
		}
		want := impl.StatementResult{Statement: c.x}
		if got := impl.ParseStatement(c.text); got != want {
			t.Errorf("ParseStatement(%q) = %+v, want %+v", c.text, got, c.x)
		}
		if got := impl.UnpackStatement(c.words); got != want {
			t.Errorf("UnpackStatement(%v) = %+v, want %+v", c.words, got, c.x)
		}
	}
}

func TestWhereTheSumOfWordsIsAMultiple(t *testing.T) { // the last word goes from 0 to 250, no further
	lasts := map[int64]bool{}
	for words, x := range statementsByWords() {
		got := impl.PackStatement(x).List
		if got[5] != words[5] || got[5] < 0 || got[5] > 250 {
			t.Fatalf("PackStatement(%+v) = %v, want %v", x, got, words)
		}
		lasts[got[5]] = true
	}
	if !lasts[0] || !lasts[250] || len(lasts) != 251 {
		t.Errorf("there are %d last words", len(lasts))
	}
}

type statementCase struct {
	name string
	x    impl.Statement
	want int64
}

// wrongStatements has each code by hand, and which one comes first where several would do.
func wrongStatements() []statementCase {
	return []statementCase{
		{"nothing", impl.Statement{}, impl.ErrForm},
		{"kind 0", impl.Statement{Epoch: 1, Form: 1, Set: 1}, impl.ErrForm},
		{"kind 5", impl.Statement{Kind: 5, Epoch: 1, Next: 1}, impl.ErrForm},
		{"kind 5 and epoch 0", impl.Statement{Kind: 5}, impl.ErrForm},
		{"an issue with a next", impl.Statement{Kind: impl.SayIssue, Epoch: 1, Form: 1, Set: 1, Next: 1}, impl.ErrForm},
		{"an issue with a next out of bounds", impl.Statement{Kind: impl.SayIssue, Epoch: 1, Form: 1, Set: 1, Next: -1}, impl.ErrForm},
		{"a revoke with a next", impl.Statement{Kind: impl.SayRevoke, Epoch: 1, Form: 1, Set: 1, Next: 7}, impl.ErrForm},
		{"a next with a form", impl.Statement{Kind: impl.SayNext, Epoch: 1, Form: 1, Next: 1}, impl.ErrForm},
		{"a next with a set", impl.Statement{Kind: impl.SayNext, Epoch: 1, Set: 1, Next: 1}, impl.ErrForm},
		{"a next with a number that is no set", impl.Statement{Kind: impl.SayNext, Epoch: 1, Set: 256, Next: 1}, impl.ErrForm},
		{"a take with a form", impl.Statement{Kind: impl.SayTake, Epoch: 1, Form: 4, Next: 1}, impl.ErrForm},
		{"a take with a set", impl.Statement{Kind: impl.SayTake, Epoch: 1, Set: 255, Next: 1}, impl.ErrForm},
		{"a next with a form and a set", impl.Statement{Kind: impl.SayNext, Epoch: 1, Form: 1, Set: 1}, impl.ErrForm},
		{"a take with a form and a set alone", impl.Statement{Kind: impl.SayTake, Form: 1, Set: 1}, impl.ErrForm},
		{"an issue with a next, of epoch 0", impl.Statement{Kind: impl.SayIssue, Form: 1, Set: 1, Next: 1}, impl.ErrForm},
		{"an issue with a next, of no set", impl.Statement{Kind: impl.SayIssue, Epoch: 1, Form: 1, Next: 1}, impl.ErrForm},
		{"a next with a set, of next 8", impl.Statement{Kind: impl.SayNext, Epoch: 1, Set: 1, Next: 8}, impl.ErrForm},
		{"an issue of epoch 0", issue(0, 1, 1), impl.ErrRange},
		{"an issue of epoch 10", issue(10, 1, 1), impl.ErrRange},
		{"an issue of form 0", issue(1, 0, 1), impl.ErrRange},
		{"an issue of form 5", issue(1, 5, 1), impl.ErrRange},
		{"an issue of the empty set", issue(1, 1, 0), impl.ErrRange},
		{"an issue of set 256", issue(1, 1, 256), impl.ErrRange},
		{"a revoke of the empty set", revoke(1, 1, 0), impl.ErrRange},
		{"a revoke of set -1", revoke(1, 1, -1), impl.ErrRange},
		{"a kind alone", impl.Statement{Kind: impl.SayIssue}, impl.ErrRange},
		{"a next of epoch 0", next(0, 1), impl.ErrRange},
		{"a take of epoch 10", take(10, 1), impl.ErrRange},
		{"a next of next 8", next(1, 8), impl.ErrRange},
		{"a take of next -1", take(1, -1), impl.ErrRange},
	}
}

func TestWrongStatements(t *testing.T) {
	for _, c := range wrongStatements() {
		if got := impl.StatementFault(c.x); got != c.want {
			t.Errorf("%s: %d, want %d", c.name, got, c.want)
		}
		checkStatement(t, c.x, c.want)
	}
}

func TestStatementFaultAtTheEdges(t *testing.T) {
	for _, kind := range []int64{-1, 0, 1, 2, 3, 4, 5} {
		for _, epoch := range []int64{-1, 0, 1, 5, 9, 10} {
			for _, form := range []int64{-1, 0, 1, 4, 5} {
				for _, set := range []int64{-1, 0, 1, 255, 256} {
					for _, number := range []int64{-1, 0, 1, 7, 8} {
						x := impl.Statement{Kind: kind, Epoch: epoch, Form: form, Set: set, Next: number}
						checkStatement(t, x, wantStatementFault(x))
					}
				}
			}
		}
	}
}

func TestStatementFaultAtGreatNumbers(t *testing.T) {
	far := [5][]int64{noKinds, noEpochs, noForms, noSets, noNexts}
	for _, good := range someStatements() {
		for place, numbers := range far {
			for _, n := range numbers {
				x := good
				*numbersOfStatement(&x)[place] = n
				checkStatement(t, x, wantStatementFault(x))
			}
		}
	}
	for _, n := range []int64{math.MinInt64, -1, math.MaxInt64} {
		checkStatement(t, impl.Statement{Kind: n, Epoch: n, Form: n, Set: n, Next: n}, impl.ErrForm)
		checkStatement(t, issue(n, n, n), impl.ErrRange)
		checkStatement(t, next(n, n), impl.ErrRange)
	}
}

func TestStatementsOfAnotherKind(t *testing.T) { // what one kind has is not what the other has
	for _, good := range someStatements() {
		for kind := int64(1); kind <= 4; kind++ {
			x := good
			x.Kind = kind
			checkStatement(t, x, wantStatementFault(x))
		}
	}
}

func unreadable(t *testing.T, text string) {
	t.Helper()
	if got := impl.ParseStatement(text); got != (impl.StatementResult{Code: impl.ErrText}) {
		t.Errorf("ParseStatement(%.60q) = %+v", text, got)
	}
}

func TestTextsThatAreNoStatements(t *testing.T) { // P8
	texts := []string{
		"", " ", "  ", "   ", "\n", "\x00", "{1}", "1", "0 1 1 {1}", "1 1 1 {1}", "3 1 1",
		"issue", "issue ", "issue 1", "issue 1 1", "issue 1 1 ", "issue  1 1 {1}", "issue 1  1 {1}", "issue 1 1  {1}",
		" issue 1 1 {1}", "issue 1 1 {1} ", "issue 1 1 {1}\n", "\nissue 1 1 {1}", "issue 1 1 {1}\r\n", "issue\t1 1 {1}", "issue 1\n1 {1}",
		"issue 1 1 {1} {1}", "issue 1 1 1 {1}", "issue 1 1 {1} 1", "issue 1 1 {1} 0", "issue {1} 1 1", "issue 1 {1} 1", "1 issue 1 {1}",
		"Issue 1 1 {1}", "ISSUE 1 1 {1}", "issues 1 1 {1}", "issu 1 1 {1}", "say 1 1 {1}", "issue1 1 {1}", "issue1 1 1 {1}", "issue,1,1,{1}",
		"issue 0 1 {1}", "issue 10 1 {1}", "issue 01 1 {1}", "issue +1 1 {1}", "issue -1 1 {1}", "issue 1.0 1 {1}", "issue 1e0 1 {1}", "issue 0x1 1 {1}", "issue 1_0 1 {1}", "issue x 1 {1}",
		"issue 1 0 {1}", "issue 1 5 {1}", "issue 1 01 {1}", "issue 1 +1 {1}", "issue 1 -1 {1}", "issue 1 10 {1}", "issue 1 \u0661 {1}", "issue \uff11 1 {1}",
		"issue 1 1 {}", "issue 1 1 {0}", "issue 1 1 {9}", "issue 1 1 {2,1}", "issue 1 1 {1,1}", "issue 1 1 {1,}", "issue 1 1 {,1}", "issue 1 1 {1, 2}", "issue 1 1 {1 2}", "issue 1 1 { 1}", "issue 1 1 {01}",
		"issue 1 1 1", "issue 1 1 {1", "issue 1 1 1}", "issue 1 1 (1)", "issue 1 1 {1}}", "issue 1 1 {{1}}", "issue 1 1 {12}", "issue 1 1 {1;2}", "issue 1 1 {+1}",
		"revoke 1 1 {}", "revoke 1 1", "revoke 0 1 {1}", "revoke 1 5 {1}", "revoke 1 1 {1}\n", "revoked 1 1 {1}", "revoke 1 2",
		"next", "next ", "next 1", "next 1 ", "next 1 8", "next 1 9", "next 0 1", "next 10 1", "next 1 01", "next 01 1", "next 1 -1", "next 1 +1", "next 1 -0", "next 1 00", "next 1 10",
		"next 1 1 ", " next 1 1", "next  1 1", "next 1  1", "next 1 1\n", "next 1 1 1", "next 1 1 {1}", "next 1 {1}", "next 1 1 0 0", "next 1 1 0", "next 1 0 0 1", "Next 1 1",
		"take", "take 1", "take 1 8", "take 0 0", "take 1 1 {1}", "take 1 1\n", "take 1 1 1", "taken 1 1", "take -1 1", "take 1 -1",
		"issue 18446744073709551617 1 {1}", "issue 1 4294967297 {1}", "next 1 18446744073709551616", "next 9223372036854775807 1", "next -9223372036854775808 1", "next 1 99999999999999999999999999",
		"issue 1 1 {1}issue 1 1 {1}", "issue 1 1 {1}\nnext 1 1", "next 1 1next 1 1", "issue 1 1 {1}\x00", "\ufeffnext 1 1", "next 1 1\x80",
	}
	for _, text := range texts {
		unreadable(t, text)
	}
}

func TestVeryLongTextsOfNoStatement(t *testing.T) {
	for _, many := range []string{strings.Repeat("0", 100000), strings.Repeat("1", 100000), strings.Repeat(" ", 100000), strings.Repeat("{1}", 40000), strings.Repeat("1,", 50000)} {
		for _, text := range []string{many, "issue " + many + " 1 {1}", "issue 1 " + many + " {1}", "issue 1 1 " + many, "issue 1 1 {" + many + "}", "issue 1 1 {1}" + many, many + "issue 1 1 {1}", "next " + many + " 1", "next 1 " + many, "next 1 1" + many, "take" + many + "1 1"} {
			unreadable(t, text)
		}
	}
	unreadable(t, strings.Repeat("next 1 1 ", 10000))
}

func wantStatement(all map[string]impl.Statement, text string) impl.StatementResult {
	if x, ok := all[text]; ok {
		return impl.StatementResult{Statement: x}
	}
	return impl.StatementResult{Code: impl.ErrText}
}

func TestStatementTextsOneByteAway(t *testing.T) { // P8: what is read has just that text
	all := statementsByText()
	for _, text := range someTexts() {
		for at := range len(text) + 1 {
			for b := range 256 {
				put := string([]byte{byte(b)})
				near := []string{text[:at] + put + text[at:]}
				if at < len(text) {
					near = append(near, text[:at]+put+text[at+1:], text[:at]+text[at+1:], text[at:])
				}
				for _, other := range near {
					if got, want := impl.ParseStatement(other), wantStatement(all, other); got != want {
						t.Fatalf("ParseStatement(%q) = %+v, want %+v", other, got, want)
					}
				}
			}
		}
	}
}

func TestStatementTextsOfAnyWords(t *testing.T) { // P8: words of all kinds in all places, up to one too many
	all := statementsByText()
	kinds := []string{"", "issue", "revoke", "next", "take"}
	words := append(kinds, "0", "1", "4", "5", "7", "8", "9", "10", "01", "-1", "+1", "{}", "{1}", "{1,8}", "{8,1}")
	read := 0
	texts := kinds
	for range 4 {
		var longer []string
		for _, text := range texts {
			for _, word := range words {
				longer = append(longer, text+" "+word)
			}
		}
		for _, text := range longer {
			want := wantStatement(all, text)
			if got := impl.ParseStatement(text); got != want {
				t.Fatalf("ParseStatement(%q) = %+v, want %+v", text, got, want)
			}
			if want.Code == impl.OK {
				read++
			}
		}
		texts = longer
	}
	// epochs are 1, 4, 5, 7, 8, 9, forms 1, 4, sets {1}, {1,8}, and 0, 1, 4, 5, 7 may come behind
	if read != 2*6*2*2+2*6*5 {
		t.Errorf("%d texts are read", read)
	}
}

func checkUnpacked(t *testing.T, all map[[6]int64]impl.Statement, words [6]int64) {
	t.Helper()
	want := impl.StatementResult{Code: impl.ErrText}
	if x, ok := all[words]; ok {
		want = impl.StatementResult{Statement: x}
	}
	if got := impl.UnpackStatement(words[:]); got != want {
		t.Fatalf("UnpackStatement(%v) = %+v, want %+v", words, got, want)
	}
}

func wordless(t *testing.T, words []int64) {
	t.Helper()
	if got := impl.UnpackStatement(words); got != (impl.StatementResult{Code: impl.ErrText}) {
		t.Errorf("UnpackStatement(%v) = %+v", words, got)
	}
}

func TestTooFewAndTooManyWords(t *testing.T) {
	wordless(t, nil)
	wordless(t, []int64{})
	for _, x := range someStatements() {
		words := wordsOf(x)
		for count := range 6 {
			wordless(t, words[:count]) // also where the words that are missing stand behind its end
			wordless(t, words[6-count:])
		}
		for _, more := range []int64{0, 1, words[5], math.MinInt64} {
			wordless(t, append(words[:6:6], more))
			wordless(t, append([]int64{more}, words[:]...))
		}
		wordless(t, append(words[:6:6], words[:]...))
		wordless(t, slices.Repeat(words[:], 20))
	}
	for count := range 30 {
		wordless(t, make([]int64, count))
	}
	wordless(t, make([]int64, 100000))
}

func TestEveryLastWord(t *testing.T) { // P8: what is read has just these words
	all := statementsByWords()
	for _, x := range someStatements() {
		words := wordsOf(x)
		right := words[5]
		for last := int64(-600); last <= 3000; last++ {
			words[5] = last
			checkUnpacked(t, all, words)
		}
		for _, far := range []int64{math.MinInt64, math.MaxInt64, right + 251<<32, right - 251<<32, right + 1<<32, right + 256, -right - 1} {
			words[5] = far
			checkUnpacked(t, all, words)
		}
	}
}

func TestWordsOneNumberAway(t *testing.T) { // P8
	all := statementsByWords()
	numbers := append([]int64{-251, -250, -1, 0, 1, 2, 3, 4, 5, 7, 8, 9, 10, 250, 251, 252, 255, 256, 502}, noSets...)
	for _, x := range someStatements() {
		for place := range 6 {
			for _, n := range numbers {
				words := wordsOf(x)
				words[place] = n
				checkUnpacked(t, all, words)
				words = wordsOf(x)
				words[place] += n // by an overflow a word may come to what is far off
				checkUnpacked(t, all, words)
			}
			for other := range place {
				words := wordsOf(x)
				words[place], words[other] = words[other], words[place]
				checkUnpacked(t, all, words)
			}
		}
	}
}

func TestWordsOfStatementsWithAFault(t *testing.T) { // the last word is right, the others are not
	all := statementsByWords()
	try := func(x impl.Statement) {
		sum := x.Kind + 3*x.Epoch + 7*x.Form + 11*x.Set + 13*x.Next
		for _, last := range []int64{sum % 251, (sum%251 + 251) % 251, sum, 0} {
			checkUnpacked(t, all, [6]int64{x.Kind, x.Epoch, x.Form, x.Set, x.Next, last})
		}
	}
	for _, c := range wrongStatements() {
		try(c.x)
	}
	for kind := int64(-1); kind <= 6; kind++ {
		for epoch := int64(-1); epoch <= 11; epoch++ {
			for form := int64(-1); form <= 6; form++ {
				for _, set := range []int64{-1, 0, 1, 2, 128, 255, 256, 257} {
					for number := int64(-1); number <= 9; number++ {
						try(impl.Statement{Kind: kind, Epoch: epoch, Form: form, Set: set, Next: number})
					}
				}
			}
		}
	}
	for _, good := range someStatements() {
		for place, numbers := range [5][]int64{noKinds, noEpochs, noForms, noSets, noNexts} {
			for _, n := range numbers {
				x := good
				*numbersOfStatement(&x)[place] = n
				try(x)
			}
		}
	}
}

func haveCommon(a int64, b int64) bool {
	return slices.ContainsFunc(listOfSet(int(a)), func(p int64) bool {
		return slices.Contains(listOfSet(int(b)), p)
	})
}

// wantStatementsClash is asked where nothing has a fault.
func wantStatementsClash(classes []int64, a impl.Statement, b impl.Statement) bool {
	if a.Epoch != b.Epoch || a.Kind != b.Kind {
		return false
	}
	if a.Kind == 1 {
		return wantClash(classes, a.Form, b.Form) && haveCommon(a.Set, b.Set)
	}
	return a.Kind != 2 && a.Next != b.Next
}

func checkClash(t *testing.T, classes []int64, a impl.Statement, b impl.Statement, want bool) {
	t.Helper()
	if got := impl.ClashStatements(classes, a, b); got != want {
		t.Errorf("ClashStatements(%v, %+v, %+v) = %v", classes, a, b, got)
	}
	if got := impl.ClashStatements(classes, b, a); got != want {
		t.Errorf("ClashStatements(%v, %+v, %+v) = %v, in the other order", classes, b, a, got)
	}
}

func TestClashStatementsByHand(t *testing.T) {
	one := []int64{3}
	cases := []struct {
		name    string
		classes []int64
		a, b    impl.Statement
		want    bool
	}{
		{"two forms of one class for one", one, issue(1, 1, 1), issue(1, 2, 1), true},
		{"with one in common", one, issue(1, 1, 5), issue(1, 2, 6), true},
		{"the last one in common", one, issue(9, 1, 128), issue(9, 2, 255), true},
		{"none in common", one, issue(1, 1, 5), issue(1, 2, 10), false},
		{"two epochs", one, issue(1, 1, 1), issue(2, 2, 1), false},
		{"one form", one, issue(1, 1, 1), issue(1, 1, 3), false},
		{"one statement", one, issue(1, 1, 1), issue(1, 1, 1), false},
		{"forms of no class", one, issue(1, 1, 1), issue(1, 3, 1), false},
		{"forms of two classes", []int64{1, 2}, issue(1, 1, 1), issue(1, 2, 1), false},
		{"forms of the second class", []int64{4, 12}, issue(1, 3, 1), issue(1, 4, 1), true},
		{"forms of the last class", []int64{1, 2, 4, 9}, issue(1, 1, 1), issue(1, 4, 1), true},
		{"no classes", nil, issue(1, 1, 1), issue(1, 2, 1), false},
		{"empty classes", []int64{0, 0, 0, 0}, issue(1, 1, 1), issue(1, 2, 1), false},
		{"an issue and its revoke", []int64{15}, issue(1, 1, 1), revoke(1, 1, 1), false},
		{"an issue and a revoke of the other form", []int64{15}, issue(1, 1, 1), revoke(1, 2, 1), false},
		{"two revokes", []int64{15}, revoke(1, 1, 1), revoke(1, 2, 1), false},
		{"an issue and a next", []int64{15}, issue(1, 1, 1), next(1, 1), false},
		{"a revoke and a take", []int64{15}, revoke(1, 1, 1), take(1, 1), false},
		{"two nexts", nil, next(1, 0), next(1, 1), true},
		{"two nexts with classes", one, next(1, 7), next(1, 0), true},
		{"the same next", one, next(1, 1), next(1, 1), false},
		{"nexts of two epochs", one, next(1, 1), next(2, 2), false},
		{"two takes", nil, take(9, 0), take(9, 7), true},
		{"the same take", nil, take(9, 7), take(9, 7), false},
		{"takes of two epochs", one, take(1, 1), take(2, 2), false},
		{"a next and the take of it", one, next(1, 1), take(1, 1), false},
		{"a next and another take", one, next(1, 1), take(1, 2), false},
		{"too many classes", []int64{3, 3, 3, 3, 3}, issue(1, 1, 1), issue(1, 2, 1), false},
		{"a class that is none", []int64{3, 16}, issue(1, 1, 1), issue(1, 2, 1), false},
		{"too many classes of nexts", []int64{0, 0, 0, 0, 0}, next(1, 0), next(1, 1), false},
		{"a class that is none of nexts", []int64{-1}, next(1, 0), next(1, 1), false},
		{"a class that is none of takes", []int64{3, 3, 3, 16}, take(1, 0), take(1, 1), false},
		{"an epoch that is none", one, issue(0, 1, 1), issue(0, 2, 1), false},
		{"an epoch that is none of nexts", one, next(10, 0), next(10, 1), false},
		{"a next that is none", one, next(1, 0), next(1, 8), false},
		{"takes that are none", one, take(1, -1), take(1, 8), false},
		{"a form that is none", []int64{15}, issue(1, 1, 1), issue(1, 5, 1), false},
		{"a set that is none", one, issue(1, 1, 1), issue(1, 2, 257), false},
		{"all sets that are none", one, issue(1, 1, -1), issue(1, 2, -1), false},
		{"a next with a form", one, next(1, 1), impl.Statement{Kind: impl.SayNext, Epoch: 1, Form: 1, Next: 2}, false},
		{"a take with a set", one, take(1, 1), impl.Statement{Kind: impl.SayTake, Epoch: 1, Set: 1, Next: 2}, false},
		{"an issue with a next", one, issue(1, 1, 1), impl.Statement{Kind: impl.SayIssue, Epoch: 1, Form: 2, Set: 1, Next: 1}, false},
		{"kinds that are none", one, impl.Statement{Kind: 5, Epoch: 1, Next: 1}, impl.Statement{Kind: 5, Epoch: 1, Next: 2}, false},
	}
	for _, c := range cases {
		t.Run(c.name, func(t *testing.T) {
			checkClash(t, c.classes, c.a, c.b, c.want)
		})
	}
}

func (d *dice) statement() impl.Statement {
	epoch := d.below(2) + 1
	switch kind := d.below(7); kind {
	case 0:
		return revoke(epoch, d.below(4)+1, d.below(255)+1)
	case 1:
		return next(epoch, d.below(3))
	case 2:
		return take(epoch, d.below(3))
	}
	return issue(epoch, d.below(4)+1, d.below(255)&d.below(256)|1<<d.below(8))
}

func TestManyClashes(t *testing.T) {
	d := dice(71)
	clashes := 0
	for range 60000 {
		classes, a, b := d.classes(), d.statement(), d.statement()
		want := wantStatementsClash(classes, a, b)
		checkClash(t, classes, a, b, want)
		checkClash(t, classes, a, a, false)
		if want {
			clashes++
		}
	}
	if clashes < 2000 {
		t.Errorf("only %d of them clash", clashes)
	}
}

func TestNoStatementClashesWithItself(t *testing.T) {
	for _, x := range statementsByText() {
		if impl.ClashStatements([]int64{15, 15, 15, 15}, x, x) {
			t.Fatalf("%+v clashes with itself", x)
		}
	}
}

func TestEveryTwoFormsAndKindsClash(t *testing.T) {
	for class := range int64(16) {
		for forms := range int64(16) {
			a, b := issue(3, forms/4+1, 6), issue(3, forms%4+1, 3)
			checkClash(t, []int64{class}, a, b, wantClash([]int64{class}, a.Form, b.Form))
			a.Set, b.Set = 240, 15
			checkClash(t, []int64{class}, a, b, false)
		}
	}
	for numbers := range int64(64) {
		checkClash(t, nil, next(4, numbers/8), next(4, numbers%8), numbers/8 != numbers%8)
		checkClash(t, nil, take(4, numbers/8), take(4, numbers%8), numbers/8 != numbers%8)
		checkClash(t, nil, next(4, numbers/8), take(4, numbers%8), false)
	}
	for epochs := range int64(81) {
		one, two := epochs/9+1, epochs%9+1
		checkClash(t, []int64{3}, issue(one, 1, 1), issue(two, 2, 1), one == two)
		checkClash(t, nil, next(one, 0), next(two, 1), one == two)
		checkClash(t, nil, take(one, 0), take(two, 1), one == two)
	}
}

func TestEverySetInCommon(t *testing.T) {
	for a := int64(1); a < allSets; a++ {
		for b := int64(1); b < allSets; b += 3 {
			checkClash(t, []int64{3}, issue(1, 1, a), issue(1, 2, b), haveCommon(a, b))
		}
	}
}

func TestClassesWithAFaultAndStatements(t *testing.T) {
	pairs := [][2]impl.Statement{{issue(1, 1, 1), issue(1, 2, 1)}, {next(1, 0), next(1, 1)}, {take(1, 0), take(1, 1)}}
	for _, pair := range pairs {
		checkClash(t, []int64{3, 15, 0, 1}, pair[0], pair[1], true)
		checkClash(t, []int64{3, 15, 0, 1, 3}, pair[0], pair[1], false)
		for _, n := range noClasses {
			for place := range 4 {
				classes := []int64{15, 15, 15, 15}
				classes[place] = n
				checkClash(t, classes, pair[0], pair[1], false)
			}
		}
	}
}

func wordsToKeep() [][]int64 {
	lists := [][]int64{nil, {}, {1}, {1, 1, 2, 5, 0}, {1, 1, 2, 5, 0, 74}, {1, 1, 2, 5, 0, 73, 0}, {math.MinInt64, math.MaxInt64, 0, 0, 0, 0}, make([]int64, 40)}
	for _, x := range someStatements()[:20] {
		words := wordsOf(x)
		lists = append(lists, words[:])
	}
	return lists
}

func classesToKeep() [][]int64 {
	return [][]int64{nil, {}, {3}, {9, 3}, {15, 3, 1, 0}, {15, 3, 1, 16}, {3, 3, 3, 3, 3}, {math.MinInt64, 3}}
}

func statementsToKeep() []impl.Statement {
	all := append(someStatements()[:40], issue(1, 1, 1), issue(1, 2, 3), next(1, 0), take(1, 5))
	for _, c := range wrongStatements() {
		all = append(all, c.x)
	}
	return all
}

func TestWordsAndClassesHandedInAreUnchanged(t *testing.T) { // P1
	marked := func(list []int64) ([]int64, []int64) {
		backing := append(slices.Clone(list), 77, 78)
		return backing, backing[:len(list)]
	}
	for _, words := range wordsToKeep() {
		backing, given := marked(words)
		impl.UnpackStatement(given)
		if want, _ := marked(words); !slices.Equal(backing, want) {
			t.Errorf("UnpackStatement changed %v to %v", words, backing)
		}
	}
	for _, classes := range classesToKeep() {
		for _, a := range statementsToKeep() {
			backing, given := marked(classes)
			b := issue(1, 2, 3)
			before := a
			impl.ClashStatements(given, a, b)
			if want, _ := marked(classes); !slices.Equal(backing, want) || a != before || b != issue(1, 2, 3) {
				t.Errorf("ClashStatements changed %v to %v", classes, backing)
			}
		}
	}
}

func answersOfStatement(x impl.Statement, text string, words []int64) []any {
	all := []any{impl.StatementFault(x), impl.StatementText(x), impl.PackStatement(x), impl.ParseStatement(text), impl.UnpackStatement(words)}
	for _, classes := range classesToKeep() {
		all = append(all, impl.ClashStatements(classes, x, issue(1, 2, 3)), impl.ClashStatements(classes, next(1, 2), x))
	}
	return all
}

func TestSameStatementsSameAnswers(t *testing.T) { // P1: nothing is kept, also behind what cannot be read
	given := statementsToKeep()
	texts := append(someTexts(), "", "issue", "next 1 8")
	lists := wordsToKeep()
	answers := func(i int) []any {
		return answersOfStatement(given[i], texts[i%len(texts)], lists[i%len(lists)])
	}
	var first [][]any
	for i := range given {
		first = append(first, answers(i))
	}
	for i := range slices.Backward(given) {
		if again := answers(i); !reflect.DeepEqual(first[i], again) {
			t.Errorf("%+v: first %v, then %v", given[i], first[i], again)
		}
	}
}

func TestWordsShareNoMemory(t *testing.T) { // P1
	for _, x := range someStatements() {
		want := wordsOf(x)
		one, two := impl.PackStatement(x).List, impl.PackStatement(x).List
		spoil(one, -7)
		if !slices.Equal(two, want[:]) || !slices.Equal(impl.PackStatement(x).List, want[:]) {
			t.Fatalf("words of %+v share memory", x)
		}
		read := impl.UnpackStatement(two)
		spoil(two, -7)
		if read != (impl.StatementResult{Statement: x}) {
			t.Fatalf("%+v was read, and changes with its words to %+v", x, read)
		}
	}
}

func TestNoWordsAndNoClassesAreTheSameAsNil(t *testing.T) { // P1
	if a, b := impl.UnpackStatement(nil), impl.UnpackStatement([]int64{}); a != b {
		t.Errorf("%+v and %+v", a, b)
	}
	for _, x := range statementsToKeep() {
		for _, y := range []impl.Statement{issue(1, 1, 1), next(1, 1), take(1, 1)} {
			if impl.ClashStatements(nil, x, y) != impl.ClashStatements([]int64{}, x, y) {
				t.Errorf("%+v and %+v clash by nil alone, or by no classes alone", x, y)
			}
		}
	}
}

func TestAnswersOfWrongStatementsAreZero(t *testing.T) { // P1: beside a code
	for _, c := range wrongStatements() {
		answers := fmt.Sprint(impl.StatementText(c.x), impl.PackStatement(c.x))
		if want := fmt.Sprint(impl.TextResult{Code: c.want}, impl.IntsResult{Code: c.want}); answers != want {
			t.Errorf("%s: %s, want %s", c.name, answers, want)
		}
	}
}
