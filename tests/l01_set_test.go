package tests

import (
	"math"
	"reflect"
	"slices"
	"strings"
	"testing"

	"loop.example/g00338/impl"
)

const allSets = 256

var noSets = []int64{math.MinInt64, math.MinInt64 + 1, -256, -255, -1, 256, 257, 511, 512, 1 << 32, math.MaxInt64 - 1, math.MaxInt64}
var noPrincipals = []int64{math.MinInt64, math.MinInt64 + 1, -8, -1, 0, 9, 10, 64, 65, 1 << 32, math.MaxInt64 - 1, math.MaxInt64}

// listOfSet and textOfSet are written anew here, by halving, so that they share no fault with the program.
func listOfSet(set int) []int64 {
	var list []int64
	for p := int64(1); set > 0; p++ {
		if set%2 == 1 {
			list = append(list, p)
		}
		set /= 2
	}
	return list
}

func textOfSet(set int) string {
	text := "{"
	for i, p := range listOfSet(set) {
		if i > 0 {
			text += ","
		}
		text += string(rune('0' + p))
	}
	return text + "}"
}

func setsByText() map[string]int64 {
	sets := map[string]int64{}
	for set := range allSets {
		sets[textOfSet(set)] = int64(set)
	}
	return sets
}

func repeated(principal int64, times int) []int64 {
	return slices.Repeat([]int64{principal}, times)
}

func TestCodesAndBounds(t *testing.T) {
	got := []int64{impl.OK, impl.ErrForm, impl.ErrMany, impl.ErrRange, impl.ErrNone, impl.ErrText, impl.ErrTaken, impl.ErrSign, impl.ErrPolicy, impl.ErrOld, impl.ErrState}
	for number, code := range got {
		if code != int64(number) {
			t.Errorf("code %d is %d", number, code)
		}
	}
	if impl.MaxPrincipal != 8 {
		t.Errorf("MaxPrincipal is %d", impl.MaxPrincipal)
	}
}

func TestSetIsReadBack(t *testing.T) { // P2
	for set := range int64(allSets) {
		if got := impl.SetOf(impl.ListOf(set).List); got != (impl.IntResult{Value: set}) {
			t.Errorf("%d by its list: %+v", set, got)
		}
		if got := impl.ParseSet(impl.SetText(set).Text); got != (impl.IntResult{Value: set}) {
			t.Errorf("%d by its text: %+v", set, got)
		}
	}
}

func TestEverySet(t *testing.T) {
	for set := range allSets {
		want := listOfSet(set)
		if code := impl.SetFault(int64(set)); code != impl.OK {
			t.Errorf("SetFault(%d) = %d", set, code)
		}
		if got := impl.ListOf(int64(set)); got.Code != impl.OK || !slices.Equal(got.List, want) {
			t.Errorf("ListOf(%d) = %+v, want %v", set, got, want)
		}
		if got := impl.SizeOf(int64(set)); got != (impl.IntResult{Value: int64(len(want))}) {
			t.Errorf("SizeOf(%d) = %+v", set, got)
		}
		if got := impl.SetText(int64(set)); got != (impl.TextResult{Text: textOfSet(set)}) {
			t.Errorf("SetText(%d) = %+v", set, got)
		}
		for p := int64(-2); p <= 12; p++ {
			if got := impl.InSet(int64(set), p); got != slices.Contains(want, p) {
				t.Errorf("InSet(%d, %d) = %v", set, p, got)
			}
		}
	}
}

func TestEdgesOfSets(t *testing.T) {
	if got := impl.ListOf(0); got.Code != impl.OK || len(got.List) != 0 {
		t.Errorf("ListOf the empty set: %+v", got)
	}
	if got := impl.SetText(0); got != (impl.TextResult{Text: "{}"}) {
		t.Errorf("SetText of the empty set: %+v", got)
	}
	if got := impl.SetText(255); got != (impl.TextResult{Text: "{1,2,3,4,5,6,7,8}"}) {
		t.Errorf("SetText of all: %+v", got)
	}
	if got := impl.SizeOf(255); got != (impl.IntResult{Value: 8}) {
		t.Errorf("SizeOf all: %+v", got)
	}
	for p, want := range map[int64]bool{0: false, 1: true, 8: true, 9: false} {
		if got := impl.InSet(255, p); got != want {
			t.Errorf("InSet(255, %d) = %v", p, got)
		}
	}
}

func TestNumbersThatAreNoSets(t *testing.T) { // P1: beside a code all else is zero
	for _, set := range noSets {
		if code := impl.SetFault(set); code != impl.ErrRange {
			t.Errorf("SetFault(%d) = %d", set, code)
		}
		if got := impl.ListOf(set); got.Code != impl.ErrRange || len(got.List) != 0 {
			t.Errorf("ListOf(%d) = %+v", set, got)
		}
		if got := impl.SizeOf(set); got != (impl.IntResult{Code: impl.ErrRange}) {
			t.Errorf("SizeOf(%d) = %+v", set, got)
		}
		if got := impl.SetText(set); got != (impl.TextResult{Code: impl.ErrRange}) {
			t.Errorf("SetText(%d) = %+v", set, got)
		}
		for p := int64(0); p <= 9; p++ {
			if impl.InSet(set, p) {
				t.Errorf("InSet(%d, %d)", set, p)
			}
		}
	}
}

func TestNumbersThatAreNoPrincipals(t *testing.T) {
	for _, p := range noPrincipals {
		if impl.InSet(255, p) || impl.InSet(0, p) {
			t.Errorf("InSet has %d", p)
		}
		for _, list := range [][]int64{{p}, {1, p}, {p, 8}, append(repeated(1, 19), p)} {
			if got := impl.SetOf(list); got != (impl.IntResult{Code: impl.ErrRange}) {
				t.Errorf("SetOf(%v) = %+v", list, got)
			}
		}
	}
}

func TestSetOf(t *testing.T) {
	cases := []struct {
		list []int64
		want impl.IntResult
	}{
		{nil, impl.IntResult{}},
		{[]int64{}, impl.IntResult{}},
		{[]int64{1}, impl.IntResult{Value: 1}},
		{[]int64{8}, impl.IntResult{Value: 128}},
		{[]int64{8, 1}, impl.IntResult{Value: 129}},
		{[]int64{3, 1, 3}, impl.IntResult{Value: 5}},
		{[]int64{8, 7, 6, 5, 4, 3, 2, 1}, impl.IntResult{Value: 255}},
		{repeated(2, 20), impl.IntResult{Value: 2}},
		{append(repeated(1, 19), 8), impl.IntResult{Value: 129}},
		{repeated(2, 21), impl.IntResult{Code: impl.ErrMany}},
		{append(repeated(9, 1), repeated(1, 20)...), impl.IntResult{Code: impl.ErrMany}},
		{repeated(0, 21), impl.IntResult{Code: impl.ErrMany}},
		{repeated(1, 5000), impl.IntResult{Code: impl.ErrMany}},
		{repeated(0, 20), impl.IntResult{Code: impl.ErrRange}},
	}
	for _, c := range cases {
		if got := impl.SetOf(c.list); got != c.want {
			t.Errorf("SetOf(%v) = %+v, want %+v", c.list, got, c.want)
		}
	}
}

func TestTextsThatAreNoSets(t *testing.T) {
	texts := []string{
		"", "{", "}", "}{", "{}}", "{{}", "{{}}", "1", "1,3", "{1", "1}", "[1]", "(1)",
		"{3,1}", "{8,7}", "{1,3,2}", "{1,1}", "{1,3,3}", "{8,8}",
		" ", " {}", "{ }", "{} ", " {1}", "{ 1}", "{1 }", "{1} ", "{1, 3}", "{1 ,3}", "{1,\t3}", "{1}\n", "\n{1}", "{1}\r\n",
		"{0}", "{9}", "{0,1}", "{8,9}", "{01}", "{1,03}", "{001}", "{10}", "{12}", "{13}", "{1,10}",
		"{+1}", "{-1}", "{1.}", "{1e0}", "{0x1}", "{a}", "{1a}", "{\u0663}", "{\uff11}", "\xff", "{\xff}", "{1\x00}", "\x00{1}",
		"{1}}", "{1}{", "{1}2", "{1},", "{1}{2}", "{1}x", "{}x", "{}{}", "{},",
		"{,}", "{,1}", "{1,}", "{1,,3}", "{1;3}", "{1.3}", "{13,}", ",{1,3}", "x{1,3}",
		"{1,2,3,4,5,6,7,8,9}", "{0,1,2,3,4,5,6,7,8}", "{1,2,3,4,5,6,7,8,8}", "{1,2,3,4,5,6,7,8}}",
		strings.Repeat("{1}", 1000), "{" + strings.Repeat("1,", 100000) + "1}", strings.Repeat("{", 100000),
	}
	for _, text := range texts {
		if got := impl.ParseSet(text); got != (impl.IntResult{Code: impl.ErrText}) {
			t.Errorf("ParseSet(%.40q) = %+v", text, got)
		}
	}
}

func wantParsed(sets map[string]int64, text string) impl.IntResult {
	if set, ok := sets[text]; ok {
		return impl.IntResult{Value: set}
	}
	return impl.IntResult{Code: impl.ErrText}
}

func TestEveryShortText(t *testing.T) {
	const letters = "{}, 01389"
	sets := setsByText()
	texts := []string{""}
	for range 6 {
		var longer []string
		for _, text := range texts {
			if got, want := impl.ParseSet(text), wantParsed(sets, text); got != want {
				t.Fatalf("ParseSet(%q) = %+v, want %+v", text, got, want)
			}
			for i := range len(letters) {
				longer = append(longer, text+letters[i:i+1])
			}
		}
		texts = longer
	}
}

func TestTextsOneByteAway(t *testing.T) {
	sets := setsByText()
	for text := range sets {
		for at := range len(text) + 1 {
			for b := range 256 {
				put := string([]byte{byte(b)})
				near := []string{text[:at] + put + text[at:]}
				if at < len(text) {
					near = append(near, text[:at]+put+text[at+1:], text[:at]+text[at+1:])
				}
				for _, other := range near {
					if got, want := impl.ParseSet(other), wantParsed(sets, other); got != want {
						t.Fatalf("ParseSet(%q) = %+v, want %+v", other, got, want)
					}
				}
			}
		}
	}
}

func TestListHandedInIsUnchanged(t *testing.T) { // P1
	lists := [][]int64{{}, {3, 1, 3}, {8, 7, 6}, {1, 9}, {math.MinInt64, math.MaxInt64}, repeated(2, 20), repeated(2, 21)}
	for _, list := range lists {
		backing := append(slices.Clone(list), 77, 78)
		given := backing[:len(list)]
		impl.SetOf(given)
		if !slices.Equal(given, list) || backing[len(list)] != 77 || backing[len(list)+1] != 78 {
			t.Errorf("SetOf changed %v to %v", list, backing)
		}
	}
}

func answersOfSets(number int64, list []int64, text string) []any {
	return []any{
		impl.SetFault(number), impl.SetOf(list), impl.ListOf(number), impl.SizeOf(number),
		impl.InSet(number, 3), impl.InSet(255, number), impl.SetText(number), impl.ParseSet(text),
	}
}

func TestSameArgumentsSameAnswers(t *testing.T) { // P1: nothing is kept from call to call
	numbers := append([]int64{0, 1, 5, 128, 255}, noSets...)
	var first [][]any
	for _, n := range numbers {
		first = append(first, answersOfSets(n, []int64{n, 1}, textOfSet(int(n&255))))
	}
	for i, n := range slices.Backward(numbers) {
		if again := answersOfSets(n, []int64{n, 1}, textOfSet(int(n&255))); !reflect.DeepEqual(first[i], again) {
			t.Errorf("%d: first %v, then %v", n, first[i], again)
		}
	}
}

func TestAnswersShareNoMemory(t *testing.T) { // P1
	for set := range allSets {
		one, two := impl.ListOf(int64(set)).List, impl.ListOf(int64(set)).List
		spoil(one, -7)
		if want := listOfSet(set); !slices.Equal(two, want) || !slices.Equal(impl.ListOf(int64(set)).List, want) {
			t.Fatalf("lists of %d share memory", set)
		}
	}
}

// spoil overwrites a list up to its capacity: what is behind its end may be shared as well.
func spoil[T any](list []T, with T) {
	list = list[:cap(list)]
	for i := range list {
		list[i] = with
	}
}
