package tests

import (
	"fmt"
	"maps"
	"math"
	"reflect"
	"slices"
	"strings"
	"testing"

	"loop.example/g00338/impl"
)

var noNames = []int64{math.MinInt64, math.MinInt64 + 1, -5, -1, 0, 6, 7, 10, 1<<32 + 1, math.MaxInt64 - 1, math.MaxInt64}

func role(owner int64, name int64) impl.Role {
	return impl.Role{Owner: owner, Name: name}
}

func member(head impl.Role, who int64) impl.Rule {
	return impl.Rule{Kind: impl.RuleMember, Head: head, Who: who}
}

func contain(head impl.Role, one impl.Role) impl.Rule {
	return impl.Rule{Kind: impl.RuleContain, Head: head, One: one}
}

func linked(head impl.Role, one impl.Role, name int64) impl.Rule {
	return impl.Rule{Kind: impl.RuleLinked, Head: head, One: one, Two: role(0, name)}
}

func both(head impl.Role, one impl.Role, two impl.Role) impl.Rule {
	return impl.Rule{Kind: impl.RuleBoth, Head: head, One: one, Two: two}
}

func everyRole() []impl.Role {
	var roles []impl.Role
	for owner := int64(1); owner <= 8; owner++ {
		for name := int64(1); name <= 5; name++ {
			roles = append(roles, role(owner, name))
		}
	}
	return roles
}

// everyRule has each rule without a fault under its text, which is written anew here.
func everyRule() map[string]impl.Rule {
	rules := map[string]impl.Rule{}
	for _, head := range everyRole() {
		start := fmt.Sprintf("%d.%d <- ", head.Owner, head.Name)
		for who := int64(1); who <= 8; who++ {
			rules[start+fmt.Sprint(who)] = member(head, who)
		}
		for _, one := range everyRole() {
			first := start + fmt.Sprintf("%d.%d", one.Owner, one.Name)
			rules[first] = contain(head, one)
			for name := int64(1); name <= 5; name++ {
				rules[first+fmt.Sprintf(".%d", name)] = linked(head, one, name)
			}
			for _, two := range everyRole() {
				rules[first+fmt.Sprintf(" & %d.%d", two.Owner, two.Name)] = both(head, one, two)
			}
		}
	}
	return rules
}

// someRules has rules of all kinds, at the bounds of each number and within them.
func someRules() []impl.Rule {
	return []impl.Rule{
		member(role(1, 1), 1), member(role(8, 5), 8), member(role(3, 2), 7), member(role(1, 2), 2),
		contain(role(1, 1), role(1, 1)), contain(role(8, 5), role(8, 5)), contain(role(2, 2), role(1, 1)), contain(role(4, 1), role(7, 3)),
		linked(role(1, 1), role(1, 1), 1), linked(role(8, 5), role(8, 5), 5), linked(role(1, 2), role(3, 4), 5), linked(role(5, 4), role(2, 1), 3),
		both(role(1, 1), role(1, 1), role(1, 1)), both(role(8, 5), role(8, 5), role(8, 5)), both(role(1, 2), role(3, 4), role(5, 1)), both(role(6, 3), role(4, 2), role(2, 4)),
	}
}

// numbersOf points at each number of r, so that a test can change one after the other.
func numbersOf(r *impl.Rule) []*int64 {
	return []*int64{&r.Kind, &r.Head.Owner, &r.Head.Name, &r.Who, &r.One.Owner, &r.One.Name, &r.Two.Owner, &r.Two.Name}
}

// wantRuleFault goes by a table of what each kind has, in the order of numbersOf: 0 nothing, else the greatest number.
func wantRuleFault(r impl.Rule) int64 {
	has := map[int64][]int64{1: {8, 0, 0, 0, 0}, 2: {0, 8, 5, 0, 0}, 3: {0, 8, 5, 0, 5}, 4: {0, 8, 5, 8, 5}}[r.Kind]
	if has == nil {
		return impl.ErrForm
	}
	if r.Head.Owner < 1 || r.Head.Owner > 8 || r.Head.Name < 1 || r.Head.Name > 5 {
		return impl.ErrRange
	}
	numbers := numbersOf(&r)[3:]
	for i, most := range has {
		if most == 0 && *numbers[i] != 0 {
			return impl.ErrForm
		}
	}
	for i, most := range has {
		if most > 0 && (*numbers[i] < 1 || *numbers[i] > most) {
			return impl.ErrRange
		}
	}
	return impl.OK
}

func TestRuleConstants(t *testing.T) {
	got := []int64{impl.RuleMember, impl.RuleContain, impl.RuleLinked, impl.RuleBoth, impl.MaxName, impl.MaxRules}
	if want := []int64{1, 2, 3, 4, 5, 16}; !slices.Equal(got, want) {
		t.Errorf("constants %v, want %v", got, want)
	}
}

func TestRoles(t *testing.T) {
	for owner := int64(-2); owner <= 11; owner++ {
		for name := int64(-2); name <= 11; name++ {
			r := role(owner, name)
			want := impl.TextResult{Text: fmt.Sprintf("%d.%d", owner, name)}
			if owner < 1 || owner > 8 || name < 1 || name > 5 {
				want = impl.TextResult{Code: impl.ErrRange}
			}
			if got := impl.RoleFault(r); got != want.Code {
				t.Errorf("RoleFault(%v) = %d", r, got)
			}
			if got := impl.RoleText(r); got != want {
				t.Errorf("RoleText(%v) = %+v, want %+v", r, got, want)
			}
		}
	}
}

func TestRolesOutOfBounds(t *testing.T) {
	var wrong []impl.Role
	for _, owner := range noPrincipals {
		wrong = append(wrong, role(owner, 1), role(owner, 5))
	}
	for _, name := range noNames {
		wrong = append(wrong, role(1, name), role(8, name), role(name, name))
	}
	for _, r := range wrong {
		if got := impl.RoleFault(r); got != impl.ErrRange {
			t.Errorf("RoleFault(%v) = %d", r, got)
		}
		if got := impl.RoleText(r); got != (impl.TextResult{Code: impl.ErrRange}) {
			t.Errorf("RoleText(%v) = %+v", r, got)
		}
	}
}

func TestRuleIsReadBack(t *testing.T) { // P3
	rules := everyRule()
	if len(rules) != 40*(8+40+40*5+40*40) {
		t.Fatalf("%d rules", len(rules))
	}
	kinds := map[int64]int{}
	for text, rule := range rules {
		kinds[rule.Kind]++
		if code := impl.RuleFault(rule); code != impl.OK {
			t.Fatalf("RuleFault(%+v) = %d", rule, code)
		}
		if got := impl.RuleText(rule); got != (impl.TextResult{Text: text}) {
			t.Fatalf("RuleText(%+v) = %+v, want %q", rule, got, text)
		}
		if got := impl.ParseRule(impl.RuleText(rule).Text); got != (impl.RuleResult{Rule: rule}) {
			t.Fatalf("ParseRule(%q) = %+v, want %+v", text, got, rule)
		}
	}
	if len(kinds) != 4 {
		t.Errorf("kinds %v", kinds)
	}
}

func TestRuleTexts(t *testing.T) {
	cases := map[string]impl.Rule{
		"1.1 <- 2":         {Kind: 1, Head: role(1, 1), Who: 2},
		"8.5 <- 8":         {Kind: 1, Head: role(8, 5), Who: 8},
		"2.2 <- 1.1":       {Kind: 2, Head: role(2, 2), One: role(1, 1)},
		"1.2 <- 3.4.5":     {Kind: 3, Head: role(1, 2), One: role(3, 4), Two: role(0, 5)},
		"1.2 <- 3.4 & 5.1": {Kind: 4, Head: role(1, 2), One: role(3, 4), Two: role(5, 1)},
		"8.5 <- 8.5 & 8.5": {Kind: 4, Head: role(8, 5), One: role(8, 5), Two: role(8, 5)},
	}
	for text, rule := range cases {
		if got := impl.RuleText(rule); got != (impl.TextResult{Text: text}) {
			t.Errorf("RuleText(%+v) = %+v, want %q", rule, got, text)
		}
		if got := impl.ParseRule(text); got != (impl.RuleResult{Rule: rule}) {
			t.Errorf("ParseRule(%q) = %+v", text, got)
		}
	}
}

func TestTextsThatAreNoRules(t *testing.T) { // P3
	texts := []string{
		"", " ", "\n", ".", "<-", " <- ", "&", "1", "12", "123", "1.2", "1.2 <-", "1.2 <- ", "<- 3", " <- 3", "1.2 3", "123456", "1.1.1.1.1.1",
		" 1.2 <- 7", "1.2 <- 7 ", "1.2  <- 7", "1.2 <-  7", "1.2<- 7", "1.2 <-7", "1.2<-7", "1.2 < - 7", "1 .2 <- 7", "1. 2 <- 7", "1.2\t<- 7", "1.2 <-\n7", "1.2 <- 7\n", "1.2 <- 7\r\n", "1.2\u00a0<- 7",
		"1.2 <- 3 .4", "1.2 <- 3. 4", "1.2 <- 3.4 ", "1.2  <- 3.4", "1.2 <- 3.4 .5", "1.2 <- 3.4. 5", "1.2 <- 3.4.5 ",
		"1.2 <- 3.4& 5.1", "1.2 <- 3.4 &5.1", "1.2 <- 3.4&5.1", "1.2 <- 3.4  & 5.1", "1.2 <- 3.4 &  5.1", "1.2 <- 3.4 & 5.1 ", "1.2 <- 3.4 5.1", "1.2 <- 3.4 && 5.1", "1.2 <- 3.4 & 5 .1",
		"01.2 <- 7", "1.02 <- 7", "1.2 <- 07", "1.2 <- 03.4", "1.2 <- 3.04", "1.2 <- 3.4.05", "1.2 <- 3.4 & 05.1", "1.2 <- 3.4 & 5.01", "+1.2 <- 7", "1.2 <- +7", "1.2 <- -7", "-1.2 <- 7",
		"1.2 <- 7x", "1.2 <- 77", "1.2 <- 7.", "1.2 <- 7;", "1.2 <- 7\x00", "1.2 <- 3.4.", "1.2 <- 3.44", "1.2 <- 3.4.5.", "1.2 <- 3.4.5.1", "1.2 <- 3.4 &", "1.2 <- 3.4 & ", "1.2 <- 3.4 & 5", "1.2 <- 3.4 & 5.", "1.2 <- 3.4 & 5.1.2", "1.2 <- 3.4 & 5.1 & 6.1", "1.2 <- 7 & 5.1", "1.2 <- 3.4 & 5.1x", "1.2 <- 71.2 <- 7",
		"0.2 <- 7", "9.2 <- 7", "10.2 <- 7", "1.0 <- 7", "1.6 <- 7", "1.10 <- 7", "1.2 <- 0", "1.2 <- 9", "1.2 <- 10", "1.2 <- 18",
		"1.2 <- 0.4", "1.2 <- 9.4", "1.2 <- 3.0", "1.2 <- 3.6", "0.2 <- 3.4", "1.6 <- 3.4", "1.2 <- 0.4.5", "1.2 <- 3.6.5", "1.2 <- 3.4.0", "1.2 <- 3.4.6", "1.2 <- 3.4.8", "1.2 <- 0.0.5",
		"1.2 <- 0.4 & 5.1", "1.2 <- 3.6 & 5.1", "1.2 <- 3.4 & 0.1", "1.2 <- 3.4 & 9.1", "1.2 <- 3.4 & 5.0", "1.2 <- 3.4 & 5.6", "9.2 <- 3.4 & 5.1",
		"1,2 <- 7", "1-2 <- 7", "1.2 -> 7", "1.2 = 7", "1.2 <= 7", "1.2 ← 7", "1.2 <- 3:4", "1.2 <- 3.4,5", "1.2 <- 3.4 + 5.1", "1.2 <- 3.4 and 5.1", "a.b <- c", "1.b <- 7", "\uff11.2 <- 7", "1.\u0662 <- 7", "\xff", "1.2 <- \xff", "\x001.2 <- 7", "{1,3}",
		strings.Repeat("1.2 <- 7", 1000), "1.2 <- " + strings.Repeat("7", 100000), strings.Repeat(" ", 100000), "1.2 <- " + strings.Repeat("0", 100000) + "7", "1.2 <- 18446744073709551623", "1.2 <- 9223372036854775808",
	}
	for _, text := range texts {
		if got := impl.ParseRule(text); got != (impl.RuleResult{Code: impl.ErrText}) {
			t.Errorf("ParseRule(%.40q) = %+v", text, got)
		}
	}
}

func wantRule(rules map[string]impl.Rule, text string) impl.RuleResult {
	if rule, ok := rules[text]; ok {
		return impl.RuleResult{Rule: rule}
	}
	return impl.RuleResult{Code: impl.ErrText}
}

func TestRuleTextsOneByteAway(t *testing.T) { // P3
	rules := everyRule()
	for _, rule := range someRules() {
		text := impl.RuleText(rule).Text
		for at := range len(text) + 1 {
			for b := range 256 {
				put := string([]byte{byte(b)})
				near := []string{text[:at] + put + text[at:], text[:at]}
				if at < len(text) {
					near = append(near, text[:at]+put+text[at+1:], text[:at]+text[at+1:], text[at:])
				}
				for _, other := range near {
					if got, want := impl.ParseRule(other), wantRule(rules, other); got != want {
						t.Fatalf("ParseRule(%q) = %+v, want %+v", other, got, want)
					}
				}
			}
		}
	}
}

func TestEveryNumberInARuleText(t *testing.T) { // P3: names and owners of any digit, in each place of each kind
	rules := everyRule()
	forms := []string{"%d.%d <- %d", "%d.%d <- %d.%d", "%d.%d <- %d.%d.%d"}
	for i, form := range forms {
		count := 3 + i
		for number := range int(math.Pow10(count)) {
			var digits []any
			for range count {
				digits = append(digits, number%10)
				number /= 10
			}
			text := fmt.Sprintf(form, digits...)
			if got, want := impl.ParseRule(text), wantRule(rules, text); got != want {
				t.Fatalf("ParseRule(%q) = %+v, want %+v", text, got, want)
			}
		}
	}
}

// checkFaults puts each of values into each number of a rule but its Kind, and asks RuleFault and RuleText.
func checkFaults(t *testing.T, kinds []int64, values [7][]int64) {
	t.Helper()
	var rule impl.Rule
	numbers := numbersOf(&rule)[1:]
	var put func(place int)
	put = func(place int) {
		if place < len(numbers) {
			for _, value := range values[place] {
				*numbers[place] = value
				put(place + 1)
			}
			return
		}
		want := wantRuleFault(rule)
		if got := impl.RuleFault(rule); got != want {
			t.Fatalf("RuleFault(%+v) = %d, want %d", rule, got, want)
		}
		if got := impl.RuleText(rule); got.Code != want || (got.Text == "") != (want != impl.OK) {
			t.Fatalf("RuleText(%+v) = %+v, want code %d", rule, got, want)
		}
	}
	for _, kind := range kinds {
		rule.Kind = kind
		put(0)
	}
}

func TestRuleFaultAtTheEdges(t *testing.T) {
	owners, names := []int64{0, 1, 8, 9}, []int64{0, 1, 5, 6}
	checkFaults(t, []int64{0, 1, 2, 3, 4, 5}, [7][]int64{owners, names, owners, owners, names, owners, names})
}

func TestRuleFaultAtGreatNumbers(t *testing.T) {
	values := []int64{math.MinInt64, 0, 1, math.MaxInt64}
	kinds := []int64{math.MinInt64, -1, 0, 1, 2, 3, 4, 5, 1<<32 + 1, math.MaxInt64}
	checkFaults(t, kinds, [7][]int64{values, values, values, values, values, values, values})
}

func TestRuleFaultsInTheirOrder(t *testing.T) {
	head, one, two := role(1, 2), role(3, 4), role(5, 1)
	cases := []struct {
		rule impl.Rule
		want int64
	}{
		{impl.Rule{}, impl.ErrForm},
		{impl.Rule{Head: head, Who: 1}, impl.ErrForm},
		{impl.Rule{Kind: 5, Head: head, Who: 1}, impl.ErrForm},
		{impl.Rule{Kind: 0, Head: role(9, 9), Who: 9}, impl.ErrForm},
		{impl.Rule{Kind: 5, Head: role(0, 0), One: one, Two: two}, impl.ErrForm},
		{impl.Rule{Kind: 1}, impl.ErrRange},
		{impl.Rule{Kind: 1, Head: role(9, 1), Who: 1, One: one}, impl.ErrRange},
		{impl.Rule{Kind: 2, Head: role(1, 6), Who: 1, One: one, Two: two}, impl.ErrRange},
		{impl.Rule{Kind: 3, Head: role(0, 1), One: one, Two: two}, impl.ErrRange},
		{impl.Rule{Kind: 4, Head: role(1, 0), Who: 3, One: one, Two: two}, impl.ErrRange},
		{impl.Rule{Kind: 1, Head: head, Who: 9, One: role(1, 0)}, impl.ErrForm},
		{impl.Rule{Kind: 1, Head: head, Who: 2, One: role(0, 1)}, impl.ErrForm},
		{impl.Rule{Kind: 1, Head: head, Who: 2, Two: role(1, 0)}, impl.ErrForm},
		{impl.Rule{Kind: 1, Head: head, Who: 2, Two: role(0, 1)}, impl.ErrForm},
		{impl.Rule{Kind: 1, Head: head, Who: 2, One: one}, impl.ErrForm},
		{impl.Rule{Kind: 2, Head: head, Who: 2, One: one}, impl.ErrForm},
		{impl.Rule{Kind: 2, Head: head, Who: -1, One: role(9, 9)}, impl.ErrForm},
		{impl.Rule{Kind: 2, Head: head, One: one, Two: two}, impl.ErrForm},
		{impl.Rule{Kind: 2, Head: head, One: one, Two: role(0, 1)}, impl.ErrForm},
		{impl.Rule{Kind: 2, Head: head, One: one, Two: role(5, 0)}, impl.ErrForm},
		{impl.Rule{Kind: 3, Head: head, Who: 2, One: one, Two: role(0, 5)}, impl.ErrForm},
		{impl.Rule{Kind: 3, Head: head, One: one, Two: two}, impl.ErrForm},
		{impl.Rule{Kind: 3, Head: head, One: role(9, 1), Two: two}, impl.ErrForm},
		{impl.Rule{Kind: 3, Head: head, One: one, Two: role(-1, 6)}, impl.ErrForm},
		{impl.Rule{Kind: 4, Head: head, Who: 1, One: one, Two: two}, impl.ErrForm},
		{impl.Rule{Kind: 4, Head: head, Who: math.MinInt64, One: one}, impl.ErrForm},
		{impl.Rule{Kind: 1, Head: head}, impl.ErrRange},
		{impl.Rule{Kind: 1, Head: head, Who: 9}, impl.ErrRange},
		{impl.Rule{Kind: 2, Head: head}, impl.ErrRange},
		{impl.Rule{Kind: 2, Head: head, One: role(3, 6)}, impl.ErrRange},
		{impl.Rule{Kind: 3, Head: head, One: one}, impl.ErrRange},
		{impl.Rule{Kind: 3, Head: head, One: one, Two: role(0, 6)}, impl.ErrRange},
		{impl.Rule{Kind: 3, Head: head, One: role(9, 1), Two: role(0, 5)}, impl.ErrRange},
		{impl.Rule{Kind: 4, Head: head, One: one}, impl.ErrRange},
		{impl.Rule{Kind: 4, Head: head, Two: two}, impl.ErrRange},
		{impl.Rule{Kind: 4, Head: head, One: one, Two: role(0, 5)}, impl.ErrRange},
		{impl.Rule{Kind: 4, Head: head, One: one, Two: role(5, 6)}, impl.ErrRange},
		{impl.Rule{Kind: 4, Head: head, One: one, Two: one}, impl.OK},
		{impl.Rule{Kind: 2, Head: head, One: head}, impl.OK},
	}
	for _, c := range cases {
		if got := impl.RuleFault(c.rule); got != c.want {
			t.Errorf("RuleFault(%+v) = %d, want %d", c.rule, got, c.want)
		}
		if c.want != impl.OK && impl.RuleText(c.rule) != (impl.TextResult{Code: c.want}) {
			t.Errorf("RuleText(%+v) = %+v", c.rule, impl.RuleText(c.rule))
		}
	}
}

// policyOf has no two rules alike, up to 40 of them.
func policyOf(count int) []impl.Rule {
	var list []impl.Rule
	for i := range int64(count) {
		list = append(list, member(role(1, i/8+1), i%8+1))
	}
	return list
}

func TestPolicyFault(t *testing.T) {
	good, other := member(role(1, 1), 2), contain(role(2, 2), role(1, 1))
	shapeless, outside := impl.Rule{Kind: 5}, member(role(1, 1), 9)
	cases := []struct {
		list []impl.Rule
		want int64
	}{
		{nil, impl.OK},
		{[]impl.Rule{}, impl.OK},
		{[]impl.Rule{good}, impl.OK},
		{[]impl.Rule{good, other}, impl.OK},
		{someRules(), impl.OK},
		{policyOf(16), impl.OK},
		{policyOf(17), impl.ErrMany},
		{slices.Repeat([]impl.Rule{good}, 17), impl.ErrMany},
		{slices.Repeat([]impl.Rule{shapeless}, 17), impl.ErrMany},
		{slices.Repeat([]impl.Rule{good}, 5000), impl.ErrMany},
		{append(policyOf(15), policyOf(1)...), impl.ErrTaken},
		{append(policyOf(15), shapeless), impl.ErrForm},
		{append(policyOf(15), outside), impl.ErrRange},
		{[]impl.Rule{{}}, impl.ErrForm},
		{[]impl.Rule{good, good}, impl.ErrTaken},
		{[]impl.Rule{good, other, good}, impl.ErrTaken},
		{[]impl.Rule{other, good, good}, impl.ErrTaken},
		{[]impl.Rule{good, good, shapeless}, impl.ErrTaken},
		{[]impl.Rule{good, good, outside}, impl.ErrTaken},
		{[]impl.Rule{good, shapeless, good}, impl.ErrForm},
		{[]impl.Rule{good, outside, good}, impl.ErrRange},
		{[]impl.Rule{outside, good, good}, impl.ErrRange},
		{[]impl.Rule{outside, outside}, impl.ErrRange},
		{[]impl.Rule{shapeless, shapeless}, impl.ErrForm},
		{[]impl.Rule{outside, shapeless}, impl.ErrRange},
		{[]impl.Rule{shapeless, outside}, impl.ErrForm},
	}
	for _, c := range cases {
		if got := impl.PolicyFault(c.list); got != c.want {
			t.Errorf("PolicyFault(%v) = %d, want %d", c.list, got, c.want)
		}
		if got := impl.RolesIn(c.list); got.Code != c.want || c.want != impl.OK && got.Roles != nil {
			t.Errorf("RolesIn(%v) = %+v, want code %d", c.list, got, c.want)
		}
	}
}

func TestRulesThatDifferInOneNumber(t *testing.T) {
	for _, rule := range someRules() {
		for i := range numbersOf(&rule) {
			for value := int64(0); value <= 9; value++ {
				near := rule
				*numbersOf(&near)[i] = value
				want := wantRuleFault(near)
				if near == rule {
					want = impl.ErrTaken
				}
				if got := impl.PolicyFault([]impl.Rule{rule, near}); got != want {
					t.Errorf("PolicyFault of %+v and %+v = %d, want %d", rule, near, got, want)
				}
			}
		}
	}
}

func TestRolesIn(t *testing.T) {
	cases := []struct {
		list []impl.Rule
		want []impl.Role
	}{
		{nil, nil},
		{[]impl.Rule{}, nil},
		{[]impl.Rule{member(role(3, 2), 7)}, []impl.Role{role(3, 2)}},
		{[]impl.Rule{contain(role(3, 2), role(1, 5))}, []impl.Role{role(1, 5), role(3, 2)}},
		{[]impl.Rule{contain(role(3, 2), role(3, 2))}, []impl.Role{role(3, 2)}},
		{[]impl.Rule{linked(role(3, 4), role(1, 2), 5)}, []impl.Role{role(1, 2), role(3, 4)}},
		{[]impl.Rule{linked(role(3, 4), role(3, 4), 4)}, []impl.Role{role(3, 4)}},
		{[]impl.Rule{both(role(5, 5), role(5, 4), role(4, 5))}, []impl.Role{role(4, 5), role(5, 4), role(5, 5)}},
		{[]impl.Rule{both(role(2, 1), role(2, 1), role(2, 1))}, []impl.Role{role(2, 1)}},
		{[]impl.Rule{member(role(8, 1), 1), member(role(1, 5), 1), member(role(8, 1), 2), member(role(1, 4), 1)}, []impl.Role{role(1, 4), role(1, 5), role(8, 1)}},
		{policyOf(16), []impl.Role{role(1, 1), role(1, 2)}},
	}
	for _, c := range cases {
		if got := impl.RolesIn(c.list); got.Code != impl.OK || !slices.Equal(got.Roles, c.want) {
			t.Errorf("RolesIn(%v) = %+v, want %v", c.list, got, c.want)
		}
	}
}

// rolesStanding asks for each role that there is whether it stands in the list, in the order in which they rise.
func rolesStanding(list []impl.Rule) []impl.Role {
	var roles []impl.Role
	for _, r := range everyRole() {
		if slices.ContainsFunc(list, func(x impl.Rule) bool { return x.Head == r || x.One == r || x.Two == r }) {
			roles = append(roles, r)
		}
	}
	return roles
}

func TestRolesInManyPolicies(t *testing.T) {
	rules := everyRule()
	texts := slices.Sorted(maps.Keys(rules))
	at := uint64(1)
	for i := range 5000 {
		var list []impl.Rule
		for range i % 17 {
			at = at*6364136223846793005 + 1442695040888963407
			if rule := rules[texts[at>>33%uint64(len(texts))]]; !slices.Contains(list, rule) {
				list = append(list, rule)
			}
		}
		if got, want := impl.RolesIn(list), rolesStanding(list); got.Code != impl.OK || !slices.Equal(got.Roles, want) {
			t.Fatalf("RolesIn(%v) = %+v, want %v", list, got, want)
		}
	}
}

func policiesToKeep() [][]impl.Rule {
	return [][]impl.Rule{
		{}, someRules(), policyOf(16), policyOf(17), {member(role(8, 5), 1), member(role(1, 1), 1)},
		{member(role(2, 1), 1), member(role(1, 1), 1), member(role(2, 1), 1)}, {{Kind: 5}}, {both(role(8, 5), role(7, 4), role(6, 3))},
	}
}

func TestRulesHandedInAreUnchanged(t *testing.T) { // P1
	mark := impl.Rule{Kind: 77}
	for _, list := range policiesToKeep() {
		backing := append(slices.Clone(list), mark, mark)
		given := backing[:len(list)]
		impl.PolicyFault(given)
		spoil(impl.RolesIn(given).Roles, role(-7, -7))
		if !slices.Equal(given, list) || backing[len(list)] != mark || backing[len(list)+1] != mark {
			t.Errorf("%v was changed to %v", list, backing)
		}
	}
}

func TestSameRulesSameAnswers(t *testing.T) { // P1: nothing is kept from call to call
	answers := func(list []impl.Rule) []any {
		all := []any{impl.PolicyFault(list), impl.RolesIn(list)}
		for _, rule := range list {
			text := impl.RuleText(rule)
			all = append(all, impl.RuleFault(rule), text, impl.ParseRule(text.Text), impl.ParseRule(text.Text+" "), impl.RoleFault(rule.Head), impl.RoleText(rule.Two))
		}
		return all
	}
	var first [][]any
	for _, list := range policiesToKeep() {
		first = append(first, answers(list))
	}
	for i, list := range slices.Backward(policiesToKeep()) {
		if again := answers(list); !reflect.DeepEqual(first[i], again) {
			t.Errorf("%v: first %v, then %v", list, first[i], again)
		}
	}
}

func TestRolesShareNoMemory(t *testing.T) { // P1
	for _, list := range policiesToKeep() {
		one, two := impl.RolesIn(list), impl.RolesIn(list)
		want := slices.Clone(two.Roles)
		spoil(one.Roles, role(-7, -7))
		if !slices.Equal(two.Roles, want) || !slices.Equal(impl.RolesIn(list).Roles, want) {
			t.Errorf("roles of %v share memory", list)
		}
	}
}
