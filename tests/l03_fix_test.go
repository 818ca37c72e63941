package tests

import (
	"fmt"
	"math"
	"reflect"
	"slices"
	"testing"

	"loop.example/g00338/impl"
)

// has says that a principal has a role. What follows is told here by such pairs, one by one, so that it shares no fault with the program's sets.
type has struct {
	role impl.Role
	who  int64
}

type dice uint64

func (d *dice) below(n int64) int64 {
	*d = *d*6364136223846793005 + 1442695040888963407
	return int64(uint64(*d) >> 33 % uint64(n))
}

// denseRole takes few owners and names, so that rules of one policy lean on each other.
func (d *dice) denseRole(owners int64, names int64) impl.Role {
	return role(d.below(owners)+1, d.below(names)+1)
}

func (d *dice) densePolicy(count int, owners int64, names int64) []impl.Rule {
	var list []impl.Rule
	for range count {
		head, one, two := d.denseRole(owners, names), d.denseRole(owners, names), d.denseRole(owners, names)
		kinds := []impl.Rule{member(head, d.below(owners)+1), contain(head, one), linked(head, one, two.Name), both(head, one, two)}
		if rule := kinds[d.below(4)]; !slices.Contains(list, rule) {
			list = append(list, rule)
		}
	}
	return list
}

func (d *dice) denseGrants(owners int64, names int64) []impl.Grant {
	var grants []impl.Grant
	for _, r := range everyRole() {
		if r.Owner <= owners && r.Name <= names && d.below(2) == 0 {
			grants = append(grants, grant(r, d.below(255)+1))
		}
	}
	return grants
}

// manyPolicies has policies of 0 to 16 rules, among few roles and among more of them.
func manyPolicies() [][]impl.Rule {
	d := dice(3)
	all := [][]impl.Rule{nil, {}}
	for i := range 1500 {
		all = append(all, d.densePolicy(i%17, int64(2+i%3), int64(1+i%2)))
	}
	for i := range 100 {
		all = append(all, d.densePolicy(i%17, 8, 5))
	}
	for _, c := range followCases() {
		all = append(all, c.list)
	}
	return all
}

func grant(r impl.Role, set int64) impl.Grant {
	return impl.Grant{Role: r, Set: set}
}

func pairsOf(grants []impl.Grant) map[has]bool {
	pairs := map[has]bool{}
	for _, g := range grants {
		for _, p := range listOfSet(int(g.Set)) {
			pairs[has{g.Role, p}] = true
		}
	}
	return pairs
}

func grantsOfPairs(pairs map[has]bool) []impl.Grant {
	var grants []impl.Grant
	for _, r := range everyRole() {
		set := int64(0)
		for p, value := int64(1), int64(1); p <= 8; p, value = p+1, value*2 {
			if pairs[has{r, p}] {
				set += value
			}
		}
		if set != 0 {
			grants = append(grants, grant(r, set))
		}
	}
	return grants
}

// gives asks whether a rule gives its Head to who, where pairs are so.
func gives(rule impl.Rule, pairs map[has]bool, who int64) bool {
	switch rule.Kind {
	case impl.RuleMember:
		return rule.Who == who
	case impl.RuleContain:
		return pairs[has{rule.One, who}]
	case impl.RuleLinked:
		for owner := int64(1); owner <= 8; owner++ {
			if pairs[has{rule.One, owner}] && pairs[has{role(owner, rule.Two.Name), who}] {
				return true
			}
		}
		return false
	}
	return pairs[has{rule.One, who}] && pairs[has{rule.Two, who}]
}

func stepPairs(list []impl.Rule, pairs map[has]bool) map[has]bool {
	next := map[has]bool{}
	for pair := range pairs {
		next[pair] = true
	}
	for _, rule := range list {
		for who := int64(1); who <= 8; who++ {
			if gives(rule, pairs, who) {
				next[has{rule.Head, who}] = true
			}
		}
	}
	return next
}

// stepsOf has what is so behind 0, 1, 2 .. steps, up to the step behind which nothing turns.
func stepsOf(list []impl.Rule) []map[has]bool {
	all := []map[has]bool{{}}
	for {
		next := stepPairs(list, all[len(all)-1])
		if len(next) == len(all[len(all)-1]) {
			return all
		}
		all = append(all, next)
	}
}

func lies(inner []impl.Grant, outer []impl.Grant) bool {
	pairs := pairsOf(outer)
	for pair := range pairsOf(inner) {
		if !pairs[pair] {
			return false
		}
	}
	return true
}

func isClosed(list []impl.Rule, grants []impl.Grant) bool {
	step := impl.StepGrants(list, grants)
	return step.Code == impl.OK && slices.Equal(step.Grants, grants)
}

type followCase struct {
	name string
	list []impl.Rule
	want []impl.Grant
}

// followCases are worked out by hand.
func followCases() []followCase {
	a, b, c := role(1, 1), role(2, 2), role(3, 3)
	return []followCase{
		{"nothing", nil, nil},
		{"no rules", []impl.Rule{}, nil},
		{"member", []impl.Rule{member(a, 2)}, []impl.Grant{grant(a, 2)}},
		{"members", []impl.Rule{member(a, 8), member(a, 1)}, []impl.Grant{grant(a, 129)}},
		{"contain", []impl.Rule{member(a, 2), contain(b, a)}, []impl.Grant{grant(a, 2), grant(b, 2)}},
		{"contain ahead of its member", []impl.Rule{contain(b, a), member(a, 2)}, []impl.Grant{grant(a, 2), grant(b, 2)}},
		{"contain of nobody", []impl.Rule{contain(b, a)}, nil},
		{"linked", []impl.Rule{linked(a, b, 4), member(b, 5), member(b, 6), member(role(5, 4), 1), member(role(6, 4), 8)}, []impl.Grant{grant(a, 129), grant(b, 48), grant(role(5, 4), 1), grant(role(6, 4), 128)}},
		{"linked by the name alone", []impl.Rule{linked(a, b, 4), member(b, 5), member(role(5, 3), 1), member(role(6, 4), 8), member(role(2, 4), 7)}, []impl.Grant{grant(b, 16), grant(role(2, 4), 64), grant(role(5, 3), 1), grant(role(6, 4), 128)}},
		{"linked of nobody", []impl.Rule{linked(a, b, 4), member(role(5, 4), 1)}, []impl.Grant{grant(role(5, 4), 1)}},
		{"linked to nobody", []impl.Rule{linked(a, b, 4), member(b, 5)}, []impl.Grant{grant(b, 16)}},
		{"both", []impl.Rule{both(a, b, c), member(b, 1), member(b, 2), member(c, 2), member(c, 3)}, []impl.Grant{grant(a, 2), grant(b, 3), grant(c, 6)}},
		{"both of one", []impl.Rule{both(a, b, b), member(b, 1), member(b, 2)}, []impl.Grant{grant(a, 3), grant(b, 3)}},
		{"both with nobody in common", []impl.Rule{both(a, b, c), member(b, 1), member(c, 3)}, []impl.Grant{grant(b, 1), grant(c, 4)}},
		{"both without Two", []impl.Rule{both(a, b, c), member(b, 1)}, []impl.Grant{grant(b, 1)}},
		{"both without One", []impl.Rule{both(a, b, c), member(c, 1)}, []impl.Grant{grant(c, 1)}},
		{"contains itself", []impl.Rule{contain(a, a)}, nil},
		{"contains itself, with a member", []impl.Rule{contain(a, a), member(a, 3)}, []impl.Grant{grant(a, 4)}},
		{"both of itself", []impl.Rule{both(a, a, a), both(b, b, a), member(a, 1)}, []impl.Grant{grant(a, 1)}},
		{"contain each other", []impl.Rule{contain(a, b), contain(b, a)}, nil},
		{"contain each other, with members", []impl.Rule{contain(a, b), contain(b, a), member(a, 1), member(b, 4)}, []impl.Grant{grant(a, 9), grant(b, 9)}},
		{"three in a ring", []impl.Rule{contain(a, b), contain(b, c), contain(c, a), member(b, 7)}, []impl.Grant{grant(a, 64), grant(b, 64), grant(c, 64)}},
		{"linked to itself, with nobody", []impl.Rule{linked(a, a, 1)}, nil},
		{"linked of its own Head", []impl.Rule{linked(a, a, 1), member(a, 2), member(role(2, 1), 3), member(role(3, 1), 4)}, []impl.Grant{grant(a, 14), grant(role(2, 1), 4), grant(role(3, 1), 8)}},
		{"linked whose name is its Head's", []impl.Rule{linked(a, b, 1), member(b, 1), member(b, 2), member(role(2, 1), 5)}, []impl.Grant{grant(a, 16), grant(role(2, 1), 16), grant(b, 3)}},
		{"linked where an owner comes late", []impl.Rule{linked(a, b, 4), contain(b, c), member(c, 6), contain(role(6, 4), role(8, 5)), member(role(8, 5), 7)}, []impl.Grant{grant(a, 64), grant(b, 32), grant(c, 32), grant(role(6, 4), 64), grant(role(8, 5), 64)}},
		{"at the bounds", []impl.Rule{member(role(8, 5), 8), linked(role(1, 5), role(8, 5), 5), contain(role(8, 1), role(1, 5))}, []impl.Grant{grant(role(1, 5), 128), grant(role(8, 1), 128), grant(role(8, 5), 128)}},
	}
}

// chainPolicy leads from a member through 15 roles, told from the last one on: 16 steps.
func chainPolicy() []impl.Rule {
	var list []impl.Rule
	for i := int64(15); i > 0; i-- {
		list = append(list, contain(role(i%8+1, i/8+1), role((i-1)%8+1, (i-1)/8+1)))
	}
	return append(list, member(role(1, 1), 6))
}

func TestWhatFollows(t *testing.T) { // P4
	for _, c := range followCases() {
		if got := impl.GrantsOf(c.list); got.Code != impl.OK || !slices.Equal(got.Grants, c.want) {
			t.Errorf("%s: GrantsOf(%v) = %+v, want %v", c.name, c.list, got, c.want)
		}
		pairs := pairsOf(c.want)
		for _, r := range everyRole() {
			for p := int64(1); p <= 8; p++ {
				if got := impl.HasRole(c.list, r, p); got != pairs[has{r, p}] {
					t.Errorf("%s: HasRole(%v, %d) = %v", c.name, r, p, got)
				}
			}
		}
	}
}

func TestExampleOfWhoHasARole(t *testing.T) {
	list := []impl.Rule{impl.ParseRule("1.1 <- 2").Rule, impl.ParseRule("2.2 <- 1.1").Rule}
	if got := impl.MembersOf(list, role(2, 2)); got != (impl.IntResult{Value: 2}) {
		t.Errorf("MembersOf 2.2: %+v", got)
	}
}

func TestWhoIsGivenNothing(t *testing.T) { // P4: without a RuleMember no grant is there
	for _, list := range manyPolicies() {
		var without []impl.Rule
		for _, rule := range list {
			if rule.Kind != impl.RuleMember {
				without = append(without, rule)
			}
		}
		if got := impl.GrantsOf(without); got.Code != impl.OK || len(got.Grants) != 0 {
			t.Fatalf("GrantsOf(%v) = %+v", without, got)
		}
		for _, rule := range without {
			if got := impl.MembersOf(without, rule.Head); got != (impl.IntResult{}) {
				t.Fatalf("MembersOf(%v, %v) = %+v", without, rule.Head, got)
			}
		}
	}
}

func TestWhatFollowsIsClosed(t *testing.T) { // P4
	for _, list := range manyPolicies() {
		got := impl.GrantsOf(list)
		if code := impl.GrantFault(got.Grants); got.Code != impl.OK || code != impl.OK {
			t.Fatalf("GrantsOf(%v) = %+v, GrantFault %d", list, got, code)
		}
		if !isClosed(list, got.Grants) {
			t.Fatalf("GrantsOf(%v) = %v, a step on %v", list, got.Grants, impl.StepGrants(list, got.Grants))
		}
	}
}

func TestWhatFollowsBySteps(t *testing.T) { // P4
	for _, list := range manyPolicies() {
		var grants []impl.Grant
		steps := stepsOf(list)
		for i, pairs := range steps {
			if want := grantsOfPairs(pairs); !slices.Equal(grants, want) {
				t.Fatalf("%v behind %d steps: %v, want %v", list, i, grants, want)
			}
			grants = impl.StepGrants(list, grants).Grants
		}
		want := grantsOfPairs(steps[len(steps)-1])
		if got := impl.GrantsOf(list); got.Code != impl.OK || !slices.Equal(got.Grants, want) {
			t.Fatalf("GrantsOf(%v) = %+v, want %v", list, got, want)
		}
		for _, r := range everyRole() {
			set := int64(0)
			for _, g := range want {
				if g.Role == r {
					set = g.Set
				}
			}
			if got := impl.MembersOf(list, r); got != (impl.IntResult{Value: set}) {
				t.Fatalf("MembersOf(%v, %v) = %+v, want %d", list, r, got, set)
			}
		}
	}
}

func TestNothingLessIsClosed(t *testing.T) { // P4: all that is left where some of it is taken away
	asked := 0
	for _, list := range manyPolicies() {
		grants := impl.GrantsOf(list).Grants
		var pairs []has
		for pair := range pairsOf(grants) {
			pairs = append(pairs, pair)
		}
		if len(pairs) > 6 {
			continue
		}
		for kept := range 1<<len(pairs) - 1 {
			less := map[has]bool{}
			for i, pair := range pairs {
				if kept>>i%2 == 1 {
					less[pair] = true
				}
			}
			asked++
			if isClosed(list, grantsOfPairs(less)) {
				t.Fatalf("of %v less than %v is closed: %v", list, grants, grantsOfPairs(less))
			}
		}
	}
	if asked < 1000 {
		t.Errorf("asked %d only", asked)
	}
}

func TestWhatFollowsLiesInAllThatIsClosed(t *testing.T) { // P4
	var all []impl.Grant
	for _, r := range everyRole() {
		all = append(all, grant(r, 255))
	}
	d := dice(5)
	for _, list := range manyPolicies() {
		follows := impl.GrantsOf(list).Grants
		if !isClosed(list, all) || !lies(follows, all) {
			t.Fatalf("all grants are not closed under %v", list)
		}
		closed := d.denseGrants(4, 2)
		for !isClosed(list, closed) {
			next := impl.StepGrants(list, closed).Grants
			if !lies(closed, next) || slices.Equal(closed, next) {
				t.Fatalf("a step of %v from %v leads to %v", list, closed, next)
			}
			closed = next
		}
		if !lies(follows, closed) {
			t.Fatalf("GrantsOf(%v) = %v is not in %v", list, follows, closed)
		}
	}
}

func TestOrderOfRulesTurnsNothingThatFollows(t *testing.T) {
	for _, list := range manyPolicies() {
		turned := slices.Clone(list)
		slices.Reverse(turned)
		if one, two := impl.GrantsOf(list), impl.GrantsOf(turned); !reflect.DeepEqual(one, two) {
			t.Fatalf("%v: %v, turned round %v", list, one, two)
		}
	}
}

// wantProof is written anew from steps of pairs.
func wantProof(list []impl.Rule, steps []map[has]bool, r impl.Role, who int64) impl.IntsResult {
	for i := 1; i < len(steps); i++ {
		if !steps[i][has{r, who}] {
			continue
		}
		for place, rule := range list {
			if rule.Head == r && gives(rule, steps[i-1], who) {
				return impl.IntsResult{List: []int64{int64(i), int64(place)}}
			}
		}
	}
	return impl.IntsResult{Code: impl.ErrNone}
}

func TestProofs(t *testing.T) { // P4: by a rule of that Head, at the first step
	for _, list := range manyPolicies() {
		steps := stepsOf(list)
		for _, r := range everyRole() {
			for who := int64(1); who <= 8; who++ {
				got, want := impl.ProofOf(list, r, who), wantProof(list, steps, r, who)
				if got.Code != want.Code || !slices.Equal(got.List, want.List) {
					t.Fatalf("ProofOf(%v, %v, %d) = %+v, want %+v", list, r, who, got, want)
				}
				if impl.HasRole(list, r, who) != (got.Code == impl.OK) {
					t.Fatalf("HasRole(%v, %v, %d) goes against %+v", list, r, who, got)
				}
			}
		}
	}
}

func TestProofsByTheProgramsOwnSteps(t *testing.T) { // P4
	for _, list := range append(manyPolicies(), chainPolicy()) {
		for _, rule := range list {
			for who := int64(1); who <= 8; who++ {
				proof := impl.ProofOf(list, rule.Head, who)
				if proof.Code != impl.OK {
					continue
				}
				var grants []impl.Grant
				for range proof.List[0] - 1 {
					grants = impl.StepGrants(list, grants).Grants
				}
				pair, by := has{rule.Head, who}, list[proof.List[1]]
				alone := pairsOf(impl.StepGrants([]impl.Rule{by}, grants).Grants)
				if pairsOf(grants)[pair] || by.Head != rule.Head || !alone[pair] {
					t.Fatalf("ProofOf(%v, %v, %d) = %v", list, rule.Head, who, proof)
				}
			}
		}
	}
}

func TestProofsByHand(t *testing.T) {
	a, b, c := role(1, 1), role(2, 2), role(3, 3)
	rules := []impl.Rule{
		contain(a, b), both(a, b, c), member(b, 2), member(b, 5), member(c, 2), contain(c, b), linked(a, c, 2), member(a, 5), contain(a, c),
	}
	cases := []struct {
		r    impl.Role
		who  int64
		want []int64
	}{
		{b, 2, []int64{1, 2}}, {b, 5, []int64{1, 3}}, {c, 2, []int64{1, 4}}, {c, 5, []int64{2, 5}}, {a, 5, []int64{1, 7}}, {a, 2, []int64{2, 0}},
	}
	for _, x := range cases {
		if got := impl.ProofOf(rules, x.r, x.who); got.Code != impl.OK || !slices.Equal(got.List, x.want) {
			t.Errorf("ProofOf(%v, %d) = %+v, want %v", x.r, x.who, got, x.want)
		}
	}
}

func TestLongProof(t *testing.T) {
	list := chainPolicy()
	for i := range int64(16) {
		r := role(i%8+1, i/8+1)
		if got, want := impl.ProofOf(list, r, 6), []int64{i + 1, 15 - i}; got.Code != impl.OK || !slices.Equal(got.List, want) {
			t.Errorf("ProofOf %v = %+v, want %v", r, got, want)
		}
	}
}

func TestProofSkipsARuleThatGivesItLater(t *testing.T) {
	a, b := role(1, 1), role(2, 2)
	list := []impl.Rule{contain(a, b), contain(b, a), contain(a, a), member(a, 3)}
	if got := impl.ProofOf(list, a, 3); got.Code != impl.OK || !slices.Equal(got.List, []int64{1, 3}) {
		t.Errorf("ProofOf = %+v", got)
	}
}

func fullGrants() []impl.Grant {
	var grants []impl.Grant
	for i, r := range everyRole() {
		grants = append(grants, grant(r, int64(i)+1))
	}
	return grants
}

func TestGrantFault(t *testing.T) {
	a, b := role(1, 1), role(2, 2)
	cases := []struct {
		grants []impl.Grant
		want   int64
	}{
		{nil, impl.OK},
		{[]impl.Grant{}, impl.OK},
		{fullGrants(), impl.OK},
		{append(fullGrants(), grant(role(8, 5), 1)), impl.ErrMany},
		{slices.Repeat([]impl.Grant{{}}, 41), impl.ErrMany},
		{slices.Repeat([]impl.Grant{{}}, 40), impl.ErrRange},
		{slices.Repeat([]impl.Grant{grant(a, 1)}, 40), impl.ErrForm},
		{slices.Repeat([]impl.Grant{grant(a, 1)}, 5000), impl.ErrMany},
		{[]impl.Grant{grant(a, -1)}, impl.ErrRange},
		{[]impl.Grant{grant(a, 0)}, impl.ErrForm},
		{[]impl.Grant{grant(a, 1)}, impl.OK},
		{[]impl.Grant{grant(a, 255)}, impl.OK},
		{[]impl.Grant{grant(a, 256)}, impl.ErrRange},
		{[]impl.Grant{grant(a, 257)}, impl.ErrRange},
		{[]impl.Grant{grant(a, 1), grant(b, 1)}, impl.OK},
		{[]impl.Grant{grant(role(1, 5), 1), grant(role(2, 1), 1)}, impl.OK},
		{[]impl.Grant{grant(role(2, 1), 1), grant(role(1, 5), 1)}, impl.ErrForm},
		{[]impl.Grant{grant(role(1, 1), 1), grant(role(1, 2), 1)}, impl.OK},
		{[]impl.Grant{grant(role(1, 2), 1), grant(role(1, 1), 1)}, impl.ErrForm},
		{[]impl.Grant{grant(a, 1), grant(a, 1)}, impl.ErrForm},
		{[]impl.Grant{grant(a, 1), grant(a, 2)}, impl.ErrForm},
		{[]impl.Grant{grant(a, 1), grant(b, 1), grant(a, 1)}, impl.ErrForm},
		{[]impl.Grant{grant(a, 1), grant(b, 0)}, impl.ErrForm},
		{[]impl.Grant{grant(b, 1), grant(a, 0)}, impl.ErrForm},
		{[]impl.Grant{grant(b, 1), grant(a, 256)}, impl.ErrRange},
		{[]impl.Grant{grant(b, 1), grant(role(0, 1), 1)}, impl.ErrRange},
		{[]impl.Grant{grant(role(0, 1), 0)}, impl.ErrRange},
		{[]impl.Grant{grant(a, 0), grant(b, 256)}, impl.ErrForm},
		{[]impl.Grant{grant(a, 256), grant(b, 0)}, impl.ErrRange},
		{[]impl.Grant{grant(b, 1), grant(a, 1), grant(role(9, 1), 1)}, impl.ErrForm},
		{[]impl.Grant{grant(role(9, 1), 1), grant(a, 1)}, impl.ErrRange},
		{append(fullGrants()[:39], grant(role(8, 5), 256)), impl.ErrRange},
		{append(fullGrants()[:39], grant(role(8, 5), 0)), impl.ErrForm},
		{append(fullGrants()[:39], grant(role(8, 4), 1)), impl.ErrForm},
	}
	for _, c := range cases {
		if got := impl.GrantFault(c.grants); got != c.want {
			t.Errorf("GrantFault(%v) = %d, want %d", c.grants, got, c.want)
		}
		if got := impl.StepGrants(nil, c.grants); got.Code != c.want || !slices.Equal(got.Grants, wholeOr(c.grants, c.want)) {
			t.Errorf("StepGrants(nil, %v) = %+v, want code %d", c.grants, got, c.want)
		}
	}
}

// wholeOr is what a step without rules leaves: all, or nothing beside a code.
func wholeOr(grants []impl.Grant, code int64) []impl.Grant {
	if code != impl.OK {
		return nil
	}
	return grants
}

func TestGrantFaultAtEveryRoleAndSet(t *testing.T) {
	for owner := int64(-1); owner <= 10; owner++ {
		for name := int64(-1); name <= 7; name++ {
			for set := int64(-2); set <= 258; set++ {
				want := int64(impl.OK)
				if owner < 1 || owner > 8 || name < 1 || name > 5 || set < 0 || set > 255 {
					want = impl.ErrRange
				} else if set == 0 {
					want = impl.ErrForm
				}
				if got := impl.GrantFault([]impl.Grant{grant(role(owner, name), set)}); got != want {
					t.Fatalf("GrantFault of %d.%d and %d = %d, want %d", owner, name, set, got, want)
				}
			}
		}
	}
}

func TestGrantsFarOutOfBounds(t *testing.T) {
	var wrong []impl.Grant
	for _, set := range noSets {
		wrong = append(wrong, grant(role(1, 1), set), grant(role(8, 5), set))
	}
	for _, owner := range noPrincipals {
		wrong = append(wrong, grant(role(owner, 1), 1))
	}
	for _, name := range noNames {
		wrong = append(wrong, grant(role(1, name), 1), grant(role(1, name), 0))
	}
	for _, g := range wrong {
		if got := impl.GrantFault([]impl.Grant{g}); got != impl.ErrRange {
			t.Errorf("GrantFault(%v) = %d", g, got)
		}
		if got := impl.StepGrants(nil, []impl.Grant{g}); got.Code != impl.ErrRange || got.Grants != nil {
			t.Errorf("StepGrants(%v) = %+v", g, got)
		}
	}
}

func TestEveryTwoRolesInGrants(t *testing.T) {
	for i, one := range everyRole() {
		for j, two := range everyRole() {
			want := int64(impl.ErrForm)
			if i < j {
				want = impl.OK
			}
			if got := impl.GrantFault([]impl.Grant{grant(one, 3), grant(two, 5)}); got != want {
				t.Errorf("GrantFault of %v, %v = %d, want %d", one, two, got, want)
			}
		}
	}
}

func TestSteps(t *testing.T) {
	a, b, c, d := role(1, 1), role(2, 2), role(3, 3), role(4, 4)
	cases := []struct {
		name   string
		list   []impl.Rule
		grants []impl.Grant
		want   []impl.Grant
	}{
		{"nothing", nil, nil, nil},
		{"no rules, no grants", []impl.Rule{}, []impl.Grant{}, nil},
		{"no rules", nil, []impl.Grant{grant(a, 5)}, []impl.Grant{grant(a, 5)}},
		{"member", []impl.Rule{member(a, 3)}, nil, []impl.Grant{grant(a, 4)}},
		{"member besides others", []impl.Rule{member(a, 3)}, []impl.Grant{grant(a, 1)}, []impl.Grant{grant(a, 5)}},
		{"a Head whose rule gives nothing", []impl.Rule{contain(a, b)}, []impl.Grant{grant(a, 5)}, []impl.Grant{grant(a, 5)}},
		{"a Head whose rule gives others", []impl.Rule{contain(a, b)}, []impl.Grant{grant(a, 5), grant(b, 2)}, []impl.Grant{grant(a, 7), grant(b, 2)}},
		{"roles that no rule names", []impl.Rule{member(b, 3)}, []impl.Grant{grant(a, 9), grant(role(8, 5), 255)}, []impl.Grant{grant(a, 9), grant(b, 4), grant(role(8, 5), 255)}},
		{"roles that stand as One and Two alone", []impl.Rule{both(a, b, c)}, []impl.Grant{grant(b, 6), grant(c, 12)}, []impl.Grant{grant(a, 4), grant(b, 6), grant(c, 12)}},
		{"linked to a role that no rule names", []impl.Rule{linked(a, b, 4)}, []impl.Grant{grant(b, 8), grant(d, 64), grant(role(5, 4), 1)}, []impl.Grant{grant(a, 64), grant(b, 8), grant(d, 64), grant(role(5, 4), 1)}},
		{"nobody is given", []impl.Rule{contain(a, b), both(b, c, d), linked(c, d, 1)}, nil, nil},
		{"no rule sees what another gives", []impl.Rule{member(a, 1), contain(b, a), contain(c, b)}, nil, []impl.Grant{grant(a, 1)}},
		{"one step on", []impl.Rule{member(a, 1), contain(b, a), contain(c, b)}, []impl.Grant{grant(a, 2)}, []impl.Grant{grant(a, 3), grant(b, 2)}},
		{"two that change places", []impl.Rule{contain(a, b), contain(b, a)}, []impl.Grant{grant(a, 1), grant(b, 2)}, []impl.Grant{grant(a, 3), grant(b, 3)}},
		{"a chain goes one role on", []impl.Rule{contain(a, b), contain(b, c), contain(c, a)}, []impl.Grant{grant(a, 1)}, []impl.Grant{grant(a, 1), grant(c, 1)}},
		{"linked of its own Head", []impl.Rule{linked(a, a, 1)}, []impl.Grant{grant(a, 2), grant(role(2, 1), 4), grant(role(3, 1), 8)}, []impl.Grant{grant(a, 6), grant(role(2, 1), 4), grant(role(3, 1), 8)}},
		{"linked of all", []impl.Rule{linked(a, role(8, 5), 2)}, []impl.Grant{grant(role(1, 2), 1), grant(b, 2), grant(role(8, 2), 128), grant(role(8, 5), 255)}, []impl.Grant{grant(a, 131), grant(role(1, 2), 1), grant(b, 2), grant(role(8, 2), 128), grant(role(8, 5), 255)}},
		{"both with nobody in common", []impl.Rule{both(a, b, c)}, []impl.Grant{grant(b, 85), grant(c, 170)}, []impl.Grant{grant(b, 85), grant(c, 170)}},
	}
	for _, c := range cases {
		if got := impl.StepGrants(c.list, c.grants); got.Code != impl.OK || !slices.Equal(got.Grants, c.want) {
			t.Errorf("%s: %+v, want %v", c.name, got, c.want)
		}
	}
}

func TestStepsFromAnyGrants(t *testing.T) {
	d := dice(7)
	for i, list := range manyPolicies() {
		grants := d.denseGrants(int64(1+i%8), int64(1+i%5))
		want := grantsOfPairs(stepPairs(list, pairsOf(grants)))
		got := impl.StepGrants(list, grants)
		if got.Code != impl.OK || !slices.Equal(got.Grants, want) || impl.GrantFault(got.Grants) != impl.OK {
			t.Fatalf("StepGrants(%v, %v) = %+v, want %v", list, grants, got, want)
		}
	}
}

// wrongPolicies has lists under the PolicyFault that they have.
func wrongPolicies() map[int64][]impl.Rule {
	good := member(role(1, 1), 2)
	return map[int64][]impl.Rule{
		impl.ErrMany:  policyOf(17),
		impl.ErrForm:  {good, {Kind: 5}},
		impl.ErrRange: {good, member(role(1, 1), 9)},
		impl.ErrTaken: {good, contain(role(2, 2), role(1, 1)), good},
	}
}

func TestCodesOfAWrongPolicy(t *testing.T) { // the PolicyFault is ahead of all others
	for code, list := range wrongPolicies() {
		if got := impl.GrantsOf(list); got.Code != code || got.Grants != nil {
			t.Errorf("GrantsOf = %+v, want code %d", got, code)
		}
		for _, grants := range [][]impl.Grant{nil, fullGrants(), {{}}, {grant(role(1, 1), 0)}, slices.Repeat([]impl.Grant{{}}, 41)} {
			if got := impl.StepGrants(list, grants); got.Code != code || got.Grants != nil {
				t.Errorf("StepGrants of %v = %+v, want code %d", grants, got, code)
			}
		}
		for _, r := range []impl.Role{role(1, 1), role(5, 5), role(9, 1), {}} {
			if got := impl.MembersOf(list, r); got != (impl.IntResult{Code: code}) {
				t.Errorf("MembersOf %v = %+v, want code %d", r, got, code)
			}
			for _, who := range []int64{0, 1, 2, 9} {
				if got := impl.ProofOf(list, r, who); got.Code != code || got.List != nil {
					t.Errorf("ProofOf %v, %d = %+v, want code %d", r, who, got, code)
				}
				if impl.HasRole(list, r, who) {
					t.Errorf("HasRole %v, %d where there is code %d", r, who, code)
				}
			}
		}
	}
}

func TestCodesOfWrongRoles(t *testing.T) { // ErrRange by the role or by the principal, then ErrNone
	list := []impl.Rule{member(role(1, 1), 2), contain(role(8, 5), role(1, 1))}
	var wrong []impl.Role
	for _, number := range noPrincipals {
		wrong = append(wrong, role(number, 1), role(number, 6))
	}
	for _, number := range noNames {
		wrong = append(wrong, role(1, number), role(8, number))
	}
	for _, r := range wrong {
		if got := impl.MembersOf(list, r); got != (impl.IntResult{Code: impl.ErrRange}) {
			t.Errorf("MembersOf %v = %+v", r, got)
		}
		for _, who := range []int64{-1, 0, 1, 2, 8, 9} {
			if got := impl.ProofOf(list, r, who); got.Code != impl.ErrRange || got.List != nil {
				t.Errorf("ProofOf %v, %d = %+v", r, who, got)
			}
			if impl.HasRole(list, r, who) {
				t.Errorf("HasRole %v, %d", r, who)
			}
		}
	}
}

func TestCodesOfWrongPrincipals(t *testing.T) {
	list := []impl.Rule{member(role(1, 1), 2), contain(role(8, 5), role(1, 1))}
	for _, r := range []impl.Role{role(1, 1), role(8, 5), role(4, 4)} {
		for _, who := range noPrincipals {
			if got := impl.ProofOf(list, r, who); got.Code != impl.ErrRange || got.List != nil {
				t.Errorf("ProofOf %v, %d = %+v", r, who, got)
			}
			if impl.HasRole(list, r, who) {
				t.Errorf("HasRole %v, %d", r, who)
			}
		}
		for _, who := range []int64{1, 3, 8} {
			if got := impl.ProofOf(list, r, who); got.Code != impl.ErrNone || got.List != nil {
				t.Errorf("ProofOf %v, %d = %+v", r, who, got)
			}
		}
	}
	if got := impl.ProofOf(nil, role(1, 1), 1); got.Code != impl.ErrNone || got.List != nil {
		t.Errorf("ProofOf without rules = %+v", got)
	}
	if got := impl.MembersOf(nil, role(1, 1)); got != (impl.IntResult{}) {
		t.Errorf("MembersOf without rules = %+v", got)
	}
}

func grantsToKeep() [][]impl.Grant {
	return [][]impl.Grant{
		{}, fullGrants(), {grant(role(1, 1), 6), grant(role(8, 5), 255)}, {grant(role(8, 5), 1), grant(role(1, 1), 1)}, {{}},
		{grant(role(1, 1), math.MaxInt64)}, append(fullGrants(), grant(role(8, 5), 1)),
	}
}

func TestRulesAndGrantsHandedInAreUnchanged(t *testing.T) { // P1
	ruleMark, grantMark := impl.Rule{Kind: 77}, grant(role(77, 77), 77)
	for _, list := range append(policiesToKeep(), chainPolicy()) {
		for _, grants := range grantsToKeep() {
			rules := append(slices.Clone(list), ruleMark, ruleMark)
			sets := append(slices.Clone(grants), grantMark, grantMark)
			givenRules, givenSets := rules[:len(list)], sets[:len(grants)]
			impl.MembersOf(givenRules, role(1, 1))
			impl.HasRole(givenRules, role(1, 1), 2)
			impl.GrantFault(givenSets)
			spoil(impl.GrantsOf(givenRules).Grants, grant(role(-7, -7), -7))
			spoil(impl.StepGrants(givenRules, givenSets).Grants, grant(role(-7, -7), -7))
			spoil(impl.ProofOf(givenRules, role(1, 1), 1).List, -7)
			if want := append(slices.Clone(list), ruleMark, ruleMark); !slices.Equal(rules, want) {
				t.Errorf("%v was changed to %v", want, rules)
			}
			if want := append(slices.Clone(grants), grantMark, grantMark); !slices.Equal(sets, want) {
				t.Errorf("%v was changed to %v", want, sets)
			}
		}
	}
}

func answersOfFix(list []impl.Rule, grants []impl.Grant) string {
	text := fmt.Sprint(impl.GrantsOf(list), impl.StepGrants(list, grants), impl.GrantFault(grants))
	for _, r := range []impl.Role{role(1, 1), role(2, 2), role(8, 5), role(9, 9)} {
		for _, who := range []int64{0, 1, 2, 8} {
			text += fmt.Sprint(impl.MembersOf(list, r), impl.HasRole(list, r, who), impl.ProofOf(list, r, who))
		}
	}
	return text
}

func TestSameRulesAndGrantsSameAnswers(t *testing.T) { // P1: nothing is kept, and no order of a map is to be seen
	lists := append(policiesToKeep(), chainPolicy())
	lists = append(lists, manyPolicies()[:200]...)
	first := map[[2]int]string{}
	for i, list := range lists {
		for j, grants := range grantsToKeep() {
			first[[2]int{i, j}] = answersOfFix(list, grants)
		}
	}
	for i, list := range slices.Backward(lists) {
		for j, grants := range slices.Backward(grantsToKeep()) {
			if again := answersOfFix(list, grants); again != first[[2]int{i, j}] {
				t.Fatalf("%v, %v: first %s, then %s", list, grants, first[[2]int{i, j}], again)
			}
		}
	}
}

func TestEmptyAndNilAreTheSame(t *testing.T) { // P1
	for _, grants := range grantsToKeep() {
		if one, two := impl.StepGrants(nil, grants), impl.StepGrants([]impl.Rule{}, grants); one.Code != two.Code || !slices.Equal(one.Grants, two.Grants) {
			t.Errorf("no rules: %v, %v", one, two)
		}
	}
	for _, list := range policiesToKeep() {
		if one, two := impl.StepGrants(list, nil), impl.StepGrants(list, []impl.Grant{}); one.Code != two.Code || !slices.Equal(one.Grants, two.Grants) {
			t.Errorf("no grants: %v, %v", one, two)
		}
	}
}

func TestGrantsShareNoMemory(t *testing.T) { // P1
	wrong := grant(role(-7, -7), -7)
	for _, list := range append(policiesToKeep(), chainPolicy()) {
		want := slices.Clone(impl.GrantsOf(list).Grants)
		one, two := impl.GrantsOf(list), impl.GrantsOf(list)
		spoil(one.Grants, wrong)
		if !slices.Equal(two.Grants, want) || !slices.Equal(impl.GrantsOf(list).Grants, want) {
			t.Errorf("grants of %v share memory", list)
		}
		proof := slices.Clone(impl.ProofOf(list, role(1, 1), 1).List)
		first, second := impl.ProofOf(list, role(1, 1), 1), impl.ProofOf(list, role(1, 1), 1)
		spoil(first.List, -7)
		if !slices.Equal(second.List, proof) {
			t.Errorf("proofs of %v share memory", list)
		}
		for _, grants := range grantsToKeep() {
			step := slices.Clone(impl.StepGrants(list, grants).Grants)
			left, right := impl.StepGrants(list, grants), impl.StepGrants(list, grants)
			spoil(left.Grants, wrong)
			if !slices.Equal(right.Grants, step) || !slices.Equal(impl.StepGrants(list, grants).Grants, step) {
				t.Errorf("steps of %v from %v share memory", list, grants)
			}
		}
	}
}
