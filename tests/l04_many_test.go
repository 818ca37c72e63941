package tests

import (
	"fmt"
	"math"
	"reflect"
	"slices"
	"testing"

	"loop.example/g00338/impl"
)

func single(r impl.Role) impl.Part {
	return impl.Part{Kind: impl.ManyOne, Role: r}
}

func anyOf(left int64, right int64) impl.Part {
	return impl.Part{Kind: impl.ManyAny, Left: left, Right: right}
}

func apart(left int64, right int64) impl.Part {
	return impl.Part{Kind: impl.ManyApart, Left: left, Right: right}
}

// sets makes the numbers of sets from lists of principals.
func sets(lists ...[]int64) []int64 {
	var numbers []int64
	for _, list := range lists {
		number := int64(0)
		for _, p := range list {
			number += int64(math.Pow(2, float64(p-1)))
		}
		numbers = append(numbers, number)
	}
	return numbers
}

// membersRules lets exactly the principals of a list have a role.
func membersRules(r impl.Role, who ...int64) []impl.Rule {
	var list []impl.Rule
	for _, p := range who {
		list = append(list, member(r, p))
	}
	return list
}

// doubled refers from each part but the first to the one ahead, twice.
func doubled(count int, part func(int64, int64) impl.Part) []impl.Part {
	parts := []impl.Part{single(role(1, 1))}
	for place := int64(1); place < int64(count); place++ {
		parts = append(parts, part(place-1, place-1))
	}
	return parts
}

// form has parts of few roles, of which some may have nobody.
func (d *dice) form(count int, owners int64, names int64) []impl.Part {
	parts := []impl.Part{single(d.denseRole(owners, names))}
	for place := int64(1); place < int64(count); place++ {
		kinds := []impl.Part{single(d.denseRole(owners, names)), anyOf(d.below(place), d.below(place)), apart(d.below(place), d.below(place))}
		parts = append(parts, kinds[d.below(3)])
	}
	return parts
}

type formCase struct {
	name  string
	list  []impl.Rule
	parts []impl.Part
	want  []int64
}

// manyForms has forms of 1 to 8 parts, with policies by which somebody has some of their roles.
func manyForms() []formCase {
	d := dice(11)
	all := setCases()
	for i := range 500 {
		owners, names := int64(2+i%3), int64(1+i%2)
		list := d.densePolicy(16, owners, names)
		all = append(all, formCase{name: fmt.Sprint("few roles, ", i), list: list, parts: d.form(1+i%8, owners, names)})
	}
	for i := range 100 {
		var list []impl.Rule
		for range 16 {
			if rule := member(d.denseRole(2, 2), d.below(8)+1); !slices.Contains(list, rule) {
				list = append(list, rule)
			}
		}
		all = append(all, formCase{name: fmt.Sprint("many members, ", i), list: list, parts: d.form(1+i%8, 2, 2)})
	}
	return all
}

// setCases are worked out by hand.
func setCases() []formCase {
	a, b, c := role(1, 1), role(1, 2), role(3, 4)
	example := []impl.Rule{member(a, 2), member(b, 2), member(b, 3)}
	three := membersRules(a, 1, 4, 8)
	alone := membersRules(a, 5)
	crossed := append(membersRules(a, 1, 3), membersRules(b, 2, 3)...)
	all := membersRules(a, 1, 2, 3, 4, 5, 6, 7, 8)
	var every []int64
	for set := range int64(255) {
		every = append(every, set+1)
	}
	return []formCase{
		{"one", example, []impl.Part{single(b)}, sets([]int64{2}, []int64{3})},
		{"one, of all", all, []impl.Part{single(a)}, []int64{1, 2, 4, 8, 16, 32, 64, 128}},
		{"one, by a rule that leans on another", append(membersRules(a, 7), contain(c, a)), []impl.Part{single(c)}, sets([]int64{7})},
		{"one, that nobody has", example, []impl.Part{single(c)}, nil},
		{"one, without rules", nil, []impl.Part{single(a)}, nil},
		{"any", example, []impl.Part{single(a), single(b), anyOf(0, 1)}, sets([]int64{2}, []int64{2, 3})},
		{"any, the other way round", example, []impl.Part{single(a), single(b), anyOf(1, 0)}, sets([]int64{2}, []int64{2, 3})},
		{"apart", example, []impl.Part{single(a), single(b), apart(0, 1)}, sets([]int64{2, 3})},
		{"apart, the other way round", example, []impl.Part{single(a), single(b), apart(1, 0)}, sets([]int64{2, 3})},
		{"any of the same one", three, []impl.Part{single(a), anyOf(0, 0)}, sets([]int64{1}, []int64{4}, []int64{1, 4}, []int64{8}, []int64{1, 8}, []int64{4, 8})},
		{"apart of the same one", three, []impl.Part{single(a), apart(0, 0)}, sets([]int64{1, 4}, []int64{1, 8}, []int64{4, 8})},
		{"any of the same one, of one principal", alone, []impl.Part{single(a), anyOf(0, 0)}, sets([]int64{5})},
		{"apart of the same one, of one principal", alone, []impl.Part{single(a), apart(0, 0)}, nil},
		{"any of the same one of several", three, []impl.Part{single(a), apart(0, 0), anyOf(1, 1)}, sets([]int64{1, 4}, []int64{1, 8}, []int64{4, 8}, []int64{1, 4, 8})},
		{"apart of the same one of several", three, []impl.Part{single(a), anyOf(0, 0), apart(1, 1)}, sets([]int64{1, 4}, []int64{1, 8}, []int64{4, 8}, []int64{1, 4, 8})},
		{"apart of the same one of several, with too few", three, []impl.Part{single(a), apart(0, 0), apart(1, 1)}, nil},
		{"two parts of the same role", three, []impl.Part{single(a), single(a), apart(0, 1)}, sets([]int64{1, 4}, []int64{1, 8}, []int64{4, 8})},
		{"any with a role that nobody has", three, []impl.Part{single(a), single(c), anyOf(0, 1)}, nil},
		{"any with a role that nobody has, as Left", three, []impl.Part{single(a), single(c), anyOf(1, 0)}, nil},
		{"apart with a role that nobody has", three, []impl.Part{single(a), single(c), apart(0, 1)}, nil},
		{"any of nobody", nil, []impl.Part{single(a), anyOf(0, 0)}, nil},
		{"any of what has no set", alone, []impl.Part{single(a), apart(0, 0), anyOf(0, 1)}, nil},
		{"apart, where nobody else is", []impl.Rule{member(a, 6), member(b, 6)}, []impl.Part{single(a), single(b), apart(0, 1)}, nil},
		{"any, where nobody else is", []impl.Rule{member(a, 6), member(b, 6)}, []impl.Part{single(a), single(b), anyOf(0, 1)}, sets([]int64{6})},
		{"told twice", crossed, []impl.Part{single(a), single(b), anyOf(0, 1)}, sets([]int64{1, 2}, []int64{3}, []int64{1, 3}, []int64{2, 3})},
		{"told twice, apart", crossed, []impl.Part{single(a), single(b), apart(0, 1), anyOf(2, 2)}, sets([]int64{1, 2}, []int64{1, 3}, []int64{2, 3}, []int64{1, 2, 3})},
		{"parts that nothing refers to", three, []impl.Part{single(b), anyOf(0, 0), single(c), apart(2, 1), single(a)}, sets([]int64{1}, []int64{4}, []int64{8})},
		{"the last part counts, not the longest", three, []impl.Part{single(a), anyOf(0, 0), apart(1, 1), apart(0, 0)}, sets([]int64{1, 4}, []int64{1, 8}, []int64{4, 8})},
		{"one within any within apart", crossed, []impl.Part{single(a), single(b), anyOf(0, 1), apart(2, 0)}, sets([]int64{1, 3}, []int64{1, 2, 3})},
		{"all sets", all, doubled(8, anyOf), every},
		{"two of all", all, doubled(2, apart), pairsOfPrincipals()},
		{"eight of all", all, doubled(4, apart), []int64{255}},
		{"more than all", all, doubled(5, apart), nil},
		{"8 parts apart", all, []impl.Part{single(a), apart(0, 0), apart(0, 1), apart(0, 2), apart(0, 3), apart(0, 4), apart(0, 5), apart(0, 6)}, []int64{255}},
		{"8 parts apart of 7", membersRules(a, 1, 2, 3, 4, 5, 6, 8), []impl.Part{single(a), apart(0, 0), apart(0, 1), apart(0, 2), apart(0, 3), apart(0, 4), apart(0, 5), apart(0, 6)}, nil},
	}
}

func pairsOfPrincipals() []int64 {
	var all []int64
	for high := 1; high < 8; high++ {
		for low := range high {
			all = append(all, 1<<high+1<<low)
		}
	}
	return all
}

// splitter asks of a set whether it can be parted as a form asks, while the program puts sets together: so they share no fault.
type splitter struct {
	pairs map[has]bool
	parts []impl.Part
	known map[[2]int64]bool
}

func splitterOf(list []impl.Rule, parts []impl.Part) splitter {
	steps := stepsOf(list)
	return splitter{steps[len(steps)-1], parts, map[[2]int64]bool{}}
}

func (s splitter) has(place int64, set int64) bool {
	key := [2]int64{place, set}
	answer, ok := s.known[key]
	if !ok {
		answer = s.parted(s.parts[place], set)
		s.known[key] = answer
	}
	return answer
}

func (s splitter) parted(part impl.Part, set int64) bool {
	if part.Kind == impl.ManyOne {
		list := listOfSet(int(set))
		return len(list) == 1 && s.pairs[has{part.Role, list[0]}]
	}
	for left := set; left > 0; left = (left - 1) & set {
		if !s.has(part.Left, left) {
			continue
		}
		if part.Kind == impl.ManyApart && s.has(part.Right, set-left) {
			return true
		}
		for common := left; part.Kind == impl.ManyAny && common >= 0; common-- {
			if common&^left == 0 && s.has(part.Right, set-left+common) {
				return true
			}
		}
	}
	return false
}

func (s splitter) all() []int64 {
	var sets []int64
	for set := range int64(allSets) {
		if s.has(int64(len(s.parts)-1), set) {
			sets = append(sets, set)
		}
	}
	return sets
}

// fewest has the least of the sets of the fewest principals, and whether there is one.
func fewest(sets []int64) (int64, bool) {
	sorted := slices.Clone(sets)
	slices.SortFunc(sorted, func(a int64, b int64) int {
		if by := len(listOfSet(int(a))) - len(listOfSet(int(b))); by != 0 {
			return by
		}
		return int(a - b)
	})
	if len(sorted) == 0 {
		return 0, false
	}
	return sorted[0], true
}

// checkSets holds all that is told of a form against the sets that it should have.
func checkSets(t *testing.T, c formCase, want []int64) {
	t.Helper()
	got := impl.SetsOf(c.list, c.parts)
	if got.Code != impl.OK || !slices.Equal(got.Sets, want) {
		t.Errorf("%s: SetsOf(%v, %v) = %+v, want %v", c.name, c.list, c.parts, got, want)
	}
	for set := int64(-2); set < allSets+2; set++ {
		if admitted := impl.Admits(c.list, c.parts, set); admitted != slices.Contains(want, set) {
			t.Errorf("%s: Admits(%v, %v, %d) = %v", c.name, c.list, c.parts, set, admitted)
		}
	}
	least := impl.IntResult{Code: impl.ErrNone}
	if set, ok := fewest(want); ok {
		least = impl.IntResult{Value: set}
	}
	if got := impl.LeastOf(c.list, c.parts); got != least {
		t.Errorf("%s: LeastOf(%v, %v) = %+v, want %+v", c.name, c.list, c.parts, got, least)
	}
}

func TestManyConstants(t *testing.T) {
	got := []int64{impl.ManyOne, impl.ManyAny, impl.ManyApart, impl.MaxParts}
	if want := []int64{1, 2, 3, 8}; !slices.Equal(got, want) {
		t.Errorf("constants %v, want %v", got, want)
	}
}

func TestSetsByHand(t *testing.T) { // P5
	for _, c := range setCases() {
		checkSets(t, c, c.want)
	}
}

func TestSetsBySplitting(t *testing.T) { // P5
	some, none := 0, 0
	for _, c := range manyForms() {
		want := splitterOf(c.list, c.parts).all()
		checkSets(t, c, want)
		if len(want) > 0 {
			some++
		} else {
			none++
		}
	}
	if some < 200 || none < 50 {
		t.Errorf("%d forms with sets, %d without", some, none)
	}
}

// joined has each set that comes of one of left and one of right, principal by principal.
func joined(left []int64, right []int64, kind int64) []int64 {
	var all []int64
	for _, one := range left {
		for _, two := range right {
			who := map[int64]int{}
			for _, p := range append(listOfSet(int(one)), listOfSet(int(two))...) {
				who[p]++
			}
			common, number := false, int64(0)
			for p, times := range who {
				common = common || times > 1
				number += sets([]int64{p})[0]
			}
			if !common || kind == impl.ManyAny {
				all = append(all, number)
			}
		}
	}
	slices.Sort(all)
	return slices.Compact(all)
}

func TestAFormOfTwoPartsHasWhatComesOfTheirs(t *testing.T) { // P5
	asked := 0
	for _, c := range manyForms() {
		if len(c.parts) > 7 {
			continue
		}
		last := int64(len(c.parts)) - 1
		for _, left := range []int64{0, last / 2, last} {
			for _, right := range []int64{0, last} {
				one, two := impl.SetsOf(c.list, c.parts[:left+1]).Sets, impl.SetsOf(c.list, c.parts[:right+1]).Sets
				if len(one)*len(two) > 1000 {
					continue
				}
				for _, part := range []impl.Part{anyOf(left, right), apart(left, right)} {
					asked++
					parts := append(slices.Clone(c.parts), part)
					if got, want := impl.SetsOf(c.list, parts), joined(one, two, part.Kind); got.Code != impl.OK || !slices.Equal(got.Sets, want) {
						t.Fatalf("SetsOf(%v, %v) = %+v, want %v", c.list, parts, got, want)
					}
				}
			}
		}
	}
	if asked < 2000 {
		t.Errorf("asked %d only", asked)
	}
}

func TestTheLeastIsAdmittedAndNoneOfFewer(t *testing.T) { // P5
	for _, c := range manyForms() {
		least := impl.LeastOf(c.list, c.parts)
		if least.Code == impl.OK && !impl.Admits(c.list, c.parts, least.Value) {
			t.Fatalf("%v, %v: the least one, %d, is not admitted", c.list, c.parts, least.Value)
		}
		size := len(listOfSet(int(least.Value)))
		for set := range int64(allSets) {
			admitted := impl.Admits(c.list, c.parts, set)
			if least.Code == impl.ErrNone && admitted {
				t.Fatalf("%v, %v: ErrNone, but %d is admitted", c.list, c.parts, set)
			}
			if other := len(listOfSet(int(set))); admitted && (other < size || other == size && set < least.Value) {
				t.Fatalf("%v, %v: the least one is %d, but %d is admitted", c.list, c.parts, least.Value, set)
			}
		}
	}
}

func TestTheLeastOfTheFewest(t *testing.T) {
	a, b := role(1, 1), role(1, 2)
	parts := []impl.Part{single(a), single(b), anyOf(0, 1)}
	strict := []impl.Part{single(a), single(b), apart(0, 1)}
	cases := []struct {
		one, two []int64
		parts    []impl.Part
		want     int64
	}{
		{[]int64{1, 3}, []int64{2, 3}, parts, 4},
		{[]int64{1, 3}, []int64{2, 3}, strict, 3},
		{[]int64{1, 8}, []int64{2, 8}, parts, 128},
		{[]int64{8, 7}, []int64{7, 8}, parts, 64},
		{[]int64{8, 5}, []int64{6, 7}, parts, 48},
		{[]int64{8}, []int64{8, 1}, strict, 129},
		{[]int64{2, 3, 4}, []int64{2, 3, 4}, parts[:1], 2},
	}
	for _, c := range cases {
		list := append(membersRules(a, c.one...), membersRules(b, c.two...)...)
		if got := impl.LeastOf(list, c.parts); got != (impl.IntResult{Value: c.want}) {
			t.Errorf("LeastOf %v, %v, %v = %+v, want %d", c.one, c.two, c.parts, got, c.want)
		}
	}
}

func wantPartFault(p impl.Part, place int64) int64 {
	inside := p.Role.Owner >= 1 && p.Role.Owner <= 8 && p.Role.Name >= 1 && p.Role.Name <= 5
	switch {
	case p.Kind < 1 || p.Kind > 3:
		return impl.ErrForm
	case p.Kind == 1 && !inside:
		return impl.ErrRange
	case p.Kind == 1 && (p.Left != 0 || p.Right != 0):
		return impl.ErrForm
	case p.Kind == 1:
		return impl.OK
	case p.Role.Owner != 0 || p.Role.Name != 0:
		return impl.ErrForm
	case min(p.Left, p.Right) < 0 || max(p.Left, p.Right) >= place:
		return impl.ErrRange
	}
	return impl.OK
}

// checkParts asks all that have the code of PartsFault for it.
func checkParts(t *testing.T, parts []impl.Part, want int64) {
	t.Helper()
	list := someRules()
	if got := impl.PartsFault(parts); got != want {
		t.Fatalf("PartsFault(%v) = %d, want %d", parts, got, want)
	}
	if want == impl.OK {
		return
	}
	if got := impl.SetsOf(list, parts); got.Code != want || got.Sets != nil {
		t.Fatalf("SetsOf(%v) = %+v, want code %d", parts, got, want)
	}
	if got := impl.LeastOf(list, parts); got != (impl.IntResult{Code: want}) {
		t.Fatalf("LeastOf(%v) = %+v, want code %d", parts, got, want)
	}
	if got := impl.PartText(parts); got != (impl.TextResult{Code: want}) {
		t.Fatalf("PartText(%v) = %+v, want code %d", parts, got, want)
	}
	for set := range int64(3) {
		if impl.Admits(list, parts, set) {
			t.Fatalf("Admits(%v, %d), where there is code %d", parts, set, want)
		}
	}
}

// eachPart calls with each part whose numbers are among those given.
func eachPart(kinds []int64, owners []int64, names []int64, places []int64, call func(impl.Part)) {
	for _, kind := range kinds {
		for _, owner := range owners {
			for _, name := range names {
				for _, left := range places {
					for _, right := range places {
						call(impl.Part{Kind: kind, Role: role(owner, name), Left: left, Right: right})
					}
				}
			}
		}
	}
}

func TestPartsFaultAtTheEdges(t *testing.T) {
	for _, place := range []int64{0, 1, 2, 7} {
		for _, behind := range []int64{0, 1} {
			parts := slices.Repeat([]impl.Part{single(role(1, 1))}, int(min(place+1+behind, 8)))
			eachPart([]int64{-1, 0, 1, 2, 3, 4}, []int64{0, 1, 8, 9}, []int64{0, 1, 5, 6}, []int64{-1, 0, place - 1, place, place + 1}, func(p impl.Part) {
				parts[place] = p
				checkParts(t, parts, wantPartFault(p, place))
			})
		}
	}
}

func TestPartsFaultAtGreatNumbers(t *testing.T) {
	values := []int64{math.MinInt64, -1 << 32, 0, 1, 1<<32 + 1, math.MaxInt64}
	kinds := []int64{math.MinInt64, 0, 1, 2, 3, 4, 1<<32 + 1, 1<<32 + 2, math.MaxInt64}
	parts := []impl.Part{single(role(1, 1)), single(role(8, 5)), {}}
	eachPart(kinds, values, values, values, func(p impl.Part) {
		parts[2] = p
		checkParts(t, parts, wantPartFault(p, 2))
	})
}

func TestPartsFault(t *testing.T) {
	good, top := single(role(1, 1)), single(role(8, 5))
	shapeless, outside := impl.Part{Kind: 4}, single(role(9, 1))
	stray := impl.Part{Kind: 1, Role: role(1, 1), Left: 1}
	cases := []struct {
		parts []impl.Part
		want  int64
	}{
		{nil, impl.ErrMany},
		{[]impl.Part{}, impl.ErrMany},
		{[]impl.Part{good}, impl.OK},
		{[]impl.Part{top}, impl.OK},
		{slices.Repeat([]impl.Part{good}, 8), impl.OK},
		{doubled(8, apart), impl.OK},
		{slices.Repeat([]impl.Part{good}, 9), impl.ErrMany},
		{doubled(9, anyOf), impl.ErrMany},
		{slices.Repeat([]impl.Part{shapeless}, 9), impl.ErrMany},
		{slices.Repeat([]impl.Part{outside}, 9), impl.ErrMany},
		{slices.Repeat([]impl.Part{good}, 5000), impl.ErrMany},
		{[]impl.Part{{}}, impl.ErrForm},
		{[]impl.Part{{Role: role(1, 1)}}, impl.ErrForm},
		{[]impl.Part{shapeless}, impl.ErrForm},
		{[]impl.Part{{Kind: 4, Role: role(9, 9), Left: -1, Right: 9}}, impl.ErrForm},
		{[]impl.Part{{Kind: 1}}, impl.ErrRange},
		{[]impl.Part{outside}, impl.ErrRange},
		{[]impl.Part{single(role(0, 1))}, impl.ErrRange},
		{[]impl.Part{single(role(1, 0))}, impl.ErrRange},
		{[]impl.Part{single(role(8, 6))}, impl.ErrRange},
		{[]impl.Part{{Kind: 1, Role: role(9, 1), Left: 1}}, impl.ErrRange},
		{[]impl.Part{{Kind: 1, Role: role(1, 6), Right: -1}}, impl.ErrRange},
		{[]impl.Part{stray}, impl.ErrForm},
		{[]impl.Part{{Kind: 1, Role: role(1, 1), Right: 1}}, impl.ErrForm},
		{[]impl.Part{good, good, {Kind: 1, Role: role(1, 1), Right: 1}}, impl.ErrForm},
		{[]impl.Part{good, {Kind: 1, Role: role(1, 1), Left: -1, Right: 1}}, impl.ErrForm},
		{[]impl.Part{anyOf(0, 0)}, impl.ErrRange},
		{[]impl.Part{apart(0, 0)}, impl.ErrRange},
		{[]impl.Part{good, anyOf(0, 0)}, impl.OK},
		{[]impl.Part{good, apart(0, 0)}, impl.OK},
		{[]impl.Part{good, anyOf(-1, 0)}, impl.ErrRange},
		{[]impl.Part{good, anyOf(0, -1)}, impl.ErrRange},
		{[]impl.Part{good, apart(1, 0)}, impl.ErrRange},
		{[]impl.Part{good, apart(0, 1)}, impl.ErrRange},
		{[]impl.Part{good, anyOf(0, 2), good}, impl.ErrRange},
		{[]impl.Part{good, anyOf(2, 0), good}, impl.ErrRange},
		{[]impl.Part{good, good, apart(0, 1)}, impl.OK},
		{[]impl.Part{good, {Kind: 2, Role: role(1, 0)}}, impl.ErrForm},
		{[]impl.Part{good, {Kind: 2, Role: role(0, 1)}}, impl.ErrForm},
		{[]impl.Part{good, {Kind: 3, Role: role(1, 1)}}, impl.ErrForm},
		{[]impl.Part{good, {Kind: 3, Role: role(9, 9), Left: 7, Right: -1}}, impl.ErrForm},
		{[]impl.Part{good, {Kind: 2, Role: role(0, -1), Left: 1}}, impl.ErrForm},
		{[]impl.Part{outside, shapeless}, impl.ErrRange},
		{[]impl.Part{shapeless, outside}, impl.ErrForm},
		{[]impl.Part{stray, outside}, impl.ErrForm},
		{[]impl.Part{good, anyOf(0, 1), stray}, impl.ErrRange},
		{[]impl.Part{good, stray, anyOf(0, 3)}, impl.ErrForm},
		{[]impl.Part{shapeless, good}, impl.ErrForm},
		{[]impl.Part{outside, good}, impl.ErrRange},
		{append(slices.Repeat([]impl.Part{good}, 7), shapeless), impl.ErrForm},
		{append(slices.Repeat([]impl.Part{good}, 7), anyOf(7, 0)), impl.ErrRange},
		{append(slices.Repeat([]impl.Part{good}, 7), anyOf(6, 6)), impl.OK},
	}
	for _, c := range cases {
		checkParts(t, c.parts, c.want)
	}
}

// wrongForms has forms under the PartsFault that they have.
func wrongForms() map[int64][]impl.Part {
	good := single(role(1, 1))
	return map[int64][]impl.Part{
		impl.ErrMany:  nil,
		impl.ErrForm:  {good, {Kind: 4}},
		impl.ErrRange: {good, anyOf(0, 1)},
	}
}

func TestCodesOfManyInTheirOrder(t *testing.T) { // the PolicyFault, then the PartsFault, then ErrNone of LeastOf
	forms := [][]impl.Part{{single(role(1, 1))}, {single(role(7, 5))}}
	for _, parts := range wrongForms() {
		forms = append(forms, parts)
	}
	for code, list := range wrongPolicies() {
		for _, parts := range forms {
			if got := impl.SetsOf(list, parts); got.Code != code || got.Sets != nil {
				t.Errorf("SetsOf(%v) = %+v, want code %d", parts, got, code)
			}
			if got := impl.LeastOf(list, parts); got != (impl.IntResult{Code: code}) {
				t.Errorf("LeastOf(%v) = %+v, want code %d", parts, got, code)
			}
			for set := range int64(allSets) {
				if impl.Admits(list, parts, set) {
					t.Errorf("Admits(%v, %d), where there is code %d", parts, set, code)
				}
			}
		}
	}
	for code, parts := range wrongForms() {
		for _, list := range [][]impl.Rule{nil, policyOf(16), {contain(role(1, 1), role(2, 2))}} {
			if got := impl.LeastOf(list, parts); got != (impl.IntResult{Code: code}) {
				t.Errorf("LeastOf(%v) = %+v, want code %d", parts, got, code)
			}
		}
	}
}

func TestAdmitsNothingThatIsNoSet(t *testing.T) {
	list := membersRules(role(1, 1), 1, 2, 3, 4, 5, 6, 7, 8)
	for _, parts := range [][]impl.Part{doubled(1, anyOf), doubled(4, anyOf), doubled(8, anyOf)} {
		for _, set := range append([]int64{0}, noSets...) {
			if impl.Admits(list, parts, set) {
				t.Errorf("Admits(%v, %d)", parts, set)
			}
		}
	}
}

// textOfParts is written anew here, from the last part down.
func textOfParts(parts []impl.Part, place int64) string {
	p := parts[place]
	if p.Kind == impl.ManyOne {
		return fmt.Sprintf("%d.%d", p.Role.Owner, p.Role.Name)
	}
	sign := map[int64]string{impl.ManyAny: "+", impl.ManyApart: "*"}[p.Kind]
	return fmt.Sprintf("(%s %s %s)", textOfParts(parts, p.Left), sign, textOfParts(parts, p.Right))
}

func TestPartTexts(t *testing.T) {
	a, b, c := single(role(1, 1)), single(role(1, 2)), single(role(8, 5))
	cases := []struct {
		parts []impl.Part
		want  string
	}{
		{[]impl.Part{a}, "1.1"},
		{[]impl.Part{c}, "8.5"},
		{[]impl.Part{a, b}, "1.2"},
		{[]impl.Part{a, b, anyOf(0, 1)}, "(1.1 + 1.2)"},
		{[]impl.Part{a, b, apart(0, 1)}, "(1.1 * 1.2)"},
		{[]impl.Part{a, b, apart(1, 0)}, "(1.2 * 1.1)"},
		{[]impl.Part{a, anyOf(0, 0)}, "(1.1 + 1.1)"},
		{[]impl.Part{a, b, anyOf(0, 1), apart(2, 0)}, "((1.1 + 1.2) * 1.1)"},
		{[]impl.Part{a, b, anyOf(0, 1), apart(0, 2)}, "(1.1 * (1.1 + 1.2))"},
		{[]impl.Part{a, b, apart(0, 1), c, anyOf(2, 3), apart(2, 4)}, "((1.1 * 1.2) * ((1.1 * 1.2) + 8.5))"},
		{[]impl.Part{a, b, anyOf(0, 1), c}, "8.5"},
	}
	for _, c := range cases {
		if got := impl.PartText(c.parts); got != (impl.TextResult{Text: c.want}) {
			t.Errorf("PartText(%v) = %+v, want %q", c.parts, got, c.want)
		}
	}
}

// A form in which roles stand n times has a text of 8 times n less 5 bytes: of 195 and 203 bytes, but none of just 200.
func TestPartTextsUpTo200Bytes(t *testing.T) {
	cases := []struct {
		parts []impl.Part
		bytes int
	}{
		{[]impl.Part{single(role(1, 1)), anyOf(0, 0), anyOf(1, 0), anyOf(2, 2), apart(3, 3), anyOf(4, 4), apart(5, 0)}, 195},
		{[]impl.Part{single(role(1, 1)), anyOf(0, 0), anyOf(1, 0), anyOf(2, 2), apart(3, 3), apart(0, 4), anyOf(5, 5)}, 203},
		{doubled(5, apart), 123},
		{doubled(6, apart), 251},
		{doubled(8, anyOf), 1019},
		{append(doubled(7, anyOf), single(role(2, 3))), 3},
		{append(doubled(7, anyOf), apart(1, 2)), 43},
	}
	for _, c := range cases {
		text := textOfParts(c.parts, int64(len(c.parts))-1)
		if len(text) != c.bytes {
			t.Fatalf("%v: %d bytes, not %d", c.parts, len(text), c.bytes)
		}
		want := impl.TextResult{Text: text}
		if c.bytes > 200 {
			want = impl.TextResult{Code: impl.ErrMany}
		}
		if got := impl.PartText(c.parts); got != want {
			t.Errorf("PartText(%v) = %+v, want %+v", c.parts, got, want)
		}
	}
}

func TestManyPartTexts(t *testing.T) {
	d, long := dice(13), 0
	var forms [][]impl.Part
	for i := range 5000 {
		forms = append(forms, d.form(1+i%8, 8, 5))
	}
	for i := range int64(200) {
		parts, place := doubled(8, anyOf), i%7+1
		parts[place] = apart(d.below(place), d.below(place))
		forms = append(forms, parts)
	}
	for _, parts := range forms {
		want := impl.TextResult{Text: textOfParts(parts, int64(len(parts))-1)}
		if len(want.Text) > 200 {
			want = impl.TextResult{Code: impl.ErrMany}
			long++
		}
		if got := impl.PartText(parts); got != want {
			t.Fatalf("PartText(%v) = %+v, want %+v", parts, got, want)
		}
	}
	if long < 20 || long > 2000 {
		t.Errorf("%d long ones", long)
	}
}

func TestWithMoreRulesNobodyHasLess(t *testing.T) { // P5
	d, more := dice(17), 0
	for _, list := range manyPolicies() {
		var some []impl.Rule
		for _, rule := range list {
			if d.below(3) > 0 {
				some = append(some, rule)
			}
		}
		behind := slices.Clone(list)
		if rule := linked(d.denseRole(8, 5), d.denseRole(8, 5), d.below(5)+1); len(list) < 16 && !slices.Contains(list, rule) {
			behind = append(behind, rule)
		}
		for _, lists := range [][2][]impl.Rule{{some, list}, {list[:len(list)/2], list}, {list[len(list)/2:], list}, {list, behind}} {
			few, many := lists[0], lists[1]
			if !impl.Widens(few, many) {
				t.Fatalf("Widens(%v, %v) is false", few, many)
			}
			pairs := pairsOf(impl.GrantsOf(many).Grants)
			for pair := range pairsOf(impl.GrantsOf(few).Grants) {
				if !pairs[pair] {
					t.Fatalf("%v has %v no more with the rules %v", pair.who, pair.role, many)
				}
			}
			if len(pairs) > len(pairsOf(impl.GrantsOf(few).Grants)) {
				more++
			}
		}
	}
	if more < 500 {
		t.Errorf("%d times more only", more)
	}
}

func TestWidens(t *testing.T) {
	a, b, c := role(1, 1), role(2, 2), role(3, 3)
	cases := []struct {
		name      string
		one, two  []impl.Rule
		want, too bool // two widens one, one widens two
	}{
		{"nothing", nil, nil, true, true},
		{"empty and nil", []impl.Rule{}, nil, true, true},
		{"nil and somebody", nil, []impl.Rule{member(a, 1)}, true, false},
		{"the empty list and somebody", []impl.Rule{}, []impl.Rule{member(a, 1)}, true, false},
		{"nil and rules that give nothing", nil, []impl.Rule{contain(a, b), both(b, a, c)}, true, true},
		{"the same list", followCases()[7].list, followCases()[7].list, true, true},
		{"the same rules in another order", []impl.Rule{member(a, 1), contain(b, a)}, []impl.Rule{contain(b, a), member(a, 1)}, true, true},
		{"the same grants by other rules", []impl.Rule{member(a, 1), contain(b, a)}, []impl.Rule{member(a, 1), member(b, 1)}, true, true},
		{"a principal more", []impl.Rule{member(a, 1)}, []impl.Rule{member(a, 1), member(a, 8)}, true, false},
		{"a principal more, by other rules", []impl.Rule{member(a, 1), member(c, 1)}, []impl.Rule{member(c, 8), member(c, 1), contain(a, c)}, true, false},
		{"a role more", []impl.Rule{member(a, 1)}, []impl.Rule{member(a, 1), member(b, 1)}, true, false},
		{"another principal", []impl.Rule{member(a, 1)}, []impl.Rule{member(a, 2)}, false, false},
		{"another role", []impl.Rule{member(a, 1)}, []impl.Rule{member(role(1, 2), 1)}, false, false},
		{"another owner", []impl.Rule{member(a, 1)}, []impl.Rule{member(role(2, 1), 1)}, false, false},
		{"one more, one less", []impl.Rule{member(a, 1), member(b, 2)}, []impl.Rule{member(a, 1), member(a, 2)}, false, false},
		{"one of two less", []impl.Rule{member(a, 1), member(a, 2), member(b, 3)}, []impl.Rule{member(a, 2), member(b, 3), member(b, 4)}, false, false},
		{"at the bounds", []impl.Rule{member(role(8, 5), 8)}, []impl.Rule{member(role(8, 5), 8), member(role(1, 1), 1)}, true, false},
	}
	for _, c := range cases {
		if got := impl.Widens(c.one, c.two); got != c.want {
			t.Errorf("%s: Widens(%v, %v) = %v", c.name, c.one, c.two, got)
		}
		if got := impl.Widens(c.two, c.one); got != c.too {
			t.Errorf("%s: Widens(%v, %v) = %v", c.name, c.two, c.one, got)
		}
	}
}

func TestWidensOfManyPolicies(t *testing.T) {
	policies, answers := manyPolicies(), map[bool]int{}
	for i, one := range policies {
		for _, two := range [][]impl.Rule{policies[(i*7+1)%len(policies)], policies[(i+17)%len(policies)], one} {
			want := lies(impl.GrantsOf(one).Grants, impl.GrantsOf(two).Grants)
			answers[want]++
			if got := impl.Widens(one, two); got != want {
				t.Fatalf("Widens(%v, %v) = %v", one, two, got)
			}
		}
	}
	if answers[true] < 500 || answers[false] < 500 {
		t.Errorf("answers %v", answers)
	}
}

func TestWidensOfWrongPolicies(t *testing.T) {
	for code, wrong := range wrongPolicies() {
		for _, list := range [][]impl.Rule{nil, {}, policyOf(1), policyOf(16), wrong} {
			if impl.Widens(wrong, list) || impl.Widens(list, wrong) {
				t.Errorf("Widens of %v, beside code %d", list, code)
			}
		}
	}
}

func formsToKeep() [][]impl.Part {
	good := single(role(1, 1))
	return [][]impl.Part{
		{}, {good}, doubled(4, anyOf), doubled(8, apart), doubled(9, anyOf), {single(role(2, 2)), good, anyOf(0, 1), apart(2, 1)},
		{good, {Kind: 5}}, {good, anyOf(1, 1)}, {single(role(8, 5)), single(role(1, 2)), apart(1, 0)}, {{Kind: math.MinInt64, Left: math.MaxInt64}},
	}
}

func TestPartsHandedInAreUnchanged(t *testing.T) { // P1
	ruleMark, partMark := impl.Rule{Kind: 77}, impl.Part{Kind: 77, Left: 77}
	for _, list := range append(policiesToKeep(), chainPolicy()) {
		for _, parts := range formsToKeep() {
			rules := append(slices.Clone(list), ruleMark, ruleMark)
			form := append(slices.Clone(parts), partMark, partMark)
			givenRules, givenParts := rules[:len(list)], form[:len(parts)]
			impl.PartsFault(givenParts)
			impl.PartText(givenParts)
			impl.Admits(givenRules, givenParts, 3)
			impl.LeastOf(givenRules, givenParts)
			impl.Widens(givenRules, givenRules)
			spoil(impl.SetsOf(givenRules, givenParts).Sets, -7)
			if want := append(slices.Clone(list), ruleMark, ruleMark); !slices.Equal(rules, want) {
				t.Errorf("%v was changed to %v", want, rules)
			}
			if want := append(slices.Clone(parts), partMark, partMark); !slices.Equal(form, want) {
				t.Errorf("%v was changed to %v", want, form)
			}
		}
	}
}

func TestSameFormsSameAnswers(t *testing.T) { // P1: nothing is kept from call to call
	lists := append(policiesToKeep(), chainPolicy())
	answers := func(list []impl.Rule, parts []impl.Part) []any {
		return []any{
			impl.PartsFault(parts), impl.SetsOf(list, parts), impl.Admits(list, parts, 1), impl.Admits(list, parts, 3), impl.LeastOf(list, parts),
			impl.PartText(parts), impl.Widens(list, lists[1]), impl.Widens(lists[2], list),
		}
	}
	first := map[[2]int][]any{}
	for i, list := range lists {
		for j, parts := range formsToKeep() {
			first[[2]int{i, j}] = answers(list, parts)
		}
	}
	for i, list := range slices.Backward(lists) {
		for j, parts := range slices.Backward(formsToKeep()) {
			if again := answers(list, parts); !reflect.DeepEqual(first[[2]int{i, j}], again) {
				t.Errorf("%v, %v: first %v, then %v", list, parts, first[[2]int{i, j}], again)
			}
		}
	}
}

func TestSetsShareNoMemory(t *testing.T) { // P1
	for _, list := range append(policiesToKeep(), chainPolicy()) {
		for _, parts := range formsToKeep() {
			one, two := impl.SetsOf(list, parts), impl.SetsOf(list, parts)
			want := slices.Clone(two.Sets)
			spoil(one.Sets, -7)
			if !slices.Equal(two.Sets, want) || !slices.Equal(impl.SetsOf(list, parts).Sets, want) {
				t.Errorf("sets of %v, %v share memory", list, parts)
			}
		}
	}
}

func TestNoRulesAndEmptyRulesHaveTheSameSets(t *testing.T) { // P1
	for _, parts := range formsToKeep() {
		one, two := impl.SetsOf(nil, parts), impl.SetsOf([]impl.Rule{}, parts)
		if one.Code != two.Code || len(one.Sets) != 0 || len(two.Sets) != 0 || impl.LeastOf(nil, parts) != impl.LeastOf([]impl.Rule{}, parts) {
			t.Errorf("%v: %+v, %+v", parts, one, two)
		}
	}
}
