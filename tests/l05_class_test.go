package tests

import (
	"math"
	"reflect"
	"slices"
	"testing"

	"loop.example/g00338/impl"
)

var noForms = []int64{math.MinInt64, math.MinInt64 + 1, -4, -1, 0, 5, 6, 64, 65, 66, 1<<32 + 1, math.MaxInt64 - 1, math.MaxInt64}
var noClasses = []int64{math.MinInt64, math.MinInt64 + 3, -16, -1, 16, 17, 31, 1<<32 + 3, math.MaxInt64 - 1, math.MaxInt64}
var noEpochs = []int64{math.MinInt64, math.MinInt64 + 1, -9, -1, 0, 10, 11, 1<<32 + 1, math.MaxInt64 - 1, math.MaxInt64}
var noClassPlaces = []int64{math.MinInt64, math.MinInt64 + 1, -4, -1, 4, 5, 1 << 32, math.MaxInt64 - 1, math.MaxInt64}

func lock(epoch int64, class int64, principal int64, form int64) impl.Lock {
	return impl.Lock{Epoch: epoch, Class: class, Principal: principal, Form: form}
}

// everyPlace has a lock of the form at each of the 288 places, rising.
func everyPlace(form int64) []impl.Lock {
	var all []impl.Lock
	for epoch := int64(1); epoch <= 9; epoch++ {
		for class := range int64(4) {
			for p := int64(1); p <= 8; p++ {
				all = append(all, lock(epoch, class, p, form))
			}
		}
	}
	return all
}

// formsOfClass is written anew here, by halving: so it shares no fault with the program.
func formsOfClass(class int64) []int64 {
	return listOfSet(int(class))
}

func wantClash(classes []int64, a int64, b int64) bool {
	for _, class := range classes {
		forms := formsOfClass(class)
		if a != b && slices.Contains(forms, a) && slices.Contains(forms, b) {
			return true
		}
	}
	return false
}

func wantNeeds(classes []int64, epoch int64, form int64, set int64) []impl.Lock {
	var needs []impl.Lock
	for place := range classes {
		for _, p := range listOfSet(int(set)) {
			if slices.Contains(formsOfClass(classes[place]), form) {
				needs = append(needs, lock(epoch, int64(place), p, form))
			}
		}
	}
	return needs
}

// spot is where a lock stands: one number for each of the 288 places, rising with them.
func spot(epoch int64, class int64, principal int64) int64 {
	return epoch*100 + class*10 + principal
}

// wantTaken puts all locks into a book with a page for each place, and reads it from its first page on.
func wantTaken(locks []impl.Lock, needs []impl.Lock) impl.LocksResult {
	book := map[int64]impl.Lock{}
	for _, l := range locks {
		book[spot(l.Epoch, l.Class, l.Principal)] = l
	}
	for _, l := range needs {
		at := spot(l.Epoch, l.Class, l.Principal)
		if there, ok := book[at]; ok && there.Form != l.Form {
			return impl.LocksResult{Code: impl.ErrTaken}
		}
		book[at] = l
	}
	if len(book) > 200 {
		return impl.LocksResult{Code: impl.ErrMany}
	}
	var all []impl.Lock
	for at := range int64(1000) {
		if there, ok := book[at]; ok {
			all = append(all, there)
		}
	}
	return impl.LocksResult{Locks: all}
}

func sameLocks(a impl.LocksResult, b impl.LocksResult) bool {
	return a.Code == b.Code && slices.Equal(a.Locks, b.Locks)
}

func (d *dice) classes() []int64 {
	var classes []int64
	for range d.below(5) {
		classes = append(classes, d.below(16))
	}
	return classes
}

// locks are at some places of all, so that there are about share of 288 of them in 100 parts.
func (d *dice) locks(share int64) []impl.Lock {
	var some []impl.Lock
	for _, l := range everyPlace(1) {
		if d.below(100) < share && len(some) < 200 {
			l.Form = d.below(4) + 1
			some = append(some, l)
		}
	}
	return some
}

type takeCase struct {
	locks   []impl.Lock
	classes []int64
	epoch   int64
	form    int64
	set     int64
}

func (c takeCase) take() impl.LocksResult {
	return impl.TakeLocks(c.locks, c.classes, c.epoch, c.form, c.set)
}

// manyTakes has few locks and many, of which some came by taking locks, one behind the other.
func manyTakes() []takeCase {
	d := dice(23)
	var all []takeCase
	for i := range 3000 {
		shares := []int64{0, 1, 3, 10, 40, 69}
		c := takeCase{d.locks(shares[i%6]), d.classes(), d.below(9) + 1, d.below(4) + 1, d.below(256)}
		if i%2 == 0 {
			c.set &= d.below(256) & d.below(256)
		}
		all = append(all, c)
	}
	for i := range int64(300) { // nearly as many locks as there may be, and none that bars another
		form := d.below(4) + 1
		epoch := d.below(9) + 1
		all = append(all, takeCase{everyPlace(form)[i%88:][:180+d.below(21)], []int64{15, d.below(16)}, epoch, form, d.below(256)})
	}
	for range 60 {
		var locks []impl.Lock
		classes := d.classes()
		for range 40 {
			c := takeCase{locks, classes, d.below(2) + 1, d.below(4) + 1, d.below(256) & d.below(256) & d.below(256)}
			all = append(all, c)
			if taken := wantTaken(locks, wantNeeds(classes, c.epoch, c.form, c.set)); taken.Code == impl.OK {
				locks = taken.Locks
			}
		}
	}
	return all
}

func TestClassConstants(t *testing.T) {
	got := []int64{impl.MaxForm, impl.MaxClasses}
	if want := []int64{4, 4}; !slices.Equal(got, want) {
		t.Errorf("constants %v, want %v", got, want)
	}
}

func TestClassesFault(t *testing.T) {
	cases := []struct {
		classes []int64
		want    int64
	}{
		{nil, impl.OK},
		{[]int64{}, impl.OK},
		{[]int64{0}, impl.OK},
		{[]int64{15}, impl.OK},
		{[]int64{-1}, impl.ErrRange},
		{[]int64{16}, impl.ErrRange},
		{[]int64{3, 3}, impl.OK},
		{[]int64{15, 0, 15, 0}, impl.OK},
		{[]int64{1, 2, 4, 16}, impl.ErrRange},
		{[]int64{-1, 2, 4, 8}, impl.ErrRange},
		{[]int64{1, 2, -1, 8}, impl.ErrRange},
		{[]int64{1, 2, 4, 8, 3}, impl.ErrMany},
		{[]int64{0, 0, 0, 0, 0}, impl.ErrMany},
		{[]int64{1, 2, 4, 8, 16}, impl.ErrMany},
		{[]int64{-1, 16, -1, 16, -1}, impl.ErrMany},
		{repeated(3, 5000), impl.ErrMany},
	}
	for class := range int64(16) {
		cases = append(cases, struct {
			classes []int64
			want    int64
		}{[]int64{0, class}, impl.OK})
	}
	for _, class := range noClasses {
		for _, classes := range [][]int64{{class}, {class, 15}, {0, 15, 7, class}} {
			cases = append(cases, struct {
				classes []int64
				want    int64
			}{classes, impl.ErrRange})
		}
	}
	for _, c := range cases {
		checkClasses(t, c.classes, c.want)
	}
}

// checkClasses asks all that have the code of ClassesFault for it.
func checkClasses(t *testing.T, classes []int64, want int64) {
	t.Helper()
	if got := impl.ClassesFault(classes); got != want {
		t.Errorf("ClassesFault(%v) = %d, want %d", classes, got, want)
	}
	if want == impl.OK {
		return
	}
	if got := impl.NeedsOf(classes, 1, 1, 1); got.Code != want || got.Locks != nil {
		t.Errorf("NeedsOf(%v) = %+v, want code %d", classes, got, want)
	}
	if got := impl.TakeLocks([]impl.Lock{lock(1, 0, 1, 1)}, classes, 1, 1, 1); got.Code != want || got.Locks != nil {
		t.Errorf("TakeLocks of %v = %+v, want code %d", classes, got, want)
	}
	for a := range int64(6) {
		for b := range int64(6) {
			if impl.ClashForms(classes, a, b) {
				t.Errorf("ClashForms(%v, %d, %d), where there is code %d", classes, a, b, want)
			}
		}
	}
}

func TestClashFormsByHand(t *testing.T) {
	cases := []struct {
		classes []int64
		a, b    int64
		want    bool
	}{
		{nil, 1, 2, false},
		{[]int64{}, 1, 2, false},
		{[]int64{3}, 1, 2, true},
		{[]int64{3}, 2, 1, true},
		{[]int64{3}, 1, 3, false},
		{[]int64{3}, 3, 4, false},
		{[]int64{3}, 1, 1, false},
		{[]int64{15}, 4, 4, false},
		{[]int64{9}, 1, 4, true},
		{[]int64{9}, 4, 2, false},
		{[]int64{3, 12}, 2, 3, false},
		{[]int64{3, 12}, 4, 3, true},
		{[]int64{3, 6, 12}, 1, 3, false},
		{[]int64{3, 6, 12}, 2, 3, true},
		{[]int64{1, 2, 4, 8}, 1, 2, false},
		{[]int64{0, 0, 0, 15}, 2, 4, true},
		{[]int64{15, 16}, 1, 2, false},
		{[]int64{-1}, 1, 2, false},
		{[]int64{3, 0, 0, 0, 0}, 1, 2, false},
		{[]int64{15}, 0, 1, false},
		{[]int64{15}, 1, 0, false},
		{[]int64{15}, 4, 5, false},
		{[]int64{15}, 5, 4, false},
		{[]int64{15}, -1, 5, false},
	}
	for _, c := range cases {
		if got := impl.ClashForms(c.classes, c.a, c.b); got != c.want {
			t.Errorf("ClashForms(%v, %d, %d) = %v", c.classes, c.a, c.b, got)
		}
	}
}

func TestClashFormsOfAllClasses(t *testing.T) {
	for one := range int64(16) {
		for two := range int64(16) {
			for _, classes := range [][]int64{{one}, {one, two}, {0, one, 1, two}} {
				for a := int64(-1); a <= 6; a++ {
					for b := int64(-1); b <= 6; b++ {
						if got := impl.ClashForms(classes, a, b); got != wantClash(classes, a, b) {
							t.Fatalf("ClashForms(%v, %d, %d) = %v", classes, a, b, got)
						}
					}
				}
			}
		}
	}
}

func TestNumbersThatAreNoFormsClashWithNone(t *testing.T) {
	for _, classes := range [][]int64{{15}, {15, 15, 15, 15}, {1, 8, 9}} {
		for _, a := range noForms {
			for _, b := range append([]int64{1, 2, 3, 4}, noForms...) {
				if impl.ClashForms(classes, a, b) || impl.ClashForms(classes, b, a) {
					t.Errorf("ClashForms(%v) of %d and %d", classes, a, b)
				}
			}
		}
	}
}

// checkLocks asks all that have the code of LocksFault for it.
func checkLocks(t *testing.T, locks []impl.Lock, want int64) {
	t.Helper()
	if got := impl.LocksFault(locks); got != want {
		t.Fatalf("LocksFault(%v) = %d, want %d", locks, got, want)
	}
	if want == impl.OK {
		return
	}
	for _, epoch := range []int64{1, 0} {
		if got := impl.FormOf(locks, epoch, 0, 1); got != (impl.IntResult{Code: want}) {
			t.Fatalf("FormOf(%v) = %+v, want code %d", locks, got, want)
		}
		if got := impl.TakeLocks(locks, []int64{3}, epoch, 1, 3); got.Code != want || got.Locks != nil {
			t.Fatalf("TakeLocks(%v) = %+v, want code %d", locks, got, want)
		}
	}
}

func TestLocksFault(t *testing.T) {
	low, top := lock(1, 0, 1, 1), lock(9, 3, 8, 4)
	outside := lock(2, 0, 1, 5)
	rising := everyPlace(1)
	cases := []struct {
		locks []impl.Lock
		want  int64
	}{
		{nil, impl.OK},
		{[]impl.Lock{}, impl.OK},
		{[]impl.Lock{low}, impl.OK},
		{[]impl.Lock{top}, impl.OK},
		{[]impl.Lock{low, top}, impl.OK},
		{[]impl.Lock{{}}, impl.ErrRange},
		{rising[:200], impl.OK},
		{rising[88:], impl.OK},
		{rising[:201], impl.ErrMany},
		{rising, impl.ErrMany},
		{slices.Repeat([]impl.Lock{low}, 201), impl.ErrMany},
		{slices.Repeat([]impl.Lock{{}}, 201), impl.ErrMany},
		{slices.Repeat([]impl.Lock{outside}, 5000), impl.ErrMany},
		{slices.Repeat([]impl.Lock{low}, 200), impl.ErrForm},
		{slices.Repeat([]impl.Lock{{}}, 200), impl.ErrRange},
		{append(slices.Clone(rising[:199]), lock(9, 4, 1, 1)), impl.ErrRange},
		{append(slices.Clone(rising[:199]), rising[198]), impl.ErrForm},
		{append(slices.Clone(rising[:200]), top), impl.ErrMany},
		// not rising
		{[]impl.Lock{top, low}, impl.ErrForm},
		{[]impl.Lock{low, low}, impl.ErrForm},
		{[]impl.Lock{low, lock(1, 0, 1, 2)}, impl.ErrForm},
		{[]impl.Lock{lock(1, 0, 1, 2), low}, impl.ErrForm},
		{[]impl.Lock{lock(2, 0, 1, 1), lock(1, 3, 8, 4)}, impl.ErrForm},
		{[]impl.Lock{lock(2, 1, 1, 1), lock(2, 0, 8, 4)}, impl.ErrForm},
		{[]impl.Lock{lock(2, 1, 3, 1), lock(2, 1, 2, 4)}, impl.ErrForm},
		{[]impl.Lock{lock(2, 1, 2, 4), lock(2, 1, 3, 1)}, impl.OK},
		{[]impl.Lock{lock(2, 0, 8, 4), lock(2, 1, 1, 1)}, impl.OK},
		{[]impl.Lock{lock(1, 3, 8, 4), lock(2, 0, 1, 1)}, impl.OK},
		{[]impl.Lock{low, top, lock(9, 3, 7, 1)}, impl.ErrForm},
		{[]impl.Lock{low, top, low}, impl.ErrForm},
		// one by one: what comes first of several faults
		{[]impl.Lock{top, low, outside}, impl.ErrForm},
		{[]impl.Lock{outside, top, low}, impl.ErrRange},
		{[]impl.Lock{top, outside}, impl.ErrRange},
		{[]impl.Lock{outside, outside}, impl.ErrRange},
		{[]impl.Lock{top, lock(0, 0, 0, 0)}, impl.ErrRange},
		{[]impl.Lock{low, low, {}}, impl.ErrForm},
		{[]impl.Lock{low, {}, low}, impl.ErrRange},
	}
	for _, c := range cases {
		checkLocks(t, c.locks, c.want)
	}
}

func TestFieldsOfLocksAtTheirBounds(t *testing.T) {
	for epoch := int64(-1); epoch <= 11; epoch++ {
		for class := int64(-1); class <= 5; class++ {
			for p := int64(-1); p <= 10; p++ {
				for form := int64(-1); form <= 6; form++ {
					want := int64(impl.OK)
					if epoch < 1 || epoch > 9 || class < 0 || class > 3 || p < 1 || p > 8 || form < 1 || form > 4 {
						want = impl.ErrRange
					}
					checkLocks(t, []impl.Lock{lock(epoch, class, p, form)}, want)
				}
			}
		}
	}
}

func TestFieldsOfLocksAtGreatNumbers(t *testing.T) {
	var wrong []impl.Lock
	for _, n := range noEpochs {
		wrong = append(wrong, lock(n, 2, 3, 4))
	}
	for _, n := range noClassPlaces {
		wrong = append(wrong, lock(5, n, 3, 4))
	}
	for _, n := range noPrincipals {
		wrong = append(wrong, lock(5, 2, n, 4))
	}
	for _, n := range noForms {
		wrong = append(wrong, lock(5, 2, 3, n))
	}
	for _, l := range wrong {
		for _, locks := range [][]impl.Lock{{l}, {lock(1, 0, 1, 1), l}, {l, lock(9, 3, 8, 4)}, {lock(9, 3, 8, 4), l}} {
			checkLocks(t, locks, impl.ErrRange)
		}
	}
}

func TestOrderOfTwoLocks(t *testing.T) {
	all := everyPlace(1)
	for i, one := range all {
		for j, two := range all {
			one.Form, two.Form = int64(i%4)+1, int64(j%3)+1
			want := int64(impl.OK)
			if i >= j {
				want = impl.ErrForm
			}
			if got := impl.LocksFault([]impl.Lock{one, two}); got != want {
				t.Fatalf("LocksFault of %v, %v = %d, want %d", one, two, got, want)
			}
		}
	}
}

func TestNeedsByHand(t *testing.T) {
	cases := []struct {
		name    string
		classes []int64
		epoch   int64
		form    int64
		set     int64
		want    []impl.Lock
	}{
		{"no classes", nil, 1, 1, 255, nil},
		{"a form in no class", []int64{2, 12, 0}, 1, 1, 255, nil},
		{"the empty set", []int64{15, 15}, 1, 1, 0, nil},
		{"one class", []int64{3}, 4, 2, 6, []impl.Lock{lock(4, 0, 2, 2), lock(4, 0, 3, 2)}},
		{"a class of one form", []int64{8}, 9, 4, 128, []impl.Lock{lock(9, 0, 8, 4)}},
		{"the last class", []int64{0, 0, 0, 4}, 2, 3, 1, []impl.Lock{lock(2, 3, 1, 3)}},
		{"several classes", []int64{3, 6, 2, 5}, 1, 2, 129, []impl.Lock{
			lock(1, 0, 1, 2), lock(1, 0, 8, 2), lock(1, 1, 1, 2), lock(1, 1, 8, 2), lock(1, 2, 1, 2), lock(1, 2, 8, 2),
		}},
		{"a class twice", []int64{9, 9}, 7, 1, 4, []impl.Lock{lock(7, 0, 3, 1), lock(7, 1, 3, 1)}},
	}
	for _, c := range cases {
		got := impl.NeedsOf(c.classes, c.epoch, c.form, c.set)
		if got.Code != impl.OK || !slices.Equal(got.Locks, c.want) {
			t.Errorf("%s: NeedsOf = %+v, want %v", c.name, got, c.want)
		}
	}
}

func TestNeedsOfEverySet(t *testing.T) {
	d := dice(19)
	for set := range int64(allSets) {
		for form := int64(1); form <= 4; form++ {
			for range 8 {
				classes, epoch := d.classes(), d.below(9)+1
				got, want := impl.NeedsOf(classes, epoch, form, set), wantNeeds(classes, epoch, form, set)
				if got.Code != impl.OK || !slices.Equal(got.Locks, want) || impl.LocksFault(got.Locks) != impl.OK {
					t.Fatalf("NeedsOf(%v, %d, %d, %d) = %+v, want %v", classes, epoch, form, set, got, want)
				}
			}
		}
	}
}

// wrongNeeds are wrong in one of the three, each at and behind its bounds, also where nothing would be locked.
func wrongNeeds() []takeCase {
	var all []takeCase
	for _, classes := range [][]int64{nil, {0}, {15}, {15, 3, 5, 9}} {
		for _, n := range noEpochs {
			all = append(all, takeCase{nil, classes, n, 1, 1}, takeCase{nil, classes, n, 4, 0})
		}
		for _, n := range noForms {
			all = append(all, takeCase{nil, classes, 1, n, 1}, takeCase{nil, classes, 9, n, 0})
		}
		for _, n := range noSets {
			all = append(all, takeCase{nil, classes, 1, 1, n}, takeCase{nil, classes, 9, 4, n})
		}
	}
	return all
}

func TestWrongNeeds(t *testing.T) {
	for _, c := range wrongNeeds() {
		if got := impl.NeedsOf(c.classes, c.epoch, c.form, c.set); got.Code != impl.ErrRange || got.Locks != nil {
			t.Errorf("NeedsOf(%v, %d, %d, %d) = %+v", c.classes, c.epoch, c.form, c.set, got)
		}
		for _, locks := range [][]impl.Lock{nil, {lock(1, 0, 1, 2)}, everyPlace(2)[:200]} {
			c.locks = locks
			if got := c.take(); got.Code != impl.ErrRange || got.Locks != nil {
				t.Errorf("TakeLocks(%v, %v, %d, %d, %d) = %+v", locks, c.classes, c.epoch, c.form, c.set, got)
			}
		}
	}
	many, outside := repeated(15, 5), []int64{15, 16}
	for _, c := range wrongNeeds() { // the ClassesFault stands ahead
		if got := impl.NeedsOf(many, c.epoch, c.form, c.set); got.Code != impl.ErrMany || got.Locks != nil {
			t.Errorf("NeedsOf(%v, %d, %d, %d) = %+v", many, c.epoch, c.form, c.set, got)
		}
		if got := impl.NeedsOf(outside, c.epoch, c.form, c.set); got.Code != impl.ErrRange || got.Locks != nil {
			t.Errorf("NeedsOf(%v, %d, %d, %d) = %+v", outside, c.epoch, c.form, c.set, got)
		}
	}
}

func TestNeedsAtTheirBounds(t *testing.T) {
	for _, epoch := range []int64{0, 1, 9, 10} {
		for _, form := range []int64{0, 1, 4, 5} {
			for _, set := range []int64{-1, 0, 255, 256} {
				want := impl.LocksResult{Code: impl.ErrRange}
				if epoch%10 != 0 && form%5 != 0 && (set == 0 || set == 255) {
					want = impl.LocksResult{Locks: wantNeeds([]int64{9, 6}, epoch, form, set)}
				}
				if got := impl.NeedsOf([]int64{9, 6}, epoch, form, set); !sameLocks(got, want) {
					t.Errorf("NeedsOf(%d, %d, %d) = %+v, want %+v", epoch, form, set, got, want)
				}
			}
		}
	}
}

func TestTakeLocksByHand(t *testing.T) {
	taken := func(locks ...impl.Lock) impl.LocksResult { return impl.LocksResult{Locks: locks} }
	one := []impl.Lock{lock(2, 1, 3, 1)}
	cases := []struct {
		name string
		in   takeCase
		want impl.LocksResult
	}{
		{"the first ones", takeCase{nil, []int64{3}, 1, 1, 6}, taken(lock(1, 0, 2, 1), lock(1, 0, 3, 1))},
		{"a form in no class", takeCase{one, []int64{1, 1}, 2, 2, 4}, taken(one...)},
		{"a form in no class, no locks", takeCase{nil, []int64{1, 1}, 2, 2, 255}, taken()},
		{"no classes", takeCase{one, nil, 2, 2, 4}, taken(one...)},
		{"the empty set", takeCase{one, []int64{3, 3}, 2, 2, 0}, taken(one...)},
		{"there already", takeCase{one, []int64{0, 3}, 2, 1, 4}, taken(one...)},
		{"one there already, one new", takeCase{one, []int64{0, 3}, 2, 1, 6}, taken(lock(2, 1, 2, 1), lock(2, 1, 3, 1))},
		{"taken", takeCase{one, []int64{0, 3}, 2, 2, 4}, impl.LocksResult{Code: impl.ErrTaken}},
		{"one taken of several", takeCase{one, []int64{0, 3}, 2, 2, 255}, impl.LocksResult{Code: impl.ErrTaken}},
		{"one class taken of several", takeCase{one, []int64{2, 3, 2, 2}, 2, 2, 4}, impl.LocksResult{Code: impl.ErrTaken}},
		{"taken by a form that is no longer in the class", takeCase{one, []int64{0, 2}, 2, 2, 4}, impl.LocksResult{Code: impl.ErrTaken}},
		{"another epoch, behind", takeCase{one, []int64{0, 3}, 3, 2, 4}, taken(lock(2, 1, 3, 1), lock(3, 1, 3, 2))},
		{"another epoch, ahead", takeCase{one, []int64{0, 3}, 1, 2, 4}, taken(lock(1, 1, 3, 2), lock(2, 1, 3, 1))},
		{"another class, ahead", takeCase{one, []int64{3, 1}, 2, 2, 4}, taken(lock(2, 0, 3, 2), lock(2, 1, 3, 1))},
		{"another class, behind", takeCase{one, []int64{1, 1, 3}, 2, 2, 4}, taken(lock(2, 1, 3, 1), lock(2, 2, 3, 2))},
		{"another principal, ahead", takeCase{one, []int64{0, 3}, 2, 2, 2}, taken(lock(2, 1, 2, 2), lock(2, 1, 3, 1))},
		{"another principal, behind", takeCase{one, []int64{0, 3}, 2, 2, 8}, taken(lock(2, 1, 3, 1), lock(2, 1, 4, 2))},
		{"on both sides", takeCase{one, []int64{3, 1, 3}, 2, 2, 5}, taken(
			lock(2, 0, 1, 2), lock(2, 0, 3, 2), lock(2, 1, 3, 1), lock(2, 2, 1, 2), lock(2, 2, 3, 2))},
		{"between", takeCase{[]impl.Lock{lock(1, 0, 1, 4), lock(1, 0, 3, 4), lock(1, 1, 1, 3)}, []int64{2, 2}, 1, 2, 10}, taken(
			lock(1, 0, 1, 4), lock(1, 0, 2, 2), lock(1, 0, 3, 4), lock(1, 0, 4, 2), lock(1, 1, 1, 3), lock(1, 1, 2, 2), lock(1, 1, 4, 2))},
		{"another form of no class in common", takeCase{[]impl.Lock{lock(1, 0, 1, 1)}, []int64{1, 2}, 1, 2, 1}, taken(lock(1, 0, 1, 1), lock(1, 1, 1, 2))},
	}
	for _, c := range cases {
		if got := c.in.take(); !sameLocks(got, c.want) {
			t.Errorf("%s: TakeLocks(%+v) = %+v, want %+v", c.name, c.in, got, c.want)
		}
	}
}

func TestTakeLocksUpTo200(t *testing.T) {
	rising := everyPlace(1)
	last := int64(9)
	cases := []struct {
		name  string
		in    takeCase
		code  int64
		count int
	}{
		{"199 and one", takeCase{rising[:199], []int64{1}, last, 1, 1}, impl.OK, 200},
		{"199 and two", takeCase{rising[:199], []int64{1}, last, 1, 3}, impl.ErrMany, 0},
		{"200 and one", takeCase{rising[:200], []int64{1}, last, 1, 1}, impl.ErrMany, 0},
		{"200 and one ahead", takeCase{rising[88:], []int64{1}, 1, 1, 1}, impl.ErrMany, 0},
		{"200 and none, as the form is in no class", takeCase{rising[:200], []int64{1}, last, 2, 255}, impl.OK, 200},
		{"200 and none, as the set is empty", takeCase{rising[:200], []int64{1}, last, 1, 0}, impl.OK, 200},
		{"200 and those that are there", takeCase{rising[:200], []int64{1, 1, 1, 1}, 1, 1, 255}, impl.OK, 200},
		{"168 and 32", takeCase{rising[:168], []int64{1, 1, 1, 1}, last, 1, 255}, impl.OK, 200},
		{"169 and 32", takeCase{rising[:169], []int64{1, 1, 1, 1}, last, 1, 255}, impl.ErrMany, 0},
		{"169 and 31, as one is there", takeCase{append(slices.Clone(rising[:168]), lock(9, 3, 8, 1)), []int64{1, 1, 1, 1}, last, 1, 255}, impl.OK, 200},
		{"200 and 32", takeCase{rising[:200], []int64{1, 1, 1, 1}, last, 1, 255}, impl.ErrMany, 0},
		{"200, and one of them taken", takeCase{rising[:200], []int64{2}, 1, 2, 1}, impl.ErrTaken, 0},
		{"too many, and the last of them taken", takeCase{append(slices.Clone(rising[:199]), lock(9, 3, 8, 2)), []int64{1, 1, 1, 1}, last, 1, 255}, impl.ErrTaken, 0},
		{"too many, and the first of them taken", takeCase{append(slices.Clone(rising[:199]), lock(9, 0, 1, 2)), []int64{1, 1, 1, 1}, last, 1, 255}, impl.ErrTaken, 0},
	}
	for _, c := range cases {
		if got := c.in.take(); got.Code != c.code || len(got.Locks) != c.count || got.Code != impl.OK && got.Locks != nil {
			t.Errorf("%s: code %d, %d locks", c.name, got.Code, len(got.Locks))
		}
	}
}

func TestCodesOfTakeLocksInTheirOrder(t *testing.T) {
	rising := everyPlace(1)
	faulty := map[int64][]impl.Lock{
		impl.ErrMany:  rising[:201],
		impl.ErrRange: {lock(1, 0, 1, 1), lock(1, 0, 2, 5)},
		impl.ErrForm:  {lock(1, 0, 1, 1), lock(1, 0, 1, 1)},
	}
	for code, locks := range faulty {
		for _, in := range []takeCase{
			{locks, []int64{3}, 1, 1, 1}, {locks, []int64{3}, 1, 2, 1}, {locks, repeated(1, 5), 1, 1, 1}, {locks, []int64{16}, 1, 1, 1},
			{locks, []int64{3}, 0, 1, 1}, {locks, []int64{3}, 1, 5, 1}, {locks, []int64{3}, 1, 1, 256}, {locks, nil, 0, 0, -1},
		} {
			if got := in.take(); got.Code != code || got.Locks != nil {
				t.Errorf("TakeLocks(%+v) = %+v, want code %d", in, got, code)
			}
		}
	}
	cases := []struct {
		in   takeCase
		want int64
	}{
		{takeCase{rising[:200], append(repeated(2, 4), 16), 0, 0, -1}, impl.ErrMany}, // the ClassesFault ahead of ErrRange
		{takeCase{rising[:10], append(repeated(2, 4), 2), 1, 2, 1}, impl.ErrMany},    // and ahead of ErrTaken
		{takeCase{rising[:10], []int64{2, 16}, 1, 2, 1}, impl.ErrRange},
		{takeCase{rising[:10], []int64{15}, 10, 2, 1}, impl.ErrRange},
		{takeCase{rising[:10], []int64{15}, 1, 2, 256}, impl.ErrRange},
		{takeCase{rising[:200], []int64{15}, 9, 1, 256}, impl.ErrRange},             // ahead of ErrMany
		{takeCase{rising[:200], []int64{15, 15, 15, 15}, 7, 2, 255}, impl.ErrTaken}, // of which 8 are taken, and 24 would be too many
		{takeCase{rising[88:], []int64{15, 15, 15, 15}, 3, 2, 255}, impl.ErrTaken},  // the taken ones last
		{takeCase{rising[:200], []int64{15, 15, 15, 15}, 8, 2, 255}, impl.ErrMany},
	}
	for _, c := range cases {
		if got := c.in.take(); got.Code != c.want || got.Locks != nil {
			t.Errorf("TakeLocks(%v, %d, %d, %d) = %+v, want code %d", c.in.classes, c.in.epoch, c.in.form, c.in.set, got, c.want)
		}
	}
}

func TestManyTakes(t *testing.T) {
	codes, inner := map[int64]int{}, 0
	for _, c := range manyTakes() {
		got, want := c.take(), wantTaken(c.locks, wantNeeds(c.classes, c.epoch, c.form, c.set))
		if !sameLocks(got, want) {
			t.Fatalf("TakeLocks(%+v) = %+v, want %+v", c, got, want)
		}
		codes[got.Code]++
		if got.Code == impl.OK && len(got.Locks) > len(c.locks) && len(c.locks) > 0 {
			inner++
		}
	}
	if codes[impl.OK] < 1000 || codes[impl.ErrTaken] < 500 || codes[impl.ErrMany] < 30 || inner < 300 {
		t.Errorf("codes %v, %d with new ones among others", codes, inner)
	}
}

func TestWhoHasChosenDoesNotGetAnother(t *testing.T) { // P6
	d, asked := dice(29), 0
	for _, c := range manyTakes() {
		taken := c.take()
		if taken.Code != impl.OK {
			continue
		}
		for form := int64(1); form <= 4; form++ {
			other := c
			other.locks, other.form, other.set = taken.Locks, form, d.below(256)
			common := other.set&c.set != 0
			if !common || !impl.ClashForms(c.classes, c.form, form) {
				continue
			}
			asked++
			if got := other.take(); got.Code != impl.ErrTaken || got.Locks != nil {
				t.Fatalf("behind %+v, TakeLocks(%+v) = %+v", c, other, got)
			}
		}
	}
	if asked < 500 {
		t.Errorf("asked %d only", asked)
	}
}

func TestWhatWasLockedStays(t *testing.T) { // P6
	for _, c := range manyTakes() {
		taken := c.take()
		if taken.Code != impl.OK {
			continue
		}
		if code := impl.LocksFault(taken.Locks); code != impl.OK {
			t.Fatalf("LocksFault(%v) = %d", taken.Locks, code)
		}
		needs := impl.NeedsOf(c.classes, c.epoch, c.form, c.set).Locks
		for _, l := range append(slices.Clone(c.locks), needs...) {
			if got := impl.FormOf(taken.Locks, l.Epoch, l.Class, l.Principal); got != (impl.IntResult{Value: l.Form}) {
				t.Fatalf("behind TakeLocks(%+v): FormOf %v is %+v", c, l, got)
			}
		}
		for _, l := range taken.Locks { // and nothing else is there
			if !slices.Contains(c.locks, l) && !slices.Contains(needs, l) {
				t.Fatalf("behind TakeLocks(%+v) there is %v", c, l)
			}
		}
		again := c
		again.locks = taken.Locks
		if got := again.take(); !sameLocks(got, taken) {
			t.Fatalf("TakeLocks(%+v) = %+v, want %+v", again, got, taken)
		}
	}
}

func TestFormsInNoClassLockNothing(t *testing.T) {
	for _, c := range manyTakes() {
		inSome := false
		for _, class := range c.classes {
			inSome = inSome || slices.Contains(formsOfClass(class), c.form)
		}
		if inSome && c.set != 0 {
			continue
		}
		if got := c.take(); got.Code != impl.OK || !slices.Equal(got.Locks, c.locks) {
			t.Fatalf("TakeLocks(%+v) = %+v", c, got)
		}
	}
}

func TestOtherPlacesBarNothing(t *testing.T) {
	for epoch := int64(1); epoch <= 9; epoch++ {
		for class := range int64(4) {
			for p := int64(1); p <= 8; p++ {
				classes := make([]int64, class+1)
				classes[class] = 6
				var others []impl.Lock
				for i, l := range everyPlace(3) {
					if l != lock(epoch, class, p, 3) && (i%3 != 0 || l.Epoch == epoch && l.Class == class) && len(others) < 199 {
						others = append(others, l)
					}
				}
				set := sets([]int64{p})[0]
				got := impl.TakeLocks(others, classes, epoch, 2, set)
				if got.Code != impl.OK || impl.FormOf(got.Locks, epoch, class, p) != (impl.IntResult{Value: 2}) || len(got.Locks) != len(others)+1 {
					t.Fatalf("TakeLocks of %v, %d, 2, %d: code %d", classes, epoch, set, got.Code)
				}
				barred := impl.TakeLocks([]impl.Lock{lock(epoch, class, p, 3)}, classes, epoch, 2, set)
				if barred.Code != impl.ErrTaken {
					t.Fatalf("TakeLocks of %v, %d, 2, %d where it is taken: %+v", classes, epoch, set, barred)
				}
			}
		}
	}
}

func TestFormOf(t *testing.T) {
	d := dice(31)
	for range 40 {
		locks := d.locks(d.below(70))
		for epoch := int64(-1); epoch <= 11; epoch++ {
			for class := int64(-1); class <= 5; class++ {
				for p := int64(-1); p <= 10; p++ {
					want := impl.IntResult{Code: impl.ErrNone}
					for _, l := range locks {
						if l == lock(epoch, class, p, l.Form) {
							want = impl.IntResult{Value: l.Form}
						}
					}
					if got := impl.FormOf(locks, epoch, class, p); got != want {
						t.Fatalf("FormOf(%v, %d, %d, %d) = %+v, want %+v", locks, epoch, class, p, got, want)
					}
				}
			}
		}
	}
}

func TestFormOfOutOfBounds(t *testing.T) {
	for _, locks := range [][]impl.Lock{nil, {}, {lock(1, 0, 1, 1)}, {lock(9, 3, 8, 4)}, everyPlace(2)[:200]} {
		for _, n := range noEpochs {
			wantNone(t, locks, n, 0, 1)
			wantNone(t, locks, n, 3, 8)
		}
		for _, n := range noClassPlaces {
			wantNone(t, locks, 1, n, 1)
			wantNone(t, locks, 9, n, 8)
		}
		for _, n := range noPrincipals {
			wantNone(t, locks, 1, 0, n)
			wantNone(t, locks, 9, 3, n)
		}
		wantNone(t, locks, 9, 3, 7)
		wantNone(t, locks, 0, 0, 0)
	}
}

func wantNone(t *testing.T, locks []impl.Lock, epoch int64, class int64, principal int64) {
	t.Helper()
	if got := impl.FormOf(locks, epoch, class, principal); got != (impl.IntResult{Code: impl.ErrNone}) {
		t.Errorf("FormOf(%v, %d, %d, %d) = %+v", locks, epoch, class, principal, got)
	}
}

// takesToKeep has calls with and without a code, with lists of every kind.
func takesToKeep() []takeCase {
	var all []takeCase
	wide := slices.Clone(everyPlace(1))
	lists := [][]impl.Lock{
		nil, {}, {lock(1, 0, 1, 1)}, {lock(1, 0, 2, 2), lock(9, 3, 8, 4)}, wide[:100], wide[:200], wide[:201],
		{lock(1, 0, 1, 5)}, {lock(2, 0, 1, 1), lock(1, 0, 1, 1)}, {lock(math.MinInt64, math.MaxInt64, 0, 0)},
	}
	for _, locks := range lists {
		for _, classes := range [][]int64{nil, {}, {3}, {3, 5, 15, 0}, {16}, repeated(1, 5), {math.MinInt64}} {
			for _, form := range []int64{1, 2, 5} {
				for _, set := range []int64{0, 3, 255, -1} {
					all = append(all, takeCase{locks, classes, 1 + form%2*8, form, set})
				}
			}
		}
	}
	return all
}

func TestLocksHandedInAreUnchanged(t *testing.T) { // P1
	mark := lock(77, 77, 77, 77)
	for _, c := range takesToKeep() {
		locks := append(slices.Clone(c.locks), slices.Repeat([]impl.Lock{mark}, 40)...)
		classes := append(slices.Clone(c.classes), 77, 78)
		given, givenClasses := locks[:len(c.locks)], classes[:len(c.classes)]
		impl.ClassesFault(givenClasses)
		impl.ClashForms(givenClasses, 1, c.form)
		impl.LocksFault(given)
		impl.FormOf(given, c.epoch, 0, 1)
		spoil(impl.NeedsOf(givenClasses, c.epoch, c.form, c.set).Locks, lock(-7, -7, -7, -7))
		spoil(impl.TakeLocks(given, givenClasses, c.epoch, c.form, c.set).Locks, lock(-7, -7, -7, -7))
		if want := append(slices.Clone(c.locks), slices.Repeat([]impl.Lock{mark}, 40)...); !slices.Equal(locks, want) {
			t.Errorf("%v was changed to %v", want, locks)
		}
		if want := append(slices.Clone(c.classes), 77, 78); !slices.Equal(classes, want) {
			t.Errorf("%v was changed to %v", want, classes)
		}
	}
}

func TestSameLocksSameAnswers(t *testing.T) { // P1: nothing is kept from call to call
	answers := func(c takeCase) []any {
		return []any{
			impl.ClassesFault(c.classes), impl.ClashForms(c.classes, 1, c.form), impl.LocksFault(c.locks), c.take(),
			impl.FormOf(c.locks, c.epoch, 0, 1), impl.NeedsOf(c.classes, c.epoch, c.form, c.set),
		}
	}
	var first [][]any
	for _, c := range takesToKeep() {
		first = append(first, answers(c))
	}
	for i, c := range slices.Backward(takesToKeep()) {
		if again := answers(c); !reflect.DeepEqual(first[i], again) {
			t.Errorf("%+v: first %v, then %v", c, first[i], again)
		}
	}
}

func TestLocksShareNoMemory(t *testing.T) { // P1
	mark := lock(-7, -7, -7, -7)
	calls := map[string]func(takeCase) impl.LocksResult{
		"TakeLocks": takeCase.take,
		"NeedsOf":   func(c takeCase) impl.LocksResult { return impl.NeedsOf(c.classes, c.epoch, c.form, c.set) },
	}
	for name, call := range calls {
		for _, c := range takesToKeep() {
			one, two := call(c), call(c)
			want := impl.LocksResult{Code: two.Code, Locks: slices.Clone(two.Locks)}
			spoil(one.Locks, mark)
			if !sameLocks(two, want) || !sameLocks(call(c), want) {
				t.Errorf("%s of %+v shares memory", name, c)
			}
		}
	}
}

func TestNoLocksAndEmptyLocksAreTheSame(t *testing.T) { // P1
	for _, c := range takesToKeep() {
		if len(c.locks) != 0 {
			continue
		}
		for _, locks := range [][]impl.Lock{nil, {}} {
			for _, classes := range [][]int64{nil, {}} {
				got := impl.TakeLocks(locks, classes, c.epoch, c.form, c.set)
				needs := impl.NeedsOf(classes, c.epoch, c.form, c.set)
				want := impl.LocksResult{Code: impl.OK}
				if c.form == 5 || c.set < 0 {
					want.Code = impl.ErrRange
				}
				if !sameLocks(got, want) || !sameLocks(needs, want) || impl.FormOf(locks, 1, 0, 1).Code != impl.ErrNone {
					t.Errorf("no locks, %d, %d, %d: TakeLocks %+v, NeedsOf %+v", c.epoch, c.form, c.set, got, needs)
				}
			}
		}
	}
}
