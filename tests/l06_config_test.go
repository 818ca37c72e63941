package tests

import (
	"fmt"
	"maps"
	"math"
	"reflect"
	"slices"
	"strings"
	"testing"

	"loop.example/g00338/impl"
)

var noBadCounts = []int64{math.MinInt64, math.MinInt64 + 1, -2, -1, 0, 3, 4, 1<<32 + 1, 1<<62 + 1, math.MaxInt64 - 1, math.MaxInt64}

func formsOf(lists ...[]impl.Part) []impl.Form {
	var forms []impl.Form
	for _, parts := range lists {
		forms = append(forms, impl.Form{Parts: parts})
	}
	return forms
}

// goodConfig has of each list several that differ, so that none of them can stand for another.
func goodConfig() impl.Config {
	a, b := single(role(1, 1)), single(role(1, 2))
	return impl.Config{
		Epoch: 3, F: 2,
		Rules:   []impl.Rule{member(role(1, 1), 2), member(role(1, 2), 2), member(role(1, 2), 3), linked(role(4, 5), role(1, 1), 3), both(role(2, 1), role(1, 1), role(1, 2))},
		Forms:   formsOf([]impl.Part{a}, []impl.Part{b}, []impl.Part{a, b, apart(0, 1)}),
		Classes: []int64{3, 12, 15},
	}
}

// copyConfig shares no memory with c, and has behind the end of each list something that is not of it.
func copyConfig(c impl.Config) impl.Config {
	behind := c
	behind.Rules = append(slices.Clone(c.Rules), impl.Rule{Kind: 77})[:len(c.Rules)]
	behind.Classes = append(slices.Clone(c.Classes), 77)[:len(c.Classes)]
	behind.Forms = append(slices.Clone(c.Forms), impl.Form{Parts: []impl.Part{{Kind: 77}}})[:len(c.Forms)]
	for i, form := range c.Forms {
		behind.Forms[i].Parts = append(slices.Clone(form.Parts), impl.Part{Kind: 77})[:len(form.Parts)]
	}
	return behind
}

// config has 0 to 4 forms, all of roles that its rules may give.
func (d *dice) config() impl.Config {
	owners, names := d.below(3)+2, d.below(2)+1
	c := impl.Config{Epoch: d.below(9) + 1, F: d.below(2) + 1, Classes: d.classes()}
	c.Rules = d.densePolicy(int(d.below(17)), owners, names)
	for range d.below(5) {
		c.Forms = append(c.Forms, impl.Form{Parts: d.form(int(d.below(8))+1, owners, names)})
	}
	return c
}

// manyConfigs has no faults: each form that is worked out by hand, behind another one, and others with few members and with many.
func manyConfigs() []impl.Config {
	d := dice(37)
	all := []impl.Config{goodConfig(), {Epoch: 1, F: 1}, {Epoch: 9, F: 2, Rules: policyOf(16), Classes: repeated(15, 4)}}
	for _, c := range setCases() {
		other := []impl.Part{single(role(1, 1)), apart(0, 0)}
		all = append(all, impl.Config{Epoch: 2, F: 1, Rules: c.list, Forms: formsOf(other, c.parts)})
	}
	for i := range 90 {
		c := d.config()
		if i%3 == 0 {
			c.Rules = append(membersRules(role(1, 1), 1, 3, 4, 6, 8), membersRules(role(2, 1), 2, 3, 5, 7, 8)...)
		}
		all = append(all, c)
	}
	return all
}

type configCase struct {
	name   string
	config impl.Config
	want   int64
}

// wrongConfigs has one fault in each of them: all else is that of goodConfig.
func wrongConfigs() []configCase {
	var all []configCase
	add := func(name string, want int64, turn func(*impl.Config)) {
		c := copyConfig(goodConfig())
		turn(&c)
		all = append(all, configCase{name, c, want})
	}
	for _, n := range noEpochs {
		add(fmt.Sprint("epoch ", n), impl.ErrRange, func(c *impl.Config) { c.Epoch = n })
	}
	for _, n := range noBadCounts {
		add(fmt.Sprint("F ", n), impl.ErrRange, func(c *impl.Config) { c.F = n })
	}
	for _, code := range slices.Sorted(maps.Keys(wrongPolicies())) {
		add(fmt.Sprint("PolicyFault ", code), code, func(c *impl.Config) { c.Rules = wrongPolicies()[code] })
	}
	good := goodConfig().Forms[0]
	add("5 forms", impl.ErrMany, func(c *impl.Config) { c.Forms = slices.Repeat([]impl.Form{good}, 5) })
	add("5000 forms", impl.ErrMany, func(c *impl.Config) { c.Forms = slices.Repeat([]impl.Form{good}, 5000) })
	for _, code := range slices.Sorted(maps.Keys(wrongForms())) {
		for place := range 4 {
			add(fmt.Sprint("PartsFault ", code, " at ", place), code, func(c *impl.Config) {
				c.Forms = slices.Repeat([]impl.Form{good}, 4)
				c.Forms[place].Parts = wrongForms()[code]
			})
		}
	}
	add("9 parts", impl.ErrMany, func(c *impl.Config) { c.Forms[1].Parts = doubled(9, anyOf) })
	add("empty parts", impl.ErrMany, func(c *impl.Config) { c.Forms[2].Parts = []impl.Part{} })
	add("5 classes", impl.ErrMany, func(c *impl.Config) { c.Classes = repeated(1, 5) })
	for _, n := range noClasses {
		add(fmt.Sprint("class ", n), impl.ErrRange, func(c *impl.Config) { c.Classes[0] = n })
		add(fmt.Sprint("last class ", n), impl.ErrRange, func(c *impl.Config) { c.Classes[2] = n })
	}
	return all
}

// checkConfig asks all that lean on the ConfigFault for it.
func checkConfig(t *testing.T, name string, c impl.Config, want int64) {
	t.Helper()
	if got := impl.ConfigFault(c); got != want {
		t.Errorf("%s: ConfigFault(%+v) = %d, want %d", name, c, got, want)
	}
	if want == impl.OK {
		return
	}
	if got := impl.ConfigText(c); got != (impl.TextResult{Code: want}) {
		t.Errorf("%s: ConfigText = %+v, want code %d", name, got, want)
	}
	for form := int64(-1); form <= 6; form++ {
		for set := range int64(16) {
			if impl.AllowsIn(c, form, set) {
				t.Errorf("%s: AllowsIn form %d, set %d, where there is code %d", name, form, set, want)
			}
		}
	}
}

func TestConfigFaults(t *testing.T) {
	checkConfig(t, "good", goodConfig(), impl.OK)
	checkConfig(t, "zero", impl.Config{}, impl.ErrRange)
	for _, c := range wrongConfigs() {
		checkConfig(t, c.name, c.config, c.want)
	}
	for i, c := range manyConfigs() {
		checkConfig(t, fmt.Sprint(i), c, impl.OK)
	}
}

func TestEpochAndFAtTheirBounds(t *testing.T) {
	for epoch := int64(-1); epoch <= 11; epoch++ {
		for f := int64(-1); f <= 4; f++ {
			want := int64(impl.OK)
			if epoch < 1 || epoch > 9 || f < 1 || f > 2 {
				want = impl.ErrRange
			}
			for _, c := range []impl.Config{{}, goodConfig()} {
				c.Epoch, c.F = epoch, f
				checkConfig(t, "bounds", c, want)
			}
		}
	}
}

func TestListsOfAConfigAtTheirBounds(t *testing.T) {
	for rules := range 19 {
		for forms := range 7 {
			for classes := range 7 {
				c := impl.Config{Epoch: 1, F: 1, Rules: policyOf(rules), Classes: repeated(15, classes)}
				c.Forms = slices.Repeat(goodConfig().Forms[:1], forms)
				want := int64(impl.OK)
				if rules > 16 || forms > 4 || classes > 4 {
					want = impl.ErrMany
				}
				checkConfig(t, "lists", c, want)
			}
		}
	}
}

// formsCase and the like have the code that a list has alone.
type formsCase struct {
	forms []impl.Form
	code  int64
}

func formsInOrder() []formsCase {
	good := goodConfig().Forms[0]
	wrong := map[int64]impl.Form{}
	for code, parts := range wrongForms() {
		wrong[code] = impl.Form{Parts: parts}
	}
	all := []formsCase{
		{nil, impl.OK}, {[]impl.Form{}, impl.OK}, {[]impl.Form{good}, impl.OK}, {slices.Repeat([]impl.Form{good}, 4), impl.OK},
		{slices.Repeat([]impl.Form{good}, 5), impl.ErrMany},
		{slices.Repeat([]impl.Form{wrong[impl.ErrForm]}, 5), impl.ErrMany},
		{slices.Repeat([]impl.Form{wrong[impl.ErrRange]}, 6), impl.ErrMany},
		{[]impl.Form{{}}, impl.ErrMany},
	}
	for one, first := range wrong {
		all = append(all, formsCase{[]impl.Form{first}, one}, formsCase{[]impl.Form{good, good, good, first}, one})
		for _, second := range wrong { // form by form: what stands ahead is told
			all = append(all, formsCase{[]impl.Form{first, second}, one}, formsCase{[]impl.Form{good, first, good, second}, one})
		}
	}
	return all
}

func TestCodesOfAConfigInTheirOrder(t *testing.T) {
	policies := wrongPolicies()
	policies[impl.OK] = policyOf(16)
	classes := map[int64][]int64{impl.OK: {3, 12}, impl.ErrMany: append(repeated(3, 4), 16), impl.ErrRange: {3, 16}}
	asked := 0
	for _, numbers := range [][2]int64{{1, 1}, {9, 2}, {0, 1}, {10, 2}, {1, 0}, {9, 3}, {math.MinInt64, math.MaxInt64}} {
		for policyCode, list := range policies {
			for _, forms := range formsInOrder() {
				for classCode, some := range classes {
					want := int64(impl.OK)
					for _, code := range []int64{classCode, forms.code, policyCode} { // the one ahead is laid over the others
						if code != impl.OK {
							want = code
						}
					}
					if numbers[0] != 1 && numbers[0] != 9 || numbers[1] != 1 && numbers[1] != 2 {
						want = impl.ErrRange
					}
					asked++
					checkConfig(t, "order", impl.Config{Epoch: numbers[0], F: numbers[1], Rules: list, Forms: forms.forms, Classes: some}, want)
				}
			}
		}
	}
	if asked < 3000 {
		t.Errorf("asked %d only", asked)
	}
}

func TestConfigAllowsWhatItsFormAdmits(t *testing.T) { // P7
	allowed, asked := 0, 0
	for _, c := range manyConfigs() {
		for place, form := range c.Forms {
			admitted := impl.SetsOf(c.Rules, form.Parts).Sets
			parted := splitterOf(c.Rules, form.Parts).all()
			for set := range int64(allSets) {
				got := impl.AllowsIn(c, int64(place)+1, set)
				if got != impl.Admits(c.Rules, form.Parts, set) || got != slices.Contains(admitted, set) || got != slices.Contains(parted, set) {
					t.Fatalf("AllowsIn(%+v, %d, %d) = %v, where %v are admitted", c, place+1, set, got, admitted)
				}
				asked++
				if got {
					allowed++
				}
			}
			for _, set := range noSets {
				if impl.AllowsIn(c, int64(place)+1, set) || impl.Admits(c.Rules, form.Parts, set) {
					t.Fatalf("AllowsIn(%+v, %d, %d)", c, place+1, set)
				}
			}
		}
	}
	if allowed < 1000 || asked-allowed < 1000 {
		t.Errorf("%d allowed of %d", allowed, asked)
	}
}

func TestAllowsInByHand(t *testing.T) {
	c := goodConfig()
	want := [][]int64{nil, sets([]int64{2}), sets([]int64{2}, []int64{3}), sets([]int64{2, 3}), nil, nil}
	for form, allowed := range want {
		for set := range int64(allSets) {
			if got := impl.AllowsIn(c, int64(form), set); got != slices.Contains(allowed, set) {
				t.Errorf("AllowsIn form %d, set %d = %v", form, set, got)
			}
		}
	}
}

func TestEpochFAndClassesAllowNothingMore(t *testing.T) { // P7: rules, form and set alone tell what is allowed
	for epoch := int64(1); epoch <= 9; epoch++ {
		for f := int64(1); f <= 2; f++ {
			for _, classes := range [][]int64{nil, {0}, {15}, {3, 5, 9, 15}} {
				c := goodConfig()
				c.Epoch, c.F, c.Classes = epoch, f, classes
				for form, parts := range c.Forms {
					for set := range int64(16) {
						if got := impl.AllowsIn(c, int64(form)+1, set); got != impl.Admits(c.Rules, parts.Parts, set) {
							t.Fatalf("AllowsIn(%+v, %d, %d) = %v", c, form+1, set, got)
						}
					}
				}
			}
		}
	}
}

func TestConfigWithAFaultAllowsNothing(t *testing.T) { // P7
	for _, c := range wrongConfigs() {
		for form := int64(0); form <= 5; form++ {
			for set := range int64(allSets) {
				if impl.AllowsIn(c.config, form, set) {
					t.Fatalf("%s: AllowsIn form %d, set %d", c.name, form, set)
				}
			}
			for _, set := range noSets {
				if impl.AllowsIn(c.config, form, set) {
					t.Fatalf("%s: AllowsIn form %d, set %d", c.name, form, set)
				}
			}
		}
	}
}

// Every form here admits all sets but the empty one, so that a form that is taken for another is seen.
func TestFormsThatAreNotThere(t *testing.T) {
	all := impl.Form{Parts: doubled(8, anyOf)}
	for count := range int64(5) {
		c := impl.Config{Epoch: 1, F: 1, Rules: membersRules(role(1, 1), 1, 2, 3, 4, 5, 6, 7, 8), Forms: slices.Repeat([]impl.Form{all}, int(count))}
		for form := int64(-6); form <= 6; form++ {
			for _, set := range []int64{0, 1, 128, 255} {
				want := form >= 1 && form <= count && set > 0
				if got := impl.AllowsIn(c, form, set); got != want {
					t.Errorf("AllowsIn of %d forms, form %d, set %d = %v", count, form, set, got)
				}
			}
		}
		for _, form := range append([]int64{count + 1, -count, 1<<32 + 1, math.MinInt64 + count}, noForms...) {
			for _, set := range append([]int64{0, 1, 128, 255}, noSets...) {
				if impl.AllowsIn(c, form, set) {
					t.Errorf("AllowsIn of %d forms, form %d, set %d", count, form, set)
				}
			}
		}
	}
}

func TestFormsBehindTheEndAreNotThere(t *testing.T) {
	c := goodConfig()
	c.Forms = c.Forms[:1]
	if !impl.AllowsIn(c, 1, 2) || impl.AllowsIn(c, 2, 2) || impl.AllowsIn(c, 2, 4) || impl.AllowsIn(c, 3, 6) {
		t.Error("a form behind the end")
	}
	if text := impl.ConfigText(c).Text; strings.Count(text, "form") != 1 {
		t.Errorf("ConfigText is %q", text)
	}
}

func TestNeedAndReplicas(t *testing.T) {
	cases := []struct {
		f, need, replicas int64
	}{{1, 3, 4}, {2, 5, 7}}
	for _, c := range cases {
		if got := impl.NeedOf(c.f); got != (impl.IntResult{Value: c.need}) {
			t.Errorf("NeedOf(%d) = %+v", c.f, got)
		}
		if got := impl.ReplicasOf(c.f); got != (impl.IntResult{Value: c.replicas}) {
			t.Errorf("ReplicasOf(%d) = %+v", c.f, got)
		}
		if common := 2*c.need - c.replicas; common <= c.f {
			t.Errorf("two of %d among %d may have %d in common alone", c.need, c.replicas, common)
		}
	}
	for _, f := range noBadCounts {
		if got := impl.NeedOf(f); got != (impl.IntResult{Code: impl.ErrRange}) {
			t.Errorf("NeedOf(%d) = %+v", f, got)
		}
		if got := impl.ReplicasOf(f); got != (impl.IntResult{Code: impl.ErrRange}) {
			t.Errorf("ReplicasOf(%d) = %+v", f, got)
		}
	}
}

func numbersOfPart(p *impl.Part) []*int64 {
	return []*int64{&p.Kind, &p.Role.Owner, &p.Role.Name, &p.Left, &p.Right}
}

// numbersOfConfig points at each number of c, so that a test can change one after the other.
func numbersOfConfig(c *impl.Config) []*int64 {
	all := []*int64{&c.Epoch, &c.F}
	for i := range c.Rules {
		all = append(all, numbersOf(&c.Rules[i])...)
	}
	for i := range c.Forms {
		for j := range c.Forms[i].Parts {
			all = append(all, numbersOfPart(&c.Forms[i].Parts[j])...)
		}
	}
	for i := range c.Classes {
		all = append(all, &c.Classes[i])
	}
	return all
}

// resized has lists that differ from list in their number or their order: nothing of it is shared.
func resized[T any](list []T, more T) [][]T {
	all := [][]T{append(slices.Clone(list), more), append([]T{more}, list...)}
	for place := range list {
		all = append(all, slices.Delete(slices.Clone(list), place, place+1))
		all = append(all, slices.Insert(slices.Clone(list), place, list[place]))
		for other := range place {
			turned := slices.Clone(list)
			turned[place], turned[other] = turned[other], turned[place]
			all = append(all, turned)
		}
	}
	return append(all, nil)
}

// otherConfigs differ from c in one number, in how many there are of something, or in the order of two. In c no
// two elements of one list are alike, and none of its lists is empty.
func otherConfigs(c impl.Config) []impl.Config {
	var all []impl.Config
	for i := range numbersOfConfig(&c) {
		for _, by := range []int64{1, -1, 1 << 32, math.MinInt64} {
			turned := copyConfig(c)
			*numbersOfConfig(&turned)[i] += by
			all = append(all, turned)
		}
	}
	add := func(turn func(*impl.Config)) {
		turned := copyConfig(c)
		turn(&turned)
		all = append(all, turned)
	}
	for _, rules := range resized(c.Rules, member(role(8, 5), 8)) {
		add(func(o *impl.Config) { o.Rules = rules })
	}
	for _, classes := range resized(c.Classes, 0) {
		add(func(o *impl.Config) { o.Classes = classes })
	}
	for _, forms := range resized(c.Forms, impl.Form{}) {
		add(func(o *impl.Config) { o.Forms = forms })
	}
	for i, form := range c.Forms {
		for _, parts := range resized(form.Parts, impl.Part{}) {
			add(func(o *impl.Config) { o.Forms[i].Parts = parts })
		}
	}
	return all
}

// faultyConfigs have a fault, and no two elements of one list alike.
func faultyConfigs() []impl.Config {
	wild := impl.Part{Kind: math.MinInt64, Role: role(math.MaxInt64, -1), Left: 7, Right: -7}
	return []impl.Config{
		{Epoch: math.MinInt64, F: math.MaxInt64, Rules: policyOf(20), Forms: formsOf(doubled(9, apart), []impl.Part{wild}, doubled(2, anyOf)), Classes: []int64{-1, math.MaxInt64, 16, 3, 4, 5, 6}},
		{Epoch: 0, F: 0, Rules: []impl.Rule{{}, {Kind: 9, Who: -1}}, Forms: formsOf([]impl.Part{{}, wild}, []impl.Part{wild}, []impl.Part{wild, {}}, []impl.Part{{}}, doubled(1, apart)), Classes: []int64{99}},
	}
}

func TestConfigsThatDiffer(t *testing.T) {
	asked := 0
	for _, c := range append(faultyConfigs(), goodConfig()) {
		for _, other := range otherConfigs(c) {
			asked++
			if impl.SameConfigs(c, other) || impl.SameConfigs(other, c) {
				t.Errorf("SameConfigs of %+v and %+v", c, other)
			}
		}
	}
	if asked < 1000 {
		t.Errorf("asked %d only", asked)
	}
}

func TestConfigsThatAreTheSame(t *testing.T) {
	all := append(manyConfigs(), faultyConfigs()...)
	for _, c := range wrongConfigs() {
		all = append(all, c.config)
	}
	for _, c := range append(all, impl.Config{}) {
		if copied := copyConfig(c); !impl.SameConfigs(c, c) || !impl.SameConfigs(c, copied) || !impl.SameConfigs(copied, c) {
			t.Errorf("SameConfigs of %+v and its copy is false", c)
		}
	}
	for i, one := range all {
		for j, two := range all {
			if got := impl.SameConfigs(one, two); got != (fmt.Sprintf("%v", one) == fmt.Sprintf("%v", two)) {
				t.Fatalf("SameConfigs of %d and %d = %v", i, j, got)
			}
		}
	}
}

func TestEmptyAndNilListsOfConfigsAreTheSame(t *testing.T) { // P1
	none := impl.Config{Epoch: 1, F: 1}
	empty := impl.Config{Epoch: 1, F: 1, Rules: []impl.Rule{}, Forms: []impl.Form{}, Classes: []int64{}}
	if !impl.SameConfigs(none, empty) || !impl.SameConfigs(empty, none) || impl.ConfigText(none) != impl.ConfigText(empty) || impl.ConfigFault(empty) != impl.OK {
		t.Error("nil and empty lists")
	}
	none.Forms, empty.Forms = formsOf(nil), formsOf([]impl.Part{})
	if !impl.SameConfigs(none, empty) || !impl.SameConfigs(empty, none) || impl.ConfigFault(none) != impl.ConfigFault(empty) {
		t.Error("nil and empty parts")
	}
}

func TestPartsStayInTheirForms(t *testing.T) { // the same parts in the same order, but not the same forms of them
	a, b, c := single(role(1, 1)), single(role(1, 2)), single(role(1, 3))
	all := [][]impl.Form{
		formsOf([]impl.Part{a, b, c}), formsOf([]impl.Part{a}, []impl.Part{b, c}), formsOf([]impl.Part{a, b}, []impl.Part{c}),
		formsOf([]impl.Part{a}, []impl.Part{b}, []impl.Part{c}), formsOf([]impl.Part{a, b, c}, nil), formsOf(nil, []impl.Part{a, b, c}),
	}
	for i, one := range all {
		for j, two := range all {
			if got := impl.SameConfigs(impl.Config{Forms: one}, impl.Config{Forms: two}); got != (i == j) {
				t.Errorf("SameConfigs of %v and %v = %v", one, two, got)
			}
		}
	}
}

// textOfConfig is written anew here, from rules whose texts were read.
func textOfConfig(c impl.Config, texts map[impl.Rule]string) string {
	text := fmt.Sprintf("epoch %d %d\n", c.Epoch, c.F)
	for _, rule := range c.Rules {
		text += fmt.Sprintf("rule %s\n", texts[rule])
	}
	for _, form := range c.Forms {
		text += fmt.Sprintf("form %s\n", textOfParts(form.Parts, int64(len(form.Parts))-1))
	}
	for _, class := range c.Classes {
		text += fmt.Sprintf("class %d\n", class)
	}
	return text
}

func textsOfRules() map[impl.Rule]string {
	texts := map[impl.Rule]string{}
	for text, rule := range everyRule() {
		texts[rule] = text
	}
	return texts
}

func TestConfigTextsByHand(t *testing.T) {
	cases := []struct {
		config impl.Config
		want   string
	}{
		{impl.Config{Epoch: 1, F: 1}, "epoch 1 1\n"},
		{impl.Config{Epoch: 9, F: 2}, "epoch 9 2\n"},
		{impl.Config{Epoch: 2, F: 1, Classes: []int64{0}}, "epoch 2 1\nclass 0\n"},
		{impl.Config{Epoch: 2, F: 1, Classes: []int64{15, 3, 10, 3}}, "epoch 2 1\nclass 15\nclass 3\nclass 10\nclass 3\n"},
		{impl.Config{Epoch: 2, F: 1, Forms: formsOf(doubled(2, apart))}, "epoch 2 1\nform (1.1 * 1.1)\n"},
		{impl.Config{Epoch: 2, F: 1, Rules: []impl.Rule{contain(role(8, 5), role(1, 2))}}, "epoch 2 1\nrule 8.5 <- 1.2\n"},
		{goodConfig(), "epoch 3 2\nrule 1.1 <- 2\nrule 1.2 <- 2\nrule 1.2 <- 3\nrule 4.5 <- 1.1.3\nrule 2.1 <- 1.1 & 1.2\n" +
			"form 1.1\nform 1.2\nform (1.1 * 1.2)\nclass 3\nclass 12\nclass 15\n"},
	}
	for _, c := range cases {
		if got := impl.ConfigText(c.config); got != (impl.TextResult{Text: c.want}) {
			t.Errorf("ConfigText(%+v) = %+v, want %q", c.config, got, c.want)
		}
	}
}

func TestManyConfigTexts(t *testing.T) {
	d, texts, codes := dice(41), textsOfRules(), map[int64]int{}
	all := manyConfigs()
	for i := range 3000 {
		c := d.config()
		if i%3 == 0 {
			c.Rules = d.densePolicy(16, 8, 5)
		}
		if i%5 == 0 && len(c.Forms) > 0 {
			c.Forms[d.below(int64(len(c.Forms)))].Parts = append(doubled(int(d.below(6))+2, anyOf), apart(1, 0))
		}
		if i%7 == 0 && len(c.Forms) > 0 {
			c.Forms[d.below(int64(len(c.Forms)))].Parts = doubled(int(d.below(8))+1, apart)
		}
		all = append(all, c)
	}
	for _, c := range all {
		want := impl.TextResult{Text: textOfConfig(c, texts)}
		for _, form := range c.Forms {
			if len(textOfParts(form.Parts, int64(len(form.Parts))-1)) > 200 {
				want = impl.TextResult{Code: impl.ErrMany}
			}
		}
		codes[want.Code]++
		if got := impl.ConfigText(c); got != want {
			t.Fatalf("ConfigText(%+v) = %+v, want %+v", c, got, want)
		}
	}
	if codes[impl.OK] < 1000 || codes[impl.ErrMany] < 100 {
		t.Errorf("codes %v", codes)
	}
}

func TestAFormWhosePartTextHasACode(t *testing.T) {
	for _, parts := range [][]impl.Part{doubled(6, apart), doubled(8, anyOf)} {
		for place := range 4 {
			c := goodConfig()
			c.Forms = slices.Repeat(c.Forms[:1], 4)
			c.Forms[place].Parts = parts
			code := impl.PartText(parts).Code
			if got := impl.ConfigText(c); code != impl.ErrMany || got != (impl.TextResult{Code: code}) || impl.ConfigFault(c) != impl.OK {
				t.Errorf("ConfigText with %v at %d = %+v", parts, place, got)
			}
		}
	}
}

// longForm has roles 25 times: the longest text that a form can have, of 195 bytes.
func longForm() []impl.Part {
	return []impl.Part{single(role(8, 5)), anyOf(0, 0), anyOf(1, 0), anyOf(2, 2), apart(3, 3), anyOf(4, 4), apart(5, 0)}
}

// A text of 1500 bytes there is none: a configuration has 16 rules at most, of 22 bytes with their line feed, 4 forms
// of 201, 4 classes of 9, and 10 bytes ahead: 1202 in all. This one is told, and so is each that is shorter.
func TestTheLongestConfigText(t *testing.T) {
	texts, longest := textsOfRules(), 0
	for _, text := range texts {
		longest = max(longest, len("rule "+text+"\n"))
	}
	if longest != 22 || len(impl.PartText(longForm()).Text) != 195 {
		t.Fatalf("rules of %d bytes, a form of %d", longest, len(impl.PartText(longForm()).Text))
	}
	c := impl.Config{Epoch: 9, F: 2, Classes: repeated(15, 4), Forms: slices.Repeat(formsOf(longForm()), 4)}
	for name := range int64(5) {
		for owner := range int64(4) {
			c.Rules = append(c.Rules, both(role(owner+1, name+1), role(8, 5), role(7, 4)))
		}
	}
	c.Rules = c.Rules[:16]
	got, want := impl.ConfigText(c), textOfConfig(c, texts)
	if got != (impl.TextResult{Text: want}) || len(want) != 1202 {
		t.Errorf("ConfigText of %d bytes = %+v, want %q", len(want), got, want)
	}
	for rules := range 17 {
		for forms := range 5 {
			short := c
			short.Rules, short.Forms = c.Rules[:rules], c.Forms[:forms]
			if got := impl.ConfigText(short); got != (impl.TextResult{Text: textOfConfig(short, texts)}) || len(got.Text) != 10+22*rules+201*forms+36 {
				t.Errorf("ConfigText of %d rules and %d forms has %d bytes, code %d", rules, forms, len(got.Text), got.Code)
			}
		}
	}
}

func TestLinesOfAConfigText(t *testing.T) {
	for _, c := range manyConfigs() {
		got := impl.ConfigText(c)
		if got.Code != impl.OK {
			continue
		}
		lines := strings.SplitAfter(got.Text, "\n")
		if last := len(lines) - 1; lines[last] != "" || last != 1+len(c.Rules)+len(c.Forms)+len(c.Classes) {
			t.Fatalf("%+v: %q", c, got.Text)
		}
		if strings.Contains(got.Text, "  ") || strings.Contains(got.Text, " \n") || strings.Contains(got.Text, "\n ") {
			t.Fatalf("%+v: %q", c, got.Text)
		}
	}
}

func configsToKeep() []impl.Config {
	all := append(manyConfigs()[:30], faultyConfigs()...)
	for _, c := range wrongConfigs() {
		all = append(all, c.config)
	}
	long := goodConfig()
	long.Forms[1].Parts = doubled(8, anyOf)
	return append(all, impl.Config{}, long)
}

// wholeConfig tells all that is in the memory of c's lists, also behind their ends.
func wholeConfig(c impl.Config) string {
	text := fmt.Sprint(c.Epoch, c.F, len(c.Rules), c.Rules[:cap(c.Rules)], len(c.Classes), c.Classes[:cap(c.Classes)], len(c.Forms))
	for _, form := range c.Forms[:cap(c.Forms)] {
		text += fmt.Sprint(len(form.Parts), form.Parts[:cap(form.Parts)])
	}
	return text
}

func answersOfConfig(c impl.Config, other impl.Config) []any {
	all := []any{impl.ConfigFault(c), impl.NeedOf(c.F), impl.ReplicasOf(c.F), impl.ConfigText(c), impl.SameConfigs(c, other), impl.SameConfigs(other, c)}
	for form := int64(-1); form <= 5; form++ {
		for _, set := range []int64{0, 1, 2, 6, 255, -1} {
			all = append(all, impl.AllowsIn(c, form, set))
		}
	}
	return all
}

func TestConfigsHandedInAreUnchanged(t *testing.T) { // P1
	for _, c := range configsToKeep() {
		given, other := copyConfig(c), copyConfig(c)
		want, wantOther := wholeConfig(given), wholeConfig(other)
		answersOfConfig(given, other)
		if wholeConfig(given) != want || wholeConfig(other) != wantOther {
			t.Errorf("%s was changed to %s and %s", want, wholeConfig(given), wholeConfig(other))
		}
	}
}

func TestSameConfigsSameAnswers(t *testing.T) { // P1: nothing is kept from call to call
	var first [][]any
	for _, c := range configsToKeep() {
		first = append(first, answersOfConfig(c, goodConfig()))
	}
	for i, c := range slices.Backward(configsToKeep()) {
		if again := answersOfConfig(copyConfig(c), goodConfig()); !reflect.DeepEqual(first[i], again) {
			t.Errorf("%+v: first %v, then %v", c, first[i], again)
		}
	}
}

func TestAnswersOfConfigsShareNoMemory(t *testing.T) { // P1: what is handed in may be changed behind the call
	for _, c := range configsToKeep() {
		given := copyConfig(c)
		text := impl.ConfigText(given)
		before := impl.TextResult{Code: text.Code, Text: strings.Clone(text.Text)}
		for _, form := range given.Forms {
			spoil(form.Parts, impl.Part{Kind: -7})
		}
		spoil(given.Rules, impl.Rule{Kind: -7})
		spoil(given.Forms, impl.Form{})
		spoil(given.Classes, -7)
		if text != before || impl.ConfigText(c) != before {
			t.Errorf("%+v: %+v, then %+v", c, before, text)
		}
	}
}
