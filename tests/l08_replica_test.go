package tests

import (
	"fmt"
	"math"
	"reflect"
	"slices"
	"testing"

	"loop.example/g00338/impl"
)

var noIds = []int64{math.MinInt64, math.MinInt64 + 1, -7, -1, 0, 8, 9, 1<<32 + 1, math.MaxInt64 - 1, math.MaxInt64}

// storey is the configuration of a place: form 1 has the one principal that is numbered by the place and 1, so that
// what may be issued tells which configuration is known; form 2 has each of 1 to 3, form 3 all sets of these.
func storey(place int64, epoch int64, classes ...int64) impl.Config {
	one, some := role(1, 1), role(1, 2)
	return impl.Config{
		Epoch: epoch, F: 1,
		Rules:   append(membersRules(some, 1, 2, 3), member(one, place+1)),
		Forms:   formsOf([]impl.Part{single(one)}, []impl.Part{single(some)}, []impl.Part{single(some), anyOf(0, 0), anyOf(1, 1)}),
		Classes: classes,
	}
}

// house has several places of epochs 2, 3 and 4, none of epoch 1, and no place 7, which a statement may name.
func house() []impl.Config {
	return []impl.Config{
		storey(0, 2, 6), storey(1, 3, 0, 7), storey(2, 3, 5, 6), storey(3, 4, 6),
		storey(4, 2, 3), storey(5, 5), storey(6, 4, 1, 2, 4, 6),
	}
}

// tower has epochs 1 to 8 at its places, forms 1 and 2 of which any set has each, and locks all of it in four classes.
func tower() []impl.Config {
	all := doubled(4, anyOf)
	var configs []impl.Config
	for epoch := int64(1); epoch <= 8; epoch++ {
		configs = append(configs, impl.Config{Epoch: epoch, F: 2, Rules: membersRules(role(1, 1), 1, 2, 3, 4, 5, 6, 7, 8), Forms: formsOf(all, all), Classes: repeated(3, 4)})
	}
	return configs
}

func withF(configs []impl.Config, f int64) []impl.Config {
	for place := range configs {
		configs[place].F = f
	}
	return configs
}

func copyConfigs(configs []impl.Config) []impl.Config {
	copied := []impl.Config{}
	for _, c := range configs {
		copied = append(copied, copyConfig(c))
	}
	return append(copied, impl.Config{Epoch: 77})[:len(configs)]
}

// teller works out what a replica may say: what it knows and what is locked stand in maps that each statement adds to.
type teller struct {
	configs []impl.Config
	said    []impl.Statement
	known   map[int64]impl.Config
	over    map[int64]bool
	revoked map[impl.Statement]bool
	locks   []impl.Lock
}

func newTeller(configs []impl.Config) *teller {
	first := configs[0]
	return &teller{configs: configs, known: map[int64]impl.Config{first.Epoch: first}, over: map[int64]bool{}, revoked: map[impl.Statement]bool{}}
}

func (m *teller) issueCode(c impl.Config, x impl.Statement) int64 {
	if m.over[x.Epoch] || m.revoked[revoke(x.Epoch, x.Form, x.Set)] {
		return impl.ErrOld
	}
	if int(x.Form) > len(c.Forms) || !slices.Contains(splitterOf(c.Rules, c.Forms[x.Form-1].Parts).all(), x.Set) {
		return impl.ErrPolicy
	}
	return wantTaken(m.locks, wantNeeds(c.Classes, x.Epoch, x.Form, x.Set)).Code
}

func (m *teller) stepCode(x impl.Statement) int64 {
	for _, there := range m.said {
		if there.Kind == x.Kind && there.Epoch == x.Epoch {
			return impl.ErrTaken
		}
	}
	if int(x.Next) >= len(m.configs) {
		return impl.ErrRange
	}
	if m.configs[x.Next].Epoch-1 != x.Epoch {
		return impl.ErrState
	}
	return impl.OK
}

func (m *teller) code(x impl.Statement) int64 {
	if fault := wantStatementFault(x); fault != impl.OK {
		return fault
	}
	if slices.Contains(m.said, x) {
		return impl.OK
	}
	c, known := m.known[x.Epoch]
	if !known {
		return impl.ErrNone
	}
	if len(m.said) >= 40 {
		return impl.ErrMany
	}
	switch x.Kind {
	case impl.SayIssue:
		return m.issueCode(c, x)
	case impl.SayRevoke:
		return impl.OK
	}
	return m.stepCode(x)
}

func (m *teller) say(x impl.Statement) int64 {
	code := m.code(x)
	if code != impl.OK || slices.Contains(m.said, x) {
		return code
	}
	switch x.Kind {
	case impl.SayIssue:
		m.locks = wantTaken(m.locks, wantNeeds(m.known[x.Epoch].Classes, x.Epoch, x.Form, x.Set)).Locks
	case impl.SayRevoke:
		m.revoked[x] = true
	case impl.SayNext:
		m.over[x.Epoch] = true
	case impl.SayTake:
		m.over[x.Epoch] = true
		if _, there := m.known[x.Epoch+1]; !there {
			m.known[x.Epoch+1] = m.configs[x.Next]
		}
	}
	m.said = append(slices.Clone(m.said), x)
	return code
}

// tellerOf has what is left of said where all that cannot be said is left out.
func tellerOf(configs []impl.Config, said ...impl.Statement) *teller {
	m := newTeller(configs)
	for _, x := range said {
		m.say(x)
	}
	return m
}

func (m *teller) replica(id int64, sure int64) impl.Replica {
	return impl.Replica{Id: id, Sure: sure, Said: slices.Clone(m.said), Locks: slices.Clone(m.locks)}
}

// replicaOf is one that said just that: the test ends where it cannot be said.
func replicaOf(t *testing.T, configs []impl.Config, said ...impl.Statement) impl.Replica {
	t.Helper()
	m := tellerOf(configs, said...)
	if len(m.said) != len(said) {
		t.Fatalf("of %+v only %+v can be said", said, m.said)
	}
	return m.replica(1, 0)
}

func wantFault(r impl.Replica, configs []impl.Config) int64 { // the configs have no fault
	if r.Id < 1 || r.Id > 3*configs[0].F+1 || r.Sure < 0 || r.Sure > int64(len(r.Said)) {
		return impl.ErrRange
	}
	if len(r.Said) > 40 {
		return impl.ErrMany
	}
	m := tellerOf(configs, r.Said...)
	if !slices.Equal(m.said, r.Said) || !slices.Equal(m.locks, r.Locks) {
		return impl.ErrState
	}
	return impl.OK
}

func sameReplicas(a impl.ReplicaResult, b impl.ReplicaResult) bool {
	return a.Code == b.Code && a.Replica.Id == b.Replica.Id && a.Replica.Sure == b.Replica.Sure &&
		slices.Equal(a.Replica.Said, b.Replica.Said) && slices.Equal(a.Replica.Locks, b.Replica.Locks)
}

// isCode says that there is the code, and that all else is zero.
func isCode(got impl.ReplicaResult, code int64) bool {
	r := got.Replica
	return got.Code == code && r.Id == 0 && r.Sure == 0 && len(r.Said) == 0 && len(r.Locks) == 0
}

// checkFault asks all that lean on the ReplicaFault, also by what has codes of its own behind it.
func checkFault(t *testing.T, name string, r impl.Replica, configs []impl.Config, want int64) {
	t.Helper()
	if got := impl.ReplicaFault(r, configs); got != want {
		t.Errorf("%s: ReplicaFault of %d configs and %.600s = %d, want %d", name, len(configs), fmt.Sprintf("%+v", r), got, want)
	}
	if want == impl.OK {
		return
	}
	asked := []impl.Statement{issue(2, 1, 1), revoke(2, 1, 1), next(2, 1), take(2, 1), take(9, 7), {}, issue(2, 5, 0)}
	if len(r.Said) > 0 {
		asked = append(asked, r.Said[0])
	}
	for _, x := range asked {
		if got := impl.MayEndorse(r, configs, x); got != want {
			t.Errorf("%s: MayEndorse %+v = %d, want %d", name, x, got, want)
		}
		if got := impl.Endorse(r, configs, x); !isCode(got, want) {
			t.Errorf("%s: Endorse %+v = %+v, want code %d", name, x, got, want)
		}
	}
	if got := impl.SyncReplica(r, configs); !isCode(got, want) {
		t.Errorf("%s: SyncReplica = %+v, want code %d", name, got, want)
	}
	for _, kept := range []int64{0, 1, -1, math.MinInt64, math.MaxInt64} {
		if got := impl.CrashReplica(r, configs, kept); !isCode(got, want) {
			t.Errorf("%s: CrashReplica by %d = %+v, want code %d", name, kept, got, want)
		}
	}
}

// checkEndorse asks whether r, of which m is the teller, may say x, and what comes of it.
func checkEndorse(t *testing.T, name string, r impl.Replica, m *teller, x impl.Statement, want int64) {
	t.Helper()
	if got := impl.MayEndorse(r, m.configs, x); got != want {
		t.Errorf("%s: MayEndorse %+v behind %+v = %d, want %d", name, x, r.Said, got, want)
	}
	got := impl.Endorse(r, m.configs, x)
	if want != impl.OK {
		if !isCode(got, want) {
			t.Errorf("%s: Endorse %+v behind %+v = %+v, want code %d", name, x, r.Said, got, want)
		}
		return
	}
	behind := tellerOf(m.configs, append(slices.Clone(m.said), x)...)
	if !sameReplicas(got, impl.ReplicaResult{Replica: behind.replica(r.Id, r.Sure)}) {
		t.Errorf("%s: Endorse %+v behind %+v = %+v, want %+v", name, x, r.Said, got, behind.replica(r.Id, r.Sure))
	}
}

func TestReplicaConstants(t *testing.T) {
	if impl.MaxSaid != 40 {
		t.Errorf("MaxSaid is %d", impl.MaxSaid)
	}
}

func TestNewReplica(t *testing.T) {
	for id := int64(1); id <= 7; id++ {
		got := impl.NewReplica(id)
		if !sameReplicas(got, impl.ReplicaResult{Replica: impl.Replica{Id: id}}) {
			t.Errorf("NewReplica(%d) = %+v", id, got)
		}
		checkFault(t, "new, of seven", got.Replica, tower(), impl.OK)
		want := int64(impl.OK)
		if id > 4 {
			want = impl.ErrRange
		}
		checkFault(t, "new, of four", got.Replica, house(), want)
	}
	for _, id := range noIds {
		if got := impl.NewReplica(id); !isCode(got, impl.ErrRange) {
			t.Errorf("NewReplica(%d) = %+v", id, got)
		}
	}
}

func TestHowManyConfigs(t *testing.T) {
	r := impl.Replica{Id: 1}
	checkFault(t, "nil", r, nil, impl.ErrMany)
	checkFault(t, "empty", r, []impl.Config{}, impl.ErrMany)
	for count := 1; count <= 20; count++ {
		want := int64(impl.OK)
		if count > 8 {
			want = impl.ErrMany
		}
		checkFault(t, "count", r, slices.Repeat(house()[:1], count), want)
	}
	checkFault(t, "100000", r, make([]impl.Config, 100000), impl.ErrMany)
	checkFault(t, "9 and a wrong id", impl.Replica{}, slices.Repeat(house()[:1], 9), impl.ErrMany)
	checkFault(t, "none and a wrong sure", impl.Replica{Id: 1, Sure: 1}, nil, impl.ErrMany)
	checkFault(t, "9 that are wrong", r, make([]impl.Config, 9), impl.ErrMany)
}

func TestConfigFaultOfEachPlace(t *testing.T) {
	for _, c := range wrongConfigs() {
		for place := range 8 {
			configs := withF(tower(), 2)
			configs[place] = c.config
			checkFault(t, fmt.Sprint(c.name, " at ", place), impl.Replica{Id: 1}, configs, c.want)
			checkFault(t, fmt.Sprint(c.name, " at ", place, " and all else wrong"), impl.Replica{Id: 9, Sure: -1, Said: make([]impl.Statement, 41)}, configs, c.want)
		}
	}
}

func TestFOfEachPlace(t *testing.T) {
	for place := range 8 {
		for f := int64(1); f <= 2; f++ {
			configs := withF(tower(), f)
			checkFault(t, "all the same", impl.Replica{Id: 1}, configs, impl.OK)
			configs[place].F = 3 - f
			checkFault(t, fmt.Sprint("another F at ", place), impl.Replica{Id: 1}, configs, impl.ErrForm)
			checkFault(t, fmt.Sprint("another F at ", place, ", id 0"), impl.Replica{}, configs, impl.ErrForm)
		}
	}
}

func TestConfigsInTheirOrder(t *testing.T) { // config by config: what stands ahead is told
	type flaw struct {
		code int64
		turn func(*impl.Config)
	}
	flaws := []flaw{
		{impl.ErrForm, func(c *impl.Config) { c.F = 1 }},
		{impl.ErrRange, func(c *impl.Config) { c.Epoch = 0 }},
		{impl.ErrRange, func(c *impl.Config) { c.F = 3 }},
		{impl.ErrMany, func(c *impl.Config) { c.Classes = repeated(3, 5) }},
		{impl.ErrTaken, func(c *impl.Config) { c.Rules = append(c.Rules, c.Rules[0]) }},
		{impl.ErrMany, func(c *impl.Config) { c.F, c.Classes = 1, repeated(3, 5) }},
		{impl.ErrRange, func(c *impl.Config) { c.F, c.Epoch = 1, 10 }},
	}
	for _, one := range flaws {
		for _, two := range flaws {
			for place := 1; place < 8; place++ {
				for behind := place + 1; behind < 8; behind++ {
					configs := tower()
					one.turn(&configs[place])
					two.turn(&configs[behind])
					if want := impl.ConfigFault(configs[place]); want != impl.OK && want != one.code {
						t.Fatalf("ConfigFault is %d, want %d", want, one.code)
					}
					if got := impl.ReplicaFault(impl.Replica{}, configs); got != one.code {
						t.Errorf("places %d and %d: %d, want %d", place, behind, got, one.code)
					}
				}
			}
		}
	}
	configs := tower()
	configs[0].F = 1 // the others are not as the first one is, whatever most are
	configs[1].Epoch = 0
	checkFault(t, "the ConfigFault ahead of the F of its place", impl.Replica{Id: 1}, configs, impl.ErrRange)
}

func TestIdsAtTheirBounds(t *testing.T) {
	for f := int64(1); f <= 2; f++ {
		configs := withF(house(), f)
		for id := int64(-2); id <= 10; id++ {
			want := int64(impl.ErrRange)
			if id >= 1 && id <= 3*f+1 {
				want = impl.OK
			}
			checkFault(t, fmt.Sprint("id ", id, " of F ", f), impl.Replica{Id: id}, configs, want)
			m := tellerOf(configs, issue(2, 2, 1))
			checkFault(t, fmt.Sprint("id ", id, " of F ", f, " that said something"), m.replica(id, 1), configs, want)
		}
		for _, id := range noIds {
			checkFault(t, "a great id", impl.Replica{Id: id}, configs, impl.ErrRange)
		}
	}
}

func revokes(count int) []impl.Statement {
	var all []impl.Statement
	for i := range int64(count) {
		all = append(all, revoke(2, 4, i+1))
	}
	return all
}

func TestSureAtItsBounds(t *testing.T) {
	for _, count := range []int{0, 1, 2, 5, 39, 40} {
		for _, sure := range []int64{-1, 0, 1, 2, int64(count) - 1, int64(count), int64(count) + 1, 41, math.MinInt64, math.MaxInt64} {
			want := int64(impl.OK)
			if sure < 0 || sure > int64(count) {
				want = impl.ErrRange
			}
			checkFault(t, fmt.Sprint("sure ", sure, " of ", count), impl.Replica{Id: 4, Sure: sure, Said: revokes(count)}, house(), want)
		}
	}
}

func TestHowManyAreSaid(t *testing.T) {
	checkFault(t, "40", impl.Replica{Id: 1, Said: revokes(40)}, house(), impl.OK)
	checkFault(t, "41", impl.Replica{Id: 1, Said: revokes(41)}, house(), impl.ErrMany)
	checkFault(t, "255", impl.Replica{Id: 1, Sure: 255, Said: revokes(255)}, house(), impl.ErrMany)
	checkFault(t, "41 and id 0", impl.Replica{Said: revokes(41)}, house(), impl.ErrRange)
	checkFault(t, "41 and sure 42", impl.Replica{Id: 1, Sure: 42, Said: revokes(41)}, house(), impl.ErrRange)
	checkFault(t, "41 that are none", impl.Replica{Id: 1, Said: make([]impl.Statement, 41)}, house(), impl.ErrMany)
	checkFault(t, "41 and locks", impl.Replica{Id: 1, Said: revokes(41), Locks: everyPlace(1)}, house(), impl.ErrMany)
	checkFault(t, "40 that are none", impl.Replica{Id: 1, Said: make([]impl.Statement, 40)}, house(), impl.ErrState)
	checkFault(t, "100000", impl.Replica{Id: 1, Said: make([]impl.Statement, 100000)}, house(), impl.ErrMany)
	checkFault(t, "one that is none, and id 5", impl.Replica{Id: 5, Said: make([]impl.Statement, 1)}, house(), impl.ErrRange)
	checkFault(t, "one that is none, and sure 2", impl.Replica{Id: 1, Sure: 2, Said: make([]impl.Statement, 1)}, house(), impl.ErrRange)
	twice := append(revokes(40), revoke(2, 4, 1))
	checkFault(t, "40 and one of them again", impl.Replica{Id: 1, Said: twice}, house(), impl.ErrMany)
}

type saidCase struct {
	name string
	said []impl.Statement
	x    impl.Statement
	want int64
}

func said(list ...impl.Statement) []impl.Statement {
	return list
}

// stepsTo goes on to epoch 5 by the places 2, 6 and 5.
func stepsTo(epoch int64) []impl.Statement {
	return said(take(2, 2), take(3, 6), take(4, 5))[:epoch-2]
}

func issueCases() []saidCase {
	return []saidCase{
		{"an issue", nil, issue(2, 1, 1), impl.OK},
		{"an issue of form 2", nil, issue(2, 2, 4), impl.OK},
		{"an issue of form 3", nil, issue(2, 3, 7), impl.OK},
		{"an issue of no member", nil, issue(2, 1, 2), impl.ErrPolicy},
		{"an issue of too many", nil, issue(2, 2, 3), impl.ErrPolicy},
		{"an issue of more than members", nil, issue(2, 3, 15), impl.ErrPolicy},
		{"an issue of a form that is not there", nil, issue(2, 4, 1), impl.ErrPolicy},
		{"an issue of an epoch that is below", nil, issue(1, 2, 1), impl.ErrNone},
		{"an issue of an epoch to come", nil, issue(3, 2, 1), impl.ErrNone},
		{"an issue of no member of an epoch to come", nil, issue(3, 4, 255), impl.ErrNone},
		{"an issue of an epoch that no place has", nil, issue(9, 2, 1), impl.ErrNone},
		{"behind a next", said(next(2, 1)), issue(2, 1, 1), impl.ErrOld},
		{"behind a take", said(take(2, 1)), issue(2, 1, 1), impl.ErrOld},
		{"behind a next and another take", said(next(2, 1), take(2, 2)), issue(2, 1, 1), impl.ErrOld},
		{"behind a next, not allowed", said(next(2, 1)), issue(2, 1, 2), impl.ErrOld},
		{"behind a take, a form that is not there", said(take(2, 1)), issue(2, 4, 1), impl.ErrOld},
		{"behind a next, locked", said(issue(2, 2, 1), next(2, 1)), issue(2, 3, 1), impl.ErrOld},
		{"behind the next of an epoch ahead", said(next(2, 1), take(2, 1)), issue(3, 1, 2), impl.OK},
		{"behind the next of the epoch behind", said(take(2, 1), next(3, 3)), issue(3, 1, 2), impl.ErrOld},
		{"behind the take of the epoch behind", said(take(2, 1), take(3, 3)), issue(3, 1, 2), impl.ErrOld},
		{"of the first epoch behind that", said(take(2, 1), take(3, 3)), issue(2, 1, 1), impl.ErrOld},
		{"behind its revoke", said(revoke(2, 2, 1)), issue(2, 2, 1), impl.ErrOld},
		{"behind its revoke, not allowed", said(revoke(2, 1, 128)), issue(2, 1, 128), impl.ErrOld},
		{"behind its revoke, a form that is not there", said(revoke(2, 4, 1)), issue(2, 4, 1), impl.ErrOld},
		{"behind its revoke, locked", said(issue(2, 2, 1), revoke(2, 3, 1)), issue(2, 3, 1), impl.ErrOld},
		{"behind its revoke and others", said(revoke(2, 1, 1), revoke(2, 2, 1), revoke(2, 2, 2)), issue(2, 2, 1), impl.ErrOld},
		{"behind a revoke of another set", said(revoke(2, 2, 2)), issue(2, 2, 1), impl.OK},
		{"behind a revoke of more", said(revoke(2, 3, 7)), issue(2, 3, 3), impl.OK},
		{"behind a revoke of fewer", said(revoke(2, 3, 1), revoke(2, 3, 2)), issue(2, 3, 3), impl.OK},
		{"behind a revoke of another form", said(revoke(2, 3, 1)), issue(2, 2, 1), impl.OK},
		{"behind a revoke of another epoch", said(revoke(2, 2, 1), take(2, 1)), issue(3, 2, 1), impl.OK},
		{"behind its revoke in an epoch behind", said(take(2, 1), revoke(3, 2, 1)), issue(3, 2, 1), impl.ErrOld},
		{"another form of its class", said(issue(2, 2, 1)), issue(2, 3, 1), impl.ErrTaken},
		{"another form of its class, with others", said(issue(2, 2, 1)), issue(2, 3, 7), impl.ErrTaken},
		{"another form of its class, for others", said(issue(2, 2, 1)), issue(2, 3, 6), impl.OK},
		{"another form of its class, that is not allowed", said(issue(2, 2, 1)), issue(2, 3, 9), impl.ErrPolicy},
		{"a form of no class", said(issue(2, 2, 1)), issue(2, 1, 1), impl.OK},
		{"the same form again, with others", said(issue(2, 3, 1)), issue(2, 3, 3), impl.OK},
		{"another form of a class that was revoked", said(issue(2, 2, 1), revoke(2, 2, 1)), issue(2, 3, 1), impl.ErrTaken},
		{"another form in another epoch", said(issue(2, 2, 1), take(2, 1)), issue(3, 3, 1), impl.OK},
		{"another form of the second class", said(take(2, 1), issue(3, 2, 2)), issue(3, 1, 2), impl.ErrTaken},
		{"classes of the place that was taken", said(take(2, 2), issue(3, 1, 4)), issue(3, 2, 4), impl.OK},
		{"a form of one class ahead of another one", said(take(2, 2), issue(3, 1, 4)), issue(3, 3, 4), impl.ErrTaken},
	}
}

func stepCases() []saidCase {
	return []saidCase{
		{"a next", nil, next(2, 1), impl.OK},
		{"another next", nil, next(2, 2), impl.OK},
		{"a take without a next", nil, take(2, 1), impl.OK},
		{"a take behind its next", said(next(2, 1)), take(2, 1), impl.OK},
		{"a take behind another next", said(next(2, 1)), take(2, 2), impl.OK},
		{"a next behind a take", said(take(2, 1)), next(2, 1), impl.OK},
		{"a next behind another take", said(take(2, 1)), next(2, 2), impl.OK},
		{"behind an issue", said(issue(2, 1, 1)), next(2, 1), impl.OK},
		{"a second next", said(next(2, 1)), next(2, 2), impl.ErrTaken},
		{"a second take", said(take(2, 1)), take(2, 2), impl.ErrTaken},
		{"a second next that is no place", said(next(2, 1)), next(2, 7), impl.ErrTaken},
		{"a second take that is no place", said(take(2, 1)), take(2, 7), impl.ErrTaken},
		{"a second next of another epoch's place", said(next(2, 1)), next(2, 3), impl.ErrTaken},
		{"a second take of another epoch's place", said(take(2, 1)), take(2, 0), impl.ErrTaken},
		{"a next that is no place", nil, next(2, 7), impl.ErrRange},
		{"a take that is no place", nil, take(2, 7), impl.ErrRange},
		{"a next that is no place, behind a take", said(take(2, 1)), next(2, 7), impl.ErrRange},
		{"a next of the same epoch", nil, next(2, 0), impl.ErrState},
		{"a next of the same epoch elsewhere", nil, next(2, 4), impl.ErrState},
		{"a next of two epochs on", nil, next(2, 3), impl.ErrState},
		{"a take of the same epoch", nil, take(2, 4), impl.ErrState},
		{"a take of three epochs on", nil, take(2, 5), impl.ErrState},
		{"a take of an epoch ahead", said(take(2, 1)), take(3, 0), impl.ErrState},
		{"a next of an epoch below", nil, next(1, 0), impl.ErrNone},
		{"a take of an epoch below", nil, take(1, 4), impl.ErrNone},
		{"a next of an epoch to come", nil, next(3, 3), impl.ErrNone},
		{"a next of an epoch to come that is no place", nil, next(3, 7), impl.ErrNone},
		{"a take of an epoch to come of a wrong place", said(next(2, 1)), take(3, 1), impl.ErrNone},
		{"a second step", said(take(2, 1)), next(3, 3), impl.OK},
		{"a second step elsewhere", said(take(2, 1)), take(3, 6), impl.OK},
		{"a third step", said(take(2, 1), take(3, 6)), take(4, 5), impl.OK},
		{"a third step of which one was said", said(take(2, 1), take(3, 6), next(4, 5)), next(4, 0), impl.ErrTaken},
		{"a step of the last epoch there", stepsTo(5), next(5, 3), impl.ErrState},
		{"a step of the last epoch that is no place", stepsTo(5), take(5, 7), impl.ErrRange},
		{"a next of an epoch that is over", stepsTo(5), next(2, 1), impl.OK},
		{"a take of an epoch that is over", stepsTo(5), take(2, 1), impl.ErrTaken},
	}
}

// knowCases tell by form 1 at which place the configuration of an epoch is known to be.
func knowCases() []saidCase {
	return []saidCase{
		{"the first one", nil, issue(2, 1, 1), impl.OK},
		{"the other place of that epoch", nil, issue(2, 1, 16), impl.ErrPolicy},
		{"place 1 behind its take", said(take(2, 1)), issue(3, 1, 2), impl.OK},
		{"place 2 behind the take of 1", said(take(2, 1)), issue(3, 1, 4), impl.ErrPolicy},
		{"place 2 behind its take", said(take(2, 2)), issue(3, 1, 4), impl.OK},
		{"place 1 behind the take of 2", said(take(2, 2)), issue(3, 1, 2), impl.ErrPolicy},
		{"a next tells nothing", said(next(2, 1)), issue(3, 1, 2), impl.ErrNone},
		{"a next of another place", said(next(2, 1), take(2, 2)), issue(3, 1, 4), impl.OK},
		{"a next of that place", said(next(2, 1), take(2, 2)), issue(3, 1, 2), impl.ErrPolicy},
		{"a next behind the take", said(take(2, 2), next(2, 1)), issue(3, 1, 4), impl.OK},
		{"two epochs on", said(take(2, 1)), issue(4, 1, 8), impl.ErrNone},
		{"two epochs on behind a next", said(take(2, 1), next(3, 3)), issue(4, 1, 8), impl.ErrNone},
		{"two epochs on by two takes", said(take(2, 1), take(3, 3)), issue(4, 1, 8), impl.OK},
		{"two epochs on elsewhere", said(take(2, 1), take(3, 6)), issue(4, 1, 64), impl.OK},
		{"two epochs on at the place that was not taken", said(take(2, 1), take(3, 6)), issue(4, 1, 8), impl.ErrPolicy},
		{"three epochs on", stepsTo(5), issue(5, 1, 32), impl.OK},
		{"four epochs on", stepsTo(5), issue(6, 1, 32), impl.ErrNone},
		{"three epochs on, with much between", said(issue(2, 1, 1), take(2, 1), revoke(2, 1, 1), issue(3, 1, 2), next(3, 6), take(3, 3), issue(4, 1, 8), take(4, 5)), issue(5, 1, 32), impl.OK},
		{"a revoke of the first epoch", nil, revoke(2, 1, 1), impl.OK},
		{"a revoke of an epoch below", nil, revoke(1, 1, 1), impl.ErrNone},
		{"a revoke of an epoch to come", said(next(2, 1)), revoke(3, 1, 1), impl.ErrNone},
		{"a revoke behind a take", said(take(2, 1)), revoke(3, 1, 1), impl.OK},
		{"a revoke of an epoch that is over", said(next(2, 1), take(2, 1), next(3, 3)), revoke(2, 1, 1), impl.OK},
		{"a revoke of what is not allowed", nil, revoke(2, 4, 255), impl.OK},
		{"a revoke of another form of a class", said(issue(2, 2, 1)), revoke(2, 3, 1), impl.OK},
		{"a revoke behind its issue", said(issue(2, 2, 1)), revoke(2, 2, 1), impl.OK},
		{"a revoke behind a next", said(next(2, 2)), revoke(2, 2, 1), impl.OK},
		{"an issue said again", said(issue(2, 2, 1)), issue(2, 2, 1), impl.OK},
		{"an issue said again behind a next", said(issue(2, 2, 1), next(2, 1)), issue(2, 2, 1), impl.OK},
		{"an issue said again behind a take", said(issue(2, 2, 1), take(2, 1), take(3, 3)), issue(2, 2, 1), impl.OK},
		{"an issue said again behind its revoke", said(issue(2, 2, 1), revoke(2, 2, 1)), issue(2, 2, 1), impl.OK},
		{"a revoke said again", said(revoke(2, 2, 1), next(2, 1)), revoke(2, 2, 1), impl.OK},
		{"a next said again", said(next(2, 1), take(2, 2)), next(2, 1), impl.OK},
		{"a take said again", said(take(2, 1), take(3, 3)), take(2, 1), impl.OK},
	}
}

func allCases() []saidCase {
	return slices.Concat(issueCases(), stepCases(), knowCases())
}

func TestEndorseByHand(t *testing.T) { // P9
	for _, c := range allCases() {
		t.Run(c.name, func(t *testing.T) {
			r := replicaOf(t, house(), c.said...)
			checkFault(t, c.name, r, house(), impl.OK)
			checkEndorse(t, c.name, r, tellerOf(house(), c.said...), c.x, c.want)
		})
	}
}

func TestStatementsWithAFaultAreNotEndorsed(t *testing.T) {
	lists := [][]impl.Statement{nil, {issue(2, 2, 1)}, {next(2, 1), take(2, 1)}, revokes(40)}
	for _, list := range lists {
		m := tellerOf(house(), list...)
		for _, c := range wrongStatements() {
			checkEndorse(t, c.name, m.replica(2, 0), m, c.x, c.want)
		}
		more := []saidCase{ // of epochs that are not known too, which is asked behind
			{x: impl.Statement{Kind: impl.SayIssue, Epoch: 7, Form: 1, Set: 1, Next: 1}, want: impl.ErrForm},
			{x: impl.Statement{Kind: impl.SayTake, Epoch: 7, Form: 1, Next: 1}, want: impl.ErrForm},
			{x: issue(7, 5, 1), want: impl.ErrRange}, {x: revoke(7, 1, 0), want: impl.ErrRange}, {x: take(7, 8), want: impl.ErrRange}, {x: next(2, 8), want: impl.ErrRange},
		}
		for _, c := range more {
			checkEndorse(t, "a fault", m.replica(2, 0), m, c.x, c.want)
		}
	}
}

func TestWhoSaid40EndorsesNothingNew(t *testing.T) {
	fill := append(said(issue(2, 2, 1), next(2, 1), take(2, 1), issue(3, 2, 2)), revokes(36)...)
	m := tellerOf(house(), fill...)
	r := m.replica(3, 0)
	checkFault(t, "40", r, house(), impl.OK)
	for _, x := range fill {
		checkEndorse(t, "said already", r, m, x, impl.OK)
	}
	cases := []saidCase{
		{"a revoke", nil, revoke(2, 1, 1), impl.ErrMany},
		{"an issue", nil, issue(3, 2, 1), impl.ErrMany},
		{"an issue of what is over", nil, issue(2, 2, 2), impl.ErrMany},
		{"an issue of what was revoked", nil, issue(2, 4, 1), impl.ErrMany},
		{"an issue that is not allowed", nil, issue(3, 4, 1), impl.ErrMany},
		{"an issue that is locked", nil, issue(3, 3, 2), impl.ErrMany},
		{"a next that is taken", nil, next(2, 2), impl.ErrMany},
		{"a take that is taken", nil, take(2, 2), impl.ErrMany},
		{"a next", nil, next(3, 3), impl.ErrMany},
		{"a next that is no place", nil, next(3, 7), impl.ErrMany},
		{"a take of a wrong place", nil, take(3, 0), impl.ErrMany},
		{"an issue of an epoch that is not known", nil, issue(4, 1, 8), impl.ErrNone},
		{"a revoke of an epoch that is not known", nil, revoke(1, 1, 1), impl.ErrNone},
		{"a next of an epoch that is not known", nil, next(4, 5), impl.ErrNone},
		{"a take with a fault", nil, take(4, 8), impl.ErrRange},
	}
	for _, c := range cases {
		checkEndorse(t, c.name, r, m, c.x, c.want)
	}
	fewer := tellerOf(house(), fill[:39]...)
	checkEndorse(t, "the last one", fewer.replica(3, 0), fewer, revoke(2, 1, 1), impl.OK)
	checkEndorse(t, "the last one", fewer.replica(3, 0), fewer, next(3, 3), impl.OK)
}

// upTo says in each epoch below the epoch that all have form 1, 32 locks in each, and goes on.
func upTo(epoch int64) []impl.Statement {
	var list []impl.Statement
	for e := int64(1); e < epoch; e++ {
		list = append(list, issue(e, 1, 255), take(e, e))
	}
	return list
}

func TestLocksOfAReplicaUpTo200(t *testing.T) {
	m := tellerOf(tower(), append(upTo(7), issue(7, 1, 3))...)
	r := m.replica(7, 0)
	if len(r.Locks) != 200 || len(r.Said) != 13 {
		t.Fatalf("%d locks by %d statements", len(r.Locks), len(r.Said))
	}
	checkFault(t, "200 locks", r, tower(), impl.OK)
	cases := []saidCase{
		{"one more", nil, issue(7, 1, 4), impl.ErrMany},
		{"all", nil, issue(7, 1, 255), impl.ErrMany},
		{"all in the epoch behind", nil, issue(8, 1, 1), impl.ErrNone},
		{"no more", nil, issue(7, 1, 2), impl.OK},
		{"another form", nil, issue(7, 2, 1), impl.ErrTaken},
		{"another form and one more", nil, issue(7, 2, 6), impl.ErrTaken},
		{"another form for one more", nil, issue(7, 2, 4), impl.ErrMany},
		{"a form that is not there", nil, issue(7, 3, 4), impl.ErrPolicy},
		{"a revoke", nil, revoke(7, 1, 4), impl.OK},
		{"a step", nil, take(7, 7), impl.OK},
	}
	for _, c := range cases {
		checkEndorse(t, c.name, r, m, c.x, c.want)
	}
	over := r
	over.Said = append(slices.Clone(r.Said), issue(7, 1, 4))
	checkFault(t, "too many locks", over, tower(), impl.ErrState)
	over.Locks = wantTaken(everyPlace(1)[:196], nil).Locks
	checkFault(t, "too many locks, other ones", over, tower(), impl.ErrState)
}

// someReplicas have said little and much, in several epochs, by what the teller lets them say.
func someReplicas() []impl.Replica {
	lists := [][]impl.Statement{
		nil, {issue(2, 1, 1)}, {issue(2, 2, 1)}, {issue(2, 2, 1), issue(2, 3, 6)}, {next(2, 1)}, {take(2, 2)},
		{issue(2, 3, 3), revoke(2, 3, 3), next(2, 1), take(2, 2), issue(3, 1, 4), issue(3, 2, 4), issue(3, 3, 3)},
		append(stepsTo(5), issue(5, 1, 32), revoke(2, 1, 1), next(2, 1)),
		append(said(issue(2, 2, 1), take(2, 1), issue(3, 1, 2), issue(3, 3, 5)), revokes(36)...),
	}
	var all []impl.Replica
	for i, list := range lists {
		m := tellerOf(house(), list...)
		all = append(all, m.replica(int64(i%4)+1, int64(len(m.said)/2)))
	}
	d := dice(83)
	for i := range 6 {
		m := newTeller(house())
		for range 40 {
			m.say(d.talk())
		}
		all = append(all, m.replica(int64(i%4)+1, d.below(int64(len(m.said))+1)))
	}
	return all
}

// talk is a statement that one in the house may say, now and then: few of them have a fault.
func (d *dice) talk() impl.Statement {
	epoch := d.below(4) + 2
	switch d.below(12) {
	case 0:
		return next(epoch, d.below(8))
	case 1, 2:
		return take(epoch, d.below(8))
	case 3, 4:
		return revoke(epoch, d.below(4)+1, d.below(7)+1)
	case 5:
		return issue(epoch, d.below(5)+1, d.below(256))
	case 6, 7:
		return issue(epoch, 1, 1<<d.below(8))
	case 8:
		return issue(epoch, 2, 1<<d.below(3))
	}
	return issue(epoch, d.below(2)+2, d.below(7)+1)
}

func TestSomeReplicasHaveNoFault(t *testing.T) {
	for _, r := range someReplicas() {
		checkFault(t, "some", r, house(), impl.OK)
	}
}

func TestSaidThatCouldNotBeEndorsed(t *testing.T) {
	for _, c := range allCases() {
		if c.want == impl.OK {
			continue
		}
		r := replicaOf(t, house(), c.said...)
		r.Said = append(r.Said, c.x)
		checkFault(t, c.name, r, house(), impl.ErrState)
		r.Said = append(r.Said, revoke(2, 1, 64)) // one that can be said behind does not mend it
		checkFault(t, c.name, r, house(), impl.ErrState)
	}
	for _, c := range wrongStatements() {
		for _, list := range [][]impl.Statement{{c.x}, {c.x, revoke(2, 1, 1)}, {revoke(2, 1, 1), c.x}} {
			checkFault(t, c.name, impl.Replica{Id: 1, Said: list}, house(), impl.ErrState)
		}
	}
}

func TestSaidInAnotherOrder(t *testing.T) {
	cases := [][]impl.Statement{
		{next(2, 1), issue(2, 1, 1)}, {take(2, 1), issue(2, 1, 1)}, {revoke(2, 1, 1), issue(2, 1, 1)},
		{issue(3, 1, 2), take(2, 1)}, {take(3, 3), take(2, 1)}, {revoke(3, 1, 1), take(2, 1)}, {next(3, 3), take(2, 1)},
	}
	for _, list := range cases {
		checkFault(t, "turned", impl.Replica{Id: 1, Said: list}, house(), impl.ErrState)
		turned := slices.Clone(list)
		slices.Reverse(turned)
		checkFault(t, "in order", replicaOf(t, house(), turned...), house(), impl.OK)
	}
}

func TestSaidTwice(t *testing.T) {
	for _, r := range someReplicas() {
		for place := range r.Said {
			for behind := place + 1; behind <= len(r.Said); behind += 3 {
				twice := r
				twice.Said = slices.Insert(slices.Clone(r.Said), behind, r.Said[place])
				want := int64(impl.ErrState)
				if len(twice.Said) > 40 {
					want = impl.ErrMany
				}
				checkFault(t, "twice", twice, house(), want)
			}
		}
	}
	checkFault(t, "a revoke twice", impl.Replica{Id: 1, Said: said(revoke(2, 1, 1), revoke(2, 1, 1))}, house(), impl.ErrState)
}

func TestLocksThatSaidDoesNotTake(t *testing.T) {
	for _, r := range someReplicas() {
		lists := resized(r.Locks, lock(9, 3, 8, 4))
		for place := range r.Locks {
			for _, by := range []int64{1, -1, 1 << 32} {
				for field := range 4 {
					turned := slices.Clone(r.Locks)
					l := &turned[place]
					*[]*int64{&l.Epoch, &l.Class, &l.Principal, &l.Form}[field] += by
					lists = append(lists, turned)
				}
			}
		}
		lists = append(lists, everyPlace(1), append(slices.Clone(r.Locks), lock(0, 0, 0, 0)), make([]impl.Lock, 100000))
		for _, locks := range lists {
			other := r
			other.Locks = locks
			want := int64(impl.ErrState)
			if slices.Equal(locks, r.Locks) {
				want = impl.OK
			}
			if got := impl.ReplicaFault(other, house()); got != want {
				t.Errorf("locks %.300s, where %+v are said: %d, want %d", fmt.Sprint(locks), r.Said, got, want)
			}
		}
	}
	r := replicaOf(t, house(), issue(2, 2, 1))
	r.Locks = nil
	checkFault(t, "no locks", r, house(), impl.ErrState)
	checkFault(t, "locks of nothing", impl.Replica{Id: 1, Locks: []impl.Lock{lock(2, 0, 1, 2)}}, house(), impl.ErrState)
}

func TestReplicasOneNumberAway(t *testing.T) {
	for _, r := range someReplicas() {
		for place := range r.Said {
			for field := range 5 {
				for _, by := range []int64{1, -1, 2, 1 << 40} {
					turned := r
					turned.Said = slices.Clone(r.Said)
					*numbersOfStatement(&turned.Said[place])[field] += by
					if got, want := impl.ReplicaFault(turned, house()), wantFault(turned, house()); got != want {
						t.Fatalf("ReplicaFault(%+v) = %d, want %d", turned, got, want)
					}
				}
			}
		}
		for _, list := range resized(r.Said, revoke(2, 2, 77)) {
			turned := r
			turned.Said = list
			if got, want := impl.ReplicaFault(turned, house()), wantFault(turned, house()); got != want {
				t.Fatalf("ReplicaFault(%+v) = %d, want %d", turned, got, want)
			}
		}
	}
}

func TestReplicasOfOtherConfigs(t *testing.T) { // what was said by some configs may not be said by others
	all := []impl.Config{storey(0, 2, 15), storey(1, 3), storey(7, 2, 6), storey(6, 4)}
	for _, r := range someReplicas() {
		for place := range house() {
			for _, other := range all {
				configs := house()
				configs[place] = other
				if got, want := impl.ReplicaFault(r, configs), wantFault(r, configs); got != want {
					t.Fatalf("%+v with another one at %d: %d, want %d", r, place, got, want)
				}
			}
			if place > 0 {
				configs := house()[:place]
				if got, want := impl.ReplicaFault(r, configs), wantFault(r, configs); got != want {
					t.Fatalf("%+v with %d configs: %d, want %d", r, place, got, want)
				}
			}
		}
	}
}

func TestFirstConfigByItsPlaceAlone(t *testing.T) {
	for first := range int64(7) {
		configs := append(house()[first:], house()[:first]...)
		m := newTeller(configs)
		epoch := configs[0].Epoch
		for e := int64(1); e <= 9; e++ {
			for p := range int64(8) {
				want := int64(impl.ErrPolicy)
				if e != epoch {
					want = impl.ErrNone
				} else if p == first {
					want = impl.OK
				}
				checkEndorse(t, fmt.Sprint("place ", first, " is the first one"), m.replica(1, 0), m, issue(e, 1, 1<<p), want)
			}
		}
	}
}

func TestStepsOfTheTower(t *testing.T) { // each epoch is known behind the take of the one ahead, none other
	m := newTeller(tower())
	r := impl.NewReplica(7).Replica
	for epoch := int64(1); epoch <= 8; epoch++ {
		for e := int64(1); e <= 9; e++ {
			want := int64(impl.OK)
			if e > epoch {
				want = impl.ErrNone
			} else if e < epoch {
				want = impl.ErrOld
			}
			checkEndorse(t, "an issue", r, m, issue(e, 1, 3), want)
			if e > epoch {
				checkEndorse(t, "a revoke", r, m, revoke(e, 1, 3), impl.ErrNone)
				checkEndorse(t, "a next", r, m, next(e, 0), impl.ErrNone)
			} else {
				checkEndorse(t, "a revoke", r, m, revoke(e, 1, 3), impl.OK)
			}
		}
		if epoch == 8 {
			checkEndorse(t, "no epoch 9", r, m, take(8, 0), impl.ErrState)
			break
		}
		checkEndorse(t, "a step", r, m, take(epoch, epoch), impl.OK)
		r = impl.Endorse(r, tower(), take(epoch, epoch)).Replica
		m.say(take(epoch, epoch))
	}
	last := []impl.Config{storey(0, 9)}
	checkEndorse(t, "behind epoch 9 there is none", impl.Replica{Id: 1}, newTeller(last), take(9, 0), impl.ErrState)
	checkEndorse(t, "behind epoch 9 there is none", impl.Replica{Id: 1}, newTeller(last), next(9, 1), impl.ErrRange)
}

// life is a replica that talks, syncs and crashes, beside what is worked out of it.
type life struct {
	m    *teller
	r    impl.Replica
	sure int64
}

func (l *life) talk(t *testing.T, x impl.Statement) int64 {
	want := l.m.code(x)
	checkEndorse(t, "a life", l.r, l.m, x, want)
	if want != impl.OK {
		return want
	}
	before, got := l.r, impl.Endorse(l.r, l.m.configs, x).Replica
	if !slices.Contains(before.Said, x) && (len(got.Said) != len(before.Said)+1 || got.Said[len(before.Said)] != x) {
		t.Fatalf("%+v was endorsed behind %+v, and %+v are said", x, before.Said, got.Said)
	}
	if !slices.Equal(got.Said[:len(before.Said)], before.Said) {
		t.Fatalf("%+v were said, and behind %+v these are: %+v", before.Said, x, got.Said)
	}
	for _, there := range before.Locks {
		if !slices.Contains(got.Locks, there) {
			t.Fatalf("%+v was locked, and behind %+v it is not", there, x)
		}
	}
	l.m.say(x)
	l.r = got
	return want
}

func (l *life) sync(t *testing.T) {
	l.sure = int64(len(l.m.said))
	got := impl.SyncReplica(l.r, l.m.configs)
	if !sameReplicas(got, impl.ReplicaResult{Replica: l.m.replica(l.r.Id, l.sure)}) {
		t.Fatalf("SyncReplica(%+v) = %+v", l.r, got)
	}
	l.r = got.Replica
}

func (l *life) crash(t *testing.T, kept int64) {
	left := l.sure + kept
	m := tellerOf(l.m.configs, l.m.said[:left]...)
	got := impl.CrashReplica(l.r, l.m.configs, kept)
	if !sameReplicas(got, impl.ReplicaResult{Replica: m.replica(l.r.Id, left)}) {
		t.Fatalf("CrashReplica(%+v, %d) = %+v, want %+v", l.r, kept, got, m.replica(l.r.Id, left))
	}
	checkFault(t, "behind a crash", got.Replica, l.m.configs, impl.OK)
	l.m, l.r, l.sure = m, got.Replica, left
}

func TestLivesOfReplicas(t *testing.T) { // P9
	codes := map[int64]int{}
	for seed := range int64(40) {
		d := dice(seed + 900)
		l := &life{m: newTeller(house()), r: impl.NewReplica(seed%4 + 1).Replica}
		for range 110 {
			switch d.below(16) {
			case 0:
				l.sync(t)
			case 1:
				l.crash(t, d.below(int64(len(l.m.said))-l.sure+1))
			default:
				codes[l.talk(t, d.talk())]++
			}
		}
		checkFault(t, "a life", l.r, house(), impl.OK)
	}
	for _, code := range []int64{impl.OK, impl.ErrRange, impl.ErrNone, impl.ErrTaken, impl.ErrPolicy, impl.ErrOld, impl.ErrState} {
		if codes[code] < 15 {
			t.Errorf("code %d came %d times only", code, codes[code])
		}
	}
}

func TestWhatWasSaidIsSaidBehindAllElse(t *testing.T) { // P9
	for _, r := range someReplicas() {
		for e := int64(1); e <= 9; e++ {
			for _, x := range said(issue(e, 1, 1), issue(e, 1, 4), issue(e, 1, 32), issue(e, 2, 2), revoke(e, 3, 5), next(e, 1), take(e, 3)) {
				got := impl.Endorse(r, house(), x)
				if got.Code != impl.MayEndorse(r, house(), x) {
					t.Fatalf("Endorse tells %d, MayEndorse %d", got.Code, impl.MayEndorse(r, house(), x))
				}
				if got.Code != impl.OK {
					continue
				}
				want := r.Said
				if !slices.Contains(r.Said, x) {
					want = append(slices.Clone(r.Said), x)
				}
				if !slices.Equal(got.Replica.Said, want) || got.Replica.Sure != r.Sure || got.Replica.Id != r.Id {
					t.Fatalf("Endorse(%+v, %+v) = %+v", r, x, got)
				}
				if code := impl.ReplicaFault(got.Replica, house()); code != impl.OK {
					t.Fatalf("%+v has fault %d", got.Replica, code)
				}
			}
		}
	}
}

func TestWhoSaidWhatComesBehindIssuesNothingMore(t *testing.T) { // P9
	lists := [][]impl.Statement{{next(2, 1)}, {take(2, 1)}, {issue(2, 2, 1), next(2, 2)}, {take(2, 2), next(3, 3)}, stepsTo(5), append(stepsTo(5), next(2, 1))}
	for _, list := range lists {
		r := replicaOf(t, house(), list...)
		for epoch := int64(2); epoch <= 5; epoch++ {
			if !impl.SealedIn(r, epoch) {
				continue
			}
			for form := int64(1); form <= 4; form++ {
				for set := int64(1); set < allSets; set++ {
					x := issue(epoch, form, set)
					want := int64(impl.ErrOld)
					if slices.Contains(list, x) {
						want = impl.OK
					}
					if got := impl.MayEndorse(r, house(), x); got != want {
						t.Fatalf("%+v behind %+v: %d, want %d", x, list, got, want)
					}
				}
			}
		}
	}
}

func TestACrashTakesASealAwayThatWasNotSure(t *testing.T) { // P9
	r := replicaOf(t, house(), issue(2, 2, 1), next(2, 1))
	lost := impl.CrashReplica(r, house(), 1).Replica
	if impl.SealedIn(lost, 2) || impl.MayEndorse(lost, house(), issue(2, 1, 1)) != impl.OK {
		t.Errorf("%+v is sealed by what was lost", lost)
	}
	whole := impl.CrashReplica(r, house(), 2).Replica
	sure := impl.CrashReplica(impl.SyncReplica(r, house()).Replica, house(), 0).Replica
	for _, left := range []impl.Replica{whole, sure} {
		if !impl.SealedIn(left, 2) || impl.MayEndorse(left, house(), issue(2, 1, 1)) != impl.ErrOld {
			t.Errorf("%+v is not sealed", left)
		}
	}
}

func TestExampleOfACrash(t *testing.T) { // what was said is gone ahead of the sync, and is there behind it
	r := replicaOf(t, house(), issue(2, 2, 1))
	if got := impl.CrashReplica(r, house(), 0); !sameReplicas(got, impl.ReplicaResult{Replica: impl.Replica{Id: 1}}) {
		t.Errorf("%+v", got)
	}
	synced := impl.SyncReplica(r, house()).Replica
	want := impl.ReplicaResult{Replica: impl.Replica{Id: 1, Sure: 1, Said: said(issue(2, 2, 1)), Locks: []impl.Lock{lock(2, 0, 1, 2)}}}
	if got := impl.CrashReplica(synced, house(), 0); !sameReplicas(got, want) {
		t.Errorf("%+v", got)
	}
}

func TestSyncMakesAllSure(t *testing.T) {
	for _, r := range someReplicas() {
		want := r
		want.Sure = int64(len(r.Said))
		for sure := range int64(len(r.Said)) + 1 {
			r.Sure = sure
			if got := impl.SyncReplica(r, house()); !sameReplicas(got, impl.ReplicaResult{Replica: want}) {
				t.Fatalf("SyncReplica(%+v) = %+v", r, got)
			}
		}
	}
}

func TestCrashLeavesABeginning(t *testing.T) { // P9
	for _, r := range someReplicas() {
		count := int64(len(r.Said))
		for sure := range count + 1 {
			r.Sure = sure
			for kept := int64(-2); kept <= count+2; kept++ {
				got := impl.CrashReplica(r, house(), kept)
				if kept < 0 || kept > count-sure {
					if !isCode(got, impl.ErrRange) {
						t.Fatalf("CrashReplica of %d, %d of them sure, by %d = %+v", count, sure, kept, got)
					}
					continue
				}
				want := tellerOf(house(), r.Said[:sure+kept]...).replica(r.Id, sure+kept)
				if !sameReplicas(got, impl.ReplicaResult{Replica: want}) || impl.ReplicaFault(got.Replica, house()) != impl.OK {
					t.Fatalf("CrashReplica of %d, %d of them sure, by %d = %+v, want %+v", count, sure, kept, got, want)
				}
			}
			for _, kept := range []int64{math.MinInt64, math.MinInt64 + 1, -sure - 1, 1 << 32, math.MaxInt64 - count, math.MaxInt64 - sure, math.MaxInt64 - sure + 1, math.MaxInt64} {
				if got := impl.CrashReplica(r, house(), kept); !isCode(got, impl.ErrRange) {
					t.Fatalf("CrashReplica of %d, %d of them sure, by %d = %+v", count, sure, kept, got)
				}
			}
		}
	}
}

func TestSealedIn(t *testing.T) {
	cases := []struct {
		said  []impl.Statement
		epoch int64
		want  bool
	}{
		{nil, 2, false}, {nil, 0, false},
		{said(next(2, 1)), 2, true}, {said(take(2, 1)), 2, true}, {said(next(2, 1), take(2, 2)), 2, true},
		{said(next(2, 1)), 1, false}, {said(next(2, 1)), 3, false}, {said(take(2, 1)), 3, false}, {said(take(2, 3)), 3, false},
		{said(issue(2, 1, 1)), 2, false}, {said(revoke(2, 1, 1)), 2, false}, {said(issue(2, 2, 2), revoke(2, 3, 3)), 2, false},
		{said(issue(2, 1, 1), revoke(2, 1, 1), next(2, 1)), 2, true}, {said(take(2, 2), issue(3, 1, 4), next(3, 3)), 3, true},
		{said(take(2, 2), issue(3, 1, 4)), 3, false}, {said(take(2, 2), take(3, 3), take(4, 5)), 4, true}, {said(take(2, 2), take(3, 3), take(4, 5)), 5, false},
		// no fault is asked
		{said(next(9, 9)), 9, true}, {said(next(0, 0)), 0, true}, {said(take(-5, 1)), -5, true}, {said(take(math.MaxInt64, 1)), math.MaxInt64, true},
		{said(next(math.MinInt64, 1)), math.MinInt64, true}, {said(next(math.MinInt64, 1)), 0, false}, {said(next(2, 1), next(2, 1)), 2, true},
		{said(impl.Statement{Kind: impl.SayNext, Epoch: 2, Form: 1, Set: 1}), 2, true}, {said(impl.Statement{Kind: impl.SayTake, Epoch: 2, Next: -1}), 2, true},
		{said(impl.Statement{Kind: 5, Epoch: 2}), 2, false}, {said(impl.Statement{Epoch: 2, Next: 1}), 2, false}, {said(impl.Statement{}), 0, false},
		{append(revokes(200), next(2, 1)), 2, true}, {revokes(200), 2, false},
	}
	for _, c := range cases {
		for _, r := range []impl.Replica{{Id: 1, Said: c.said}, {Said: c.said}, {Id: -1, Sure: 99, Said: c.said, Locks: everyPlace(9)}} {
			if got := impl.SealedIn(r, c.epoch); got != c.want {
				t.Errorf("SealedIn(%+v, %d) = %v", r, c.epoch, got)
			}
		}
	}
	for _, r := range someReplicas() {
		m := tellerOf(house(), r.Said...)
		for epoch := int64(-1); epoch <= 11; epoch++ {
			if got := impl.SealedIn(r, epoch); got != m.over[epoch] {
				t.Errorf("SealedIn(%+v, %d) = %v", r, epoch, got)
			}
		}
	}
}

type replicaCase struct {
	r       impl.Replica
	configs []impl.Config
	x       impl.Statement
	kept    int64
}

// replicasToKeep has no fault in most of them, and each code in some.
func replicasToKeep() []replicaCase {
	var all []replicaCase
	for i, r := range someReplicas() {
		for _, x := range said(issue(2, 2, 4), issue(2, 1, 128), issue(3, 3, 2), revoke(2, 1, 64), next(2, 2), take(2, 2), take(3, 6), next(9, 9), impl.Statement{}) {
			all = append(all, replicaCase{r, house(), x, int64(i % 3)})
		}
		wrong := house()
		wrong[3].Epoch = 0
		other := r
		other.Said = append(slices.Clone(r.Said), issue(9, 1, 1))
		locked := r
		locked.Locks = everyPlace(2)
		far := r
		far.Sure = 41
		for _, c := range []replicaCase{{r, wrong, issue(2, 2, 4), 0}, {r, nil, issue(2, 2, 4), 0}, {other, house(), issue(2, 2, 4), 0}, {locked, house(), next(2, 1), 1}, {far, house(), next(2, 1), 0}} {
			all = append(all, c)
		}
	}
	return append(all, replicaCase{impl.Replica{Id: 1, Said: revokes(41)}, house(), take(2, 1), 0}, replicaCase{})
}

func copyReplica(r impl.Replica) impl.Replica {
	behind := r
	behind.Said = append(slices.Clone(r.Said), impl.Statement{Kind: 77})[:len(r.Said)]
	behind.Locks = append(slices.Clone(r.Locks), impl.Lock{Form: 77})[:len(r.Locks)]
	return behind
}

// wholeReplica and wholeConfigs tell all that is in the memory of the lists, also behind their ends.
func wholeReplica(r impl.Replica) string {
	return fmt.Sprint(r.Id, r.Sure, len(r.Said), r.Said[:cap(r.Said)], len(r.Locks), r.Locks[:cap(r.Locks)])
}

func wholeConfigs(configs []impl.Config) string {
	text := fmt.Sprint(len(configs))
	for _, c := range configs[:cap(configs)] {
		text += wholeConfig(c)
	}
	return text
}

func (c replicaCase) results() []impl.ReplicaResult {
	return []impl.ReplicaResult{impl.NewReplica(c.r.Id), impl.Endorse(c.r, c.configs, c.x), impl.SyncReplica(c.r, c.configs), impl.CrashReplica(c.r, c.configs, c.kept)}
}

func (c replicaCase) answers() []any {
	all := []any{impl.ReplicaFault(c.r, c.configs), impl.MayEndorse(c.r, c.configs, c.x), impl.SealedIn(c.r, c.x.Epoch)}
	for _, result := range c.results() {
		all = append(all, fmt.Sprint(result))
	}
	return all
}

func (c replicaCase) copied() replicaCase {
	return replicaCase{copyReplica(c.r), copyConfigs(c.configs), c.x, c.kept}
}

func (c replicaCase) spoil() {
	for _, config := range c.configs {
		spoil(config.Rules, impl.Rule{Kind: -7})
		spoil(config.Forms, impl.Form{})
		spoil(config.Classes, -7)
	}
	spoil(c.configs, impl.Config{})
	spoil(c.r.Said, impl.Statement{Kind: -7})
	spoil(c.r.Locks, impl.Lock{Form: -7})
}

func TestReplicasHandedInAreUnchanged(t *testing.T) { // P1
	for _, c := range replicasToKeep() {
		given := c.copied()
		replica, configs := wholeReplica(given.r), wholeConfigs(given.configs)
		given.answers()
		if wholeReplica(given.r) != replica || wholeConfigs(given.configs) != configs || given.x != c.x {
			t.Errorf("%s was changed to %s, or its configs", replica, wholeReplica(given.r))
		}
	}
}

func TestSameReplicasSameAnswers(t *testing.T) { // P1: nothing is kept, also behind what was not endorsed
	var first [][]any
	for _, c := range replicasToKeep() {
		first = append(first, c.answers())
	}
	for i, c := range slices.Backward(replicasToKeep()) {
		if again := c.copied().answers(); !reflect.DeepEqual(first[i], again) {
			t.Errorf("%+v: first %v, then %v", c.r, first[i], again)
		}
	}
}

func TestReplicasShareNoMemory(t *testing.T) { // P1
	for _, c := range replicasToKeep() {
		want := fmt.Sprint(c.results())
		given := c.copied()
		one, two := given.results(), given.results()
		for _, result := range one {
			spoil(result.Replica.Said, impl.Statement{Kind: -8})
			spoil(result.Replica.Locks, impl.Lock{Form: -8})
		}
		if fmt.Sprint(two) != want || fmt.Sprint(given.results()) != want {
			t.Fatalf("two answers of %+v share memory, or an answer and what was handed in", c.r)
		}
		given.spoil()
		if fmt.Sprint(two) != want {
			t.Fatalf("what was answered for %+v changes with what was handed in", c.r)
		}
	}
}

func TestSaidNothingAndNilAreTheSame(t *testing.T) { // P1
	none := impl.Replica{Id: 2}
	empty := impl.Replica{Id: 2, Said: []impl.Statement{}, Locks: []impl.Lock{}}
	for _, x := range said(issue(2, 2, 1), revoke(2, 1, 1), next(2, 1), issue(3, 1, 1), impl.Statement{}) {
		for _, configs := range [][]impl.Config{house(), nil, {}} {
			one, two := replicaCase{none, configs, x, 0}, replicaCase{empty, configs, x, 0}
			if a, b := one.answers(), two.answers(); !reflect.DeepEqual(a, b) {
				t.Errorf("%+v: %v and %v", x, a, b)
			}
		}
	}
	for _, r := range someReplicas() {
		if len(r.Locks) == 0 {
			r.Locks = []impl.Lock{}
			checkFault(t, "empty locks", r, house(), impl.OK)
		}
	}
}
