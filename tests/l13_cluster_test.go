package tests

import (
	"fmt"
	"math"
	"slices"
	"testing"

	"loop.example/g00338/impl"
)

// world is a cluster as the tests work it out: of each replica a teller, and how many of what it said last.
type world struct {
	configs []impl.Config
	bad     []int64
	ids     []int64
	tellers []*teller
	sure    []int64
	shares  []impl.Share
}

func goodOf(f int64, bad ...int64) []int64 {
	return slices.DeleteFunc(listOfSet(1<<(3*f+1)-1), func(id int64) bool { return slices.Contains(bad, id) })
}

func newWorld(configs []impl.Config, bad ...int64) *world {
	w := &world{configs: configs, bad: bad, ids: goodOf(configs[0].F, bad...)}
	for range w.ids {
		w.tellers = append(w.tellers, newTeller(configs))
	}
	w.sure = make([]int64, len(w.ids))
	return w
}

// worldOf is asked of clusters without a fault.
func worldOf(c impl.Cluster) *world {
	w := &world{configs: c.Configs, bad: c.Bad, shares: slices.Clone(c.Shares)}
	for _, r := range c.Replicas {
		w.ids = append(w.ids, r.Id)
		w.tellers = append(w.tellers, tellerOf(c.Configs, r.Said...))
		w.sure = append(w.sure, r.Sure)
	}
	return w
}

func (w *world) cluster() impl.Cluster {
	c := impl.Cluster{Configs: copyConfigs(w.configs), Bad: slices.Clone(w.bad), Shares: slices.Clone(w.shares)}
	for at, id := range w.ids {
		c.Replicas = append(c.Replicas, w.tellers[at].replica(id, w.sure[at]))
	}
	return c
}

func (w *world) isSigned(x impl.Statement) bool {
	return int64(len(wantSigners(w.shares, x))) > 2*w.configs[0].F
}

func (w *world) ask(id int64, x impl.Statement) int64 {
	at := slices.Index(w.ids, id)
	switch fault := wantStatementFault(x); {
	case at < 0:
		return impl.ErrNone
	case fault != impl.OK:
		return fault
	case x.Kind == impl.SayTake && !w.isSigned(next(x.Epoch, x.Next)):
		return impl.ErrSign
	}
	return w.tellers[at].say(x)
}

func (w *world) sync(id int64) int64 {
	at := slices.Index(w.ids, id)
	if at < 0 {
		return impl.ErrNone
	}
	shares := slices.Clone(w.shares)
	for _, x := range w.tellers[at].said {
		if x.Kind < impl.SayTake && !slices.Contains(w.shares, share(id, x)) {
			shares = append(shares, share(id, x))
		}
	}
	if len(shares) > 120 {
		return impl.ErrMany
	}
	w.shares, w.sure[at] = shares, int64(len(w.tellers[at].said))
	return impl.OK
}

func (w *world) crash(id int64, kept int64) int64 {
	at := slices.Index(w.ids, id)
	if at < 0 {
		return impl.ErrNone
	}
	list := w.tellers[at].said
	if kept < 0 || kept > int64(len(list))-w.sure[at] {
		return impl.ErrRange
	}
	w.sure[at] += kept
	w.tellers[at] = tellerOf(w.configs, list[:w.sure[at]]...)
	return impl.OK
}

func (w *world) forge(s impl.Share) int64 {
	fault := wantStatementFault(s.Statement)
	switch {
	case s.Replica < 1 || s.Replica > 3*w.configs[0].F+1:
		return impl.ErrRange
	case fault != impl.OK:
		return fault
	case s.Statement.Kind == impl.SayTake:
		return impl.ErrForm
	case slices.Contains(w.ids, s.Replica):
		return impl.ErrSign
	case slices.Contains(w.shares, s):
		return impl.OK
	case len(w.shares) >= 120:
		return impl.ErrMany
	}
	w.shares = append(slices.Clone(w.shares), s)
	return impl.OK
}

// askAll lets a replica that has a code in the one or the other be as it was.
func (w *world) askAll(x impl.Statement) int64 {
	if fault := wantStatementFault(x); fault != impl.OK {
		return fault
	}
	for at, id := range w.ids {
		before := w.tellers[at].said
		if w.ask(id, x) == impl.OK && w.sync(id) != impl.OK {
			w.tellers[at] = tellerOf(w.configs, before...)
		}
	}
	return impl.OK
}

func wantBadFault(bad []int64, f int64) int64 {
	for _, id := range bad {
		if id <= 0 || id >= 3*f+2 {
			return impl.ErrRange
		}
	}
	if len(bad) > int(f) {
		return impl.ErrMany
	}
	if len(bad) == 2 && bad[0] >= bad[1] {
		return impl.ErrForm
	}
	return impl.OK
}

func wantHeadFault(configs []impl.Config, bad []int64) int64 {
	if fault := wantConfigsFault(configs); fault != impl.OK {
		return fault
	}
	return wantBadFault(bad, configs[0].F)
}

// wantClusterFault goes by a map of all shares that may be there.
func wantClusterFault(c impl.Cluster) int64 {
	if fault := wantHeadFault(c.Configs, c.Bad); fault != impl.OK {
		return fault
	}
	f := c.Configs[0].F
	var ids []int64
	for _, r := range c.Replicas {
		ids = append(ids, r.Id)
	}
	if !slices.Equal(ids, goodOf(f, c.Bad...)) {
		return impl.ErrForm
	}
	rightful := map[impl.Share]bool{}
	for _, r := range c.Replicas {
		if fault := wantFault(r, c.Configs); fault != impl.OK {
			return fault
		}
		for _, x := range r.Said[:r.Sure] {
			rightful[share(r.Id, x)] = true
		}
	}
	if fault := wantSharesFault(c.Shares, f); fault != impl.OK {
		return fault
	}
	for _, s := range c.Shares {
		if s.Statement.Kind == impl.SayTake {
			return impl.ErrForm
		}
		if !rightful[s] && !slices.Contains(c.Bad, s.Replica) {
			return impl.ErrSign
		}
	}
	for _, r := range c.Replicas {
		for _, x := range r.Said {
			if x.Kind == impl.SayTake && int64(len(wantSigners(c.Shares, next(x.Epoch, x.Next)))) <= 2*f {
				return impl.ErrSign
			}
		}
	}
	return impl.OK
}

func wantNewCluster(configs []impl.Config, bad []int64) impl.ClusterResult {
	if fault := wantHeadFault(configs, bad); fault != impl.OK {
		return impl.ClusterResult{Code: fault}
	}
	return impl.ClusterResult{Cluster: newWorld(configs, bad...).cluster()}
}

// deed is a call that a cluster goes on by, beside how the tests work it out.
type deed struct {
	name string
	call func(impl.Cluster) impl.ClusterResult
	work func(*world) int64
}

func asks(id int64, x impl.Statement) deed {
	return deed{
		fmt.Sprintf("AskCluster %d %+v", id, x),
		func(c impl.Cluster) impl.ClusterResult { return impl.AskCluster(c, id, x) },
		func(w *world) int64 { return w.ask(id, x) },
	}
}

func syncs(id int64) deed {
	return deed{
		fmt.Sprintf("SyncCluster %d", id),
		func(c impl.Cluster) impl.ClusterResult { return impl.SyncCluster(c, id) },
		func(w *world) int64 { return w.sync(id) },
	}
}

func crashes(id int64, kept int64) deed {
	return deed{
		fmt.Sprintf("CrashCluster %d %d", id, kept),
		func(c impl.Cluster) impl.ClusterResult { return impl.CrashCluster(c, id, kept) },
		func(w *world) int64 { return w.crash(id, kept) },
	}
}

func forges(replica int64, x impl.Statement) deed {
	return deed{
		fmt.Sprintf("ForgeCluster %d %+v", replica, x),
		func(c impl.Cluster) impl.ClusterResult { return impl.ForgeCluster(c, share(replica, x)) },
		func(w *world) int64 { return w.forge(share(replica, x)) },
	}
}

func asksAll(x impl.Statement) deed {
	return deed{
		fmt.Sprintf("AskAll %+v", x),
		func(c impl.Cluster) impl.ClusterResult { return impl.AskAll(c, x) },
		func(w *world) int64 { return w.askAll(x) },
	}
}

func (d deed) want(c impl.Cluster) impl.ClusterResult {
	if fault := wantClusterFault(c); fault != impl.OK {
		return impl.ClusterResult{Code: fault}
	}
	w := worldOf(c)
	if code := d.work(w); code != impl.OK {
		return impl.ClusterResult{Code: code}
	}
	return impl.ClusterResult{Cluster: w.cluster()}
}

func sameClusters(a impl.ClusterResult, b impl.ClusterResult) bool {
	return a.Code == b.Code && slices.EqualFunc(a.Cluster.Configs, b.Cluster.Configs, impl.SameConfigs) && slices.Equal(a.Cluster.Bad, b.Cluster.Bad) &&
		slices.EqualFunc(a.Cluster.Replicas, b.Cluster.Replicas, func(r impl.Replica, s impl.Replica) bool {
			return sameReplicas(impl.ReplicaResult{Replica: r}, impl.ReplicaResult{Replica: s})
		}) && slices.Equal(a.Cluster.Shares, b.Cluster.Shares)
}

func textOfCluster(c impl.Cluster) string {
	return fmt.Sprintf("%.200s, bad %v, %.900s, shares %.900s", fmt.Sprint(c.Configs), c.Bad, fmt.Sprint(c.Replicas), fmt.Sprint(c.Shares))
}

// checkDeed asks for the code as well as for what is worked out, so that neither can be wrong alone.
func checkDeed(t *testing.T, name string, c impl.Cluster, d deed, code int64) impl.Cluster {
	t.Helper()
	want, got := d.want(c), d.call(c)
	if want.Code != code {
		t.Errorf("%s: %s of %s is worked out as code %d, not %d", name, d.name, textOfCluster(c), want.Code, code)
	}
	if !sameClusters(got, want) {
		t.Errorf("%s: %s of %s = %d %s, want %d %s", name, d.name, textOfCluster(c), got.Code, textOfCluster(got.Cluster), want.Code, textOfCluster(want.Cluster))
	}
	return got.Cluster
}

// after is what deeds without a code make of a cluster.
func after(t *testing.T, c impl.Cluster, deeds ...deed) impl.Cluster {
	t.Helper()
	for _, d := range deeds {
		c = checkDeed(t, "a deed", c, d, impl.OK)
	}
	if t.Failed() {
		t.FailNow()
	}
	return c
}

func checkNewCluster(t *testing.T, name string, configs []impl.Config, bad []int64, code int64) impl.Cluster {
	t.Helper()
	want, got := wantNewCluster(configs, bad), impl.NewCluster(configs, bad)
	if want.Code != code {
		t.Errorf("%s: NewCluster of bad %v is worked out as code %d, not %d", name, bad, want.Code, code)
	}
	if !sameClusters(got, want) {
		t.Errorf("%s: NewCluster of bad %v = %d %s, want %d %s", name, bad, got.Code, textOfCluster(got.Cluster), want.Code, textOfCluster(want.Cluster))
	}
	return got.Cluster
}

// manyDeeds have codes of their own, which are asked behind the fault of a cluster.
func manyDeeds() []deed {
	var all []deed
	for _, x := range said(issue(2, 2, 1), issue(2, 1, 2), next(2, 1), take(2, 1), take(9, 7), revoke(2, 1, 255), issue(0, 1, 1), impl.Statement{}) {
		all = append(all, asksAll(x))
		for _, id := range []int64{1, 2, 4, 0, 8, -1} {
			all = append(all, asks(id, x), forges(id, x))
		}
	}
	for _, id := range []int64{1, 2, 3, 4, 7, 0, 8, math.MinInt64, math.MaxInt64} {
		all = append(all, syncs(id), crashes(id, 0), crashes(id, 1), crashes(id, -1), crashes(id, math.MaxInt64))
	}
	return all
}

// checkClusterFault asks all that lean on the ClusterFault.
func checkClusterFault(t *testing.T, name string, c impl.Cluster, code int64) {
	t.Helper()
	if want := wantClusterFault(c); want != code {
		t.Errorf("%s: the fault of %s is worked out as %d, not %d", name, textOfCluster(c), want, code)
	}
	if got := impl.ClusterFault(c); got != code {
		t.Errorf("%s: ClusterFault(%s) = %d, want %d", name, textOfCluster(c), got, code)
	}
	if code == impl.OK {
		return
	}
	for _, d := range manyDeeds() {
		if got := d.call(c); !sameClusters(got, impl.ClusterResult{Code: code}) {
			t.Errorf("%s: %s = %d %s, want code %d", name, d.name, got.Code, textOfCluster(got.Cluster), code)
			return
		}
	}
}

// township has of each f who is bad, and replicas that said much: the first one took a place and is not sure of an
// issue there, the second one is not sure of its take, the third one not of a revoke.
func township(t *testing.T, f int64) impl.Cluster {
	t.Helper()
	bad := [][]int64{{3}, {2, 5}}[f-1]
	good := goodOf(f, bad...)
	c := impl.NewCluster(withF(house(), f), bad).Cluster
	if f == 2 {
		c = after(t, c, forges(5, next(2, 2)), asksAll(revoke(2, 1, 3)), asks(6, revoke(2, 1, 4)), syncs(6))
	}
	return after(t, c,
		asksAll(issue(2, 2, 1)), asksAll(revoke(2, 4, 9)), asks(good[0], issue(2, 3, 6)), syncs(good[0]),
		asksAll(next(2, 1)), asks(good[0], take(2, 1)), syncs(good[0]),
		asks(good[0], issue(3, 1, 2)), asks(good[1], take(2, 1)), asks(good[2], revoke(2, 2, 2)),
		forges(bad[0], next(2, 2)), forges(bad[0], issue(2, 2, 1)), forges(bad[0], issue(9, 4, 255)),
	)
}

func copyCluster(c impl.Cluster) impl.Cluster {
	replicas := []impl.Replica{}
	for _, r := range c.Replicas {
		replicas = append(replicas, copyReplica(r))
	}
	return impl.Cluster{
		Configs:  copyConfigs(c.Configs),
		Bad:      append(slices.Clone(c.Bad), 77)[:len(c.Bad)],
		Replicas: append(replicas, impl.Replica{Id: 77})[:len(replicas)],
		Shares:   append(slices.Clone(c.Shares), share(77, impl.Statement{Kind: 77}))[:len(c.Shares)],
	}
}

func turnedCluster(c impl.Cluster, turns ...func(*impl.Cluster)) impl.Cluster {
	c = copyCluster(c)
	for _, turn := range turns {
		turn(&c)
	}
	return c
}

func TestNewCluster(t *testing.T) {
	for f := int64(1); f <= 2; f++ {
		configs := withF(house(), f)
		for _, group := range groupsOf(3*f + 1) {
			code := int64(impl.OK)
			if len(group) > int(f) {
				code = impl.ErrMany
			}
			c := checkNewCluster(t, "rising", configs, group, code)
			if code != impl.OK {
				continue
			}
			checkClusterFault(t, "a new one", c, impl.OK)
			if len(c.Replicas) != int(3*f+1)-len(group) || len(c.Shares) != 0 {
				t.Errorf("NewCluster of bad %v: %+v", group, c)
			}
			for place, r := range c.Replicas {
				if !sameReplicas(impl.ReplicaResult{Replica: r}, impl.NewReplica(r.Id)) || place > 0 && c.Replicas[place-1].Id >= r.Id || slices.Contains(group, r.Id) {
					t.Errorf("NewCluster of bad %v: replica %+v", group, r)
				}
			}
		}
		checkNewCluster(t, "nobody is bad", configs, []int64{}, impl.OK)
	}
	checkNewCluster(t, "one of seven", tower(), []int64{7}, impl.OK)
	checkNewCluster(t, "one configuration", house()[:1], []int64{4}, impl.OK)
}

type badCase struct {
	name string
	bad  []int64
	code int64
}

// badCases have each code, and which one comes first where several would do.
func badCases(f int64) []badCase {
	members := listOfSet(1<<(3*f+1) - 1)
	cases := []badCase{
		{"member 0", []int64{0}, impl.ErrRange},
		{"member 0 as well", []int64{0, 1}, impl.ErrRange},
		{"no member behind", []int64{1, 3*f + 2}, impl.ErrRange},
		{"no member, not rising", []int64{3*f + 2, 1}, impl.ErrRange},
		{"no member, too many", append(slices.Clone(members), 3*f+2), impl.ErrRange},
		{"no member, too many, not rising", []int64{4, 3, 2, 1, -1}, impl.ErrRange},
		{"no member twice", []int64{9, 9}, impl.ErrRange},
		{"no member, 100000", make([]int64, 100000), impl.ErrRange},
		{"one too many", slices.Clone(members[:f+1]), impl.ErrMany},
		{"all", members, impl.ErrMany},
		{"too many, not rising", turned(members, 2), impl.ErrMany},
		{"too many of one", repeated(2, int(f)+1), impl.ErrMany},
		{"100000 of one", repeated(3, 100000), impl.ErrMany},
	}
	for _, id := range noIds {
		if id != 0 {
			cases = append(cases, badCase{fmt.Sprint("member ", id), []int64{id}, impl.ErrRange})
		}
	}
	if f == 2 {
		cases = append(cases, badCase{"falling", []int64{5, 2}, impl.ErrForm}, badCase{"one twice", []int64{2, 2}, impl.ErrForm}, badCase{"falling from 7", []int64{7, 1}, impl.ErrForm})
	} else {
		cases = append(cases, badCase{"member 5 of four", []int64{5}, impl.ErrRange}, badCase{"falling, and so too many", []int64{4, 2}, impl.ErrMany})
	}
	return cases
}

func TestCodesOfWhoIsBad(t *testing.T) {
	for f := int64(1); f <= 2; f++ {
		base := township(t, f)
		for _, k := range badCases(f) {
			checkNewCluster(t, k.name, withF(house(), f), k.bad, k.code)
			c := copyCluster(base)
			c.Bad = k.bad
			checkClusterFault(t, k.name, c, k.code)
			c.Replicas, c.Shares = nil, []impl.Share{{}}
			checkClusterFault(t, k.name+", and no replicas", c, k.code)
		}
	}
}

func TestConfigsOfClusters(t *testing.T) { // the ConfigsFault is ahead of all else
	lists := [][]impl.Config{nil, {}, make([]impl.Config, 1), make([]impl.Config, 8), make([]impl.Config, 9), append(tower(), tower()[0]), append(house(), tower()[0]), append(tower()[:3], house()...)}
	for i, k := range wrongConfigs() {
		if i%5 == 0 {
			lists = append(lists, []impl.Config{goodConfig(), k.config}, []impl.Config{k.config})
		}
	}
	codes, base := map[int64]int{}, township(t, 2)
	for _, configs := range lists {
		code := wantConfigsFault(configs)
		codes[code]++
		for _, bad := range [][]int64{nil, {4}, {0}, {1, 2, 3}, {2, 1}, {9}} {
			checkNewCluster(t, "configs", configs, bad, code)
			c := base
			c.Configs, c.Bad = configs, bad
			checkClusterFault(t, "configs", c, code)
		}
		checkClusterFault(t, "configs alone", impl.Cluster{Configs: configs}, code)
	}
	if codes[impl.OK] != 0 || codes[impl.ErrMany] < 3 || codes[impl.ErrRange] < 2 || codes[impl.ErrForm] < 1 {
		t.Errorf("the codes are %v", codes)
	}
	checkClusterFault(t, "nothing", impl.Cluster{}, impl.ErrMany)
}

func TestClustersHaveNoFault(t *testing.T) {
	for f := int64(1); f <= 2; f++ {
		checkClusterFault(t, "a township", township(t, f), impl.OK)
		checkClusterFault(t, "a new one", impl.NewCluster(withF(house(), f), nil).Cluster, impl.OK)
	}
	checkClusterFault(t, "a tower", impl.NewCluster(tower(), []int64{1, 7}).Cluster, impl.OK)
}

func TestReplicasOfClustersAreAllWhoAreNotBad(t *testing.T) {
	for f := int64(1); f <= 2; f++ {
		base := township(t, f)
		last := len(base.Replicas) - 1
		fresh := impl.Replica{Id: base.Bad[0]}
		turns := map[string]func(*impl.Cluster){
			"none":                    func(c *impl.Cluster) { c.Replicas = nil },
			"empty":                   func(c *impl.Cluster) { c.Replicas = []impl.Replica{} },
			"without the first one":   func(c *impl.Cluster) { c.Replicas = c.Replicas[1:] },
			"without the last one":    func(c *impl.Cluster) { c.Replicas = c.Replicas[:last] },
			"without one":             func(c *impl.Cluster) { c.Replicas = slices.Delete(c.Replicas, 1, 2) },
			"with a bad one":          func(c *impl.Cluster) { c.Replicas = slices.Insert(c.Replicas, int(c.Bad[0])-1, fresh) },
			"with a bad one behind":   func(c *impl.Cluster) { c.Replicas = append(c.Replicas, fresh) },
			"with one twice":          func(c *impl.Cluster) { c.Replicas = slices.Insert(c.Replicas, 1, c.Replicas[0]) },
			"with the last one twice": func(c *impl.Cluster) { c.Replicas = append(c.Replicas, c.Replicas[last]) },
			"one twice for another":   func(c *impl.Cluster) { c.Replicas[1] = c.Replicas[0] },
			"a bad one for another":   func(c *impl.Cluster) { c.Replicas[1].Id = c.Bad[0] },
			"falling":                 func(c *impl.Cluster) { slices.Reverse(c.Replicas) },
			"two changed":             func(c *impl.Cluster) { c.Replicas[0], c.Replicas[1] = c.Replicas[1], c.Replicas[0] },
			"with one more":           func(c *impl.Cluster) { c.Replicas = append(c.Replicas, impl.Replica{Id: 3*f + 2}) },
			"with one of Id 0":        func(c *impl.Cluster) { c.Replicas = slices.Insert(c.Replicas, 0, impl.Replica{}) },
			"an Id of 0":              func(c *impl.Cluster) { c.Replicas[0].Id = 0 },
			"an Id out of bounds":     func(c *impl.Cluster) { c.Replicas[last].Id = 3*f + 2 },
			"a great Id":              func(c *impl.Cluster) { c.Replicas[last].Id = math.MaxInt64 },
			"100000":                  func(c *impl.Cluster) { c.Replicas = make([]impl.Replica, 100000) },
			"nobody is bad":           func(c *impl.Cluster) { c.Bad = nil },
			"fewer are bad":           func(c *impl.Cluster) { c.Bad = c.Bad[1:] },
			"another one is bad":      func(c *impl.Cluster) { c.Bad[0] = 1 },
		}
		for name, turn := range turns {
			checkClusterFault(t, name, turnedCluster(base, turn), impl.ErrForm)
		}
		bare := impl.NewCluster(withF(house(), f), nil).Cluster
		bare.Replicas = bare.Replicas[:3*f]
		checkClusterFault(t, "one too few where nobody is bad", bare, impl.ErrForm)
	}
}

// replicaTurns give a replica each code of the ReplicaFault.
func replicaTurns() map[int64][]func(*impl.Replica) {
	return map[int64][]func(*impl.Replica){
		impl.ErrRange: {
			func(r *impl.Replica) { r.Sure = -1 },
			func(r *impl.Replica) { r.Sure = int64(len(r.Said)) + 1 },
			func(r *impl.Replica) { r.Sure = math.MaxInt64 },
			func(r *impl.Replica) { r.Sure = math.MinInt64 },
			func(r *impl.Replica) { r.Sure, r.Said = -1, make([]impl.Statement, 41) },
		},
		impl.ErrMany: {
			func(r *impl.Replica) { r.Said = revokes(41) },
			func(r *impl.Replica) { r.Said = make([]impl.Statement, 41) },
		},
		impl.ErrState: {
			func(r *impl.Replica) { r.Locks = append(r.Locks, lock(9, 3, 8, 4)) },
			func(r *impl.Replica) { r.Locks = everyPlace(2) },
			func(r *impl.Replica) { r.Said = append(r.Said, issue(7, 1, 1)) },
			func(r *impl.Replica) { r.Said = append(r.Said, r.Said[0]) },
			func(r *impl.Replica) { r.Said = append(r.Said, impl.Statement{}) },
		},
	}
}

func TestReplicaFaultsOfClusters(t *testing.T) { // replica by replica, behind who they are and ahead of all shares
	for f := int64(1); f <= 2; f++ {
		base := township(t, f)
		for one, turns := range replicaTurns() {
			for _, turn := range turns {
				for place := range base.Replicas {
					c := turnedCluster(base, func(c *impl.Cluster) { turn(&c.Replicas[place]) })
					checkClusterFault(t, fmt.Sprint("at ", place), c, one)
					c.Shares = make([]impl.Share, 121)
					checkClusterFault(t, fmt.Sprint("at ", place, ", and too many shares"), c, one)
					c.Replicas[place].Id = 3*f + 2
					checkClusterFault(t, fmt.Sprint("at ", place, ", and another one"), c, impl.ErrForm)
				}
			}
			for two, others := range replicaTurns() {
				c := turnedCluster(base, func(c *impl.Cluster) { turns[0](&c.Replicas[0]) }, func(c *impl.Cluster) { others[0](&c.Replicas[1]) })
				checkClusterFault(t, fmt.Sprint(one, " ahead of ", two), c, one)
			}
		}
	}
}

func TestSharesFaultsOfClusters(t *testing.T) { // of all shares, ahead of what single ones are held against
	for f := int64(1); f <= 2; f++ {
		base := township(t, f)
		unsaid, taken := share(base.Replicas[0].Id, issue(8, 1, 1)), share(base.Bad[0], take(2, 1))
		lists := map[string][]impl.Share{
			"121":                        distinctShares(121),
			"100000":                     make([]impl.Share, 100000),
			"121 that are none":          make([]impl.Share, 121),
			"of replica 0":               append(slices.Clone(base.Shares), share(0, next(2, 1))),
			"of no replica":              append(slices.Clone(base.Shares), share(3*f+2, next(2, 1))),
			"the first one of no member": append([]impl.Share{share(-1, next(2, 1))}, base.Shares...),
			"one twice":                  append(slices.Clone(base.Shares), base.Shares[0]),
			"the last one twice":         append(slices.Clone(base.Shares), base.Shares[len(base.Shares)-1]),
			"a forged one twice":         sharesOf(next(8, 1), base.Bad[0], base.Bad[0]),
			"a take twice":               sharesOf(take(2, 1), base.Bad[0], base.Bad[0]),
			"an unsaid one twice":        sharesOf(issue(8, 1, 1), 1, 1),
		}
		for _, k := range wrongStatements() {
			lists[k.name] = append(slices.Clone(base.Shares), share(base.Bad[0], k.x))
			lists[k.name+" of one who is not bad"] = []impl.Share{share(base.Replicas[0].Id, k.x)}
		}
		for name, shares := range lists {
			code := wantSharesFault(shares, f)
			if code == impl.OK {
				t.Fatalf("%s has no fault", name)
			}
			c := copyCluster(base)
			c.Shares = shares
			checkClusterFault(t, name, c, code)
			if len(shares) > 100 {
				continue
			}
			for _, first := range []impl.Share{unsaid, taken} {
				c.Shares = append([]impl.Share{first}, shares...)
				checkClusterFault(t, name+", behind one of another fault", c, code)
			}
		}
	}
}

func TestSharesThatNobodyStandsBy(t *testing.T) {
	for f := int64(1); f <= 2; f++ {
		base := township(t, f)
		bad, taker, unsure, last := base.Bad[0], base.Replicas[0], base.Replicas[1], base.Replicas[2]
		cases := []struct {
			name string
			one  impl.Share
			code int64
		}{
			{"a take of one who is bad", share(bad, take(2, 1)), impl.ErrForm},
			{"a take of one who is sure of it", share(taker.Id, take(2, 1)), impl.ErrForm},
			{"a take of one who is not sure of it", share(unsure.Id, take(2, 1)), impl.ErrForm},
			{"a take of one who did not say it", share(last.Id, take(2, 1)), impl.ErrForm},
			{"a take that is not signed", share(bad, take(2, 2)), impl.ErrForm},
			{"an issue that was not said", share(taker.Id, issue(2, 3, 1)), impl.ErrSign},
			{"an issue that was said and is not sure", share(taker.Id, issue(3, 1, 2)), impl.ErrSign},
			{"a revoke that was said and is not sure", share(last.Id, revoke(2, 2, 2)), impl.ErrSign},
			{"a revoke that another one is not sure of", share(unsure.Id, revoke(2, 2, 2)), impl.ErrSign},
			{"a next that was not said", share(last.Id, next(2, 2)), impl.ErrSign},
			{"what another one is sure of", share(unsure.Id, issue(2, 3, 6)), impl.ErrSign},
			{"a revoke of what was issued", share(unsure.Id, revoke(2, 2, 1)), impl.ErrSign},
			{"anything of one who is bad", share(bad, issue(2, 3, 1)), impl.OK},
			{"what another one is not sure of, of one who is bad", share(bad, revoke(2, 2, 2)), impl.OK},
			{"what no configuration knows, of one who is bad", share(bad, next(9, 7)), impl.OK},
		}
		for _, k := range cases {
			for place := range len(base.Shares) + 1 {
				c := copyCluster(base)
				c.Shares = slices.Insert(c.Shares, place, k.one)
				if place == 0 || place == len(base.Shares) {
					checkClusterFault(t, k.name, c, k.code)
				} else if got := impl.ClusterFault(c); got != k.code {
					t.Errorf("%s at %d: %d, want %d", k.name, place, got, k.code)
				}
			}
		}
		for i, one := range cases { // share by share: what stands ahead is told
			for j, two := range cases {
				if one.one == two.one {
					continue
				}
				c := copyCluster(base)
				c.Shares = append(c.Shares, one.one, two.one)
				code := one.code
				if code == impl.OK {
					code = two.code
				}
				if got := impl.ClusterFault(c); got != code {
					t.Errorf("%s, then %s (%d, %d): %d, want %d", one.name, two.name, i, j, got, code)
				}
			}
		}
		for place, s := range base.Shares { // who is not bad does not stand by what it is not sure of any more
			at := slices.IndexFunc(base.Replicas, func(r impl.Replica) bool { return r.Id == s.Replica })
			if at < 0 {
				continue
			}
			for sure := range base.Replicas[at].Sure + 1 {
				c := copyCluster(base)
				c.Shares, c.Replicas[at].Sure = []impl.Share{s}, sure
				for other := range c.Replicas {
					c.Replicas[other].Said = slices.DeleteFunc(c.Replicas[other].Said, func(x impl.Statement) bool { return x.Kind == impl.SayTake || x.Epoch == 3 })
					c.Replicas[other].Locks = tellerOf(c.Configs, c.Replicas[other].Said...).locks
					c.Replicas[other].Sure = min(c.Replicas[other].Sure, int64(len(c.Replicas[other].Said)))
				}
				code := int64(impl.ErrSign)
				if slices.Index(c.Replicas[at].Said, s.Statement) < int(sure) {
					code = impl.OK
				}
				if got := impl.ClusterFault(c); got != code {
					t.Errorf("share %d with %d sure: %d, want %d", place, sure, got, code)
				}
			}
		}
	}
}

func TestTakesThatNobodySawSigned(t *testing.T) {
	for f := int64(1); f <= 2; f++ {
		for _, bad := range [][]int64{nil, {3}} {
			good := goodOf(f, bad...)
			fresh := impl.NewCluster(withF(house(), f), bad).Cluster
			signed := after(t, fresh, asksAll(next(2, 1)))
			checkClusterFault(t, "signed", signed, impl.OK)
			for place, id := range good {
				for _, x := range said(take(2, 1), take(2, 2)) {
					c := copyCluster(signed)
					c.Replicas[place].Said = append(c.Replicas[place].Said, x)
					code := int64(impl.OK)
					if x.Next != 1 {
						code = impl.ErrSign
					}
					checkClusterFault(t, fmt.Sprint(id, " took it and is not sure"), c, code)
					c.Replicas[place].Sure = int64(len(c.Replicas[place].Said))
					checkClusterFault(t, fmt.Sprint(id, " took it and is sure"), c, code)
					c = copyCluster(fresh)
					c.Replicas[place].Said = said(x)
					checkClusterFault(t, fmt.Sprint(id, " took it unseen"), c, impl.ErrSign)
				}
			}
			for count := range len(signed.Shares) + 1 { // enough have to be left
				c := copyCluster(signed)
				c.Shares = c.Shares[:count]
				c.Replicas[0].Said = append(c.Replicas[0].Said, take(2, 1))
				code := int64(impl.OK)
				if count <= int(2*f) {
					code = impl.ErrSign
				}
				checkClusterFault(t, fmt.Sprint("signed by ", count), c, code)
			}
			c := copyCluster(signed)
			c.Replicas[0].Said = append(c.Replicas[0].Said, take(2, 1), take(3, 3))
			checkClusterFault(t, "a second take", c, impl.ErrSign)
			c.Shares = nil
			checkClusterFault(t, "no shares", c, impl.ErrSign)
			c.Replicas[len(good)-1].Sure = -1
			checkClusterFault(t, "no shares, and a ReplicaFault behind", c, impl.ErrRange)
			if len(bad) > 0 {
				c = turnedCluster(signed, func(c *impl.Cluster) {
					c.Shares = append(c.Shares, share(3, take(2, 1)))
					c.Replicas[0].Said = append(c.Replicas[0].Said, take(2, 2))
				})
				checkClusterFault(t, "a share of a take ahead of a take unseen", c, impl.ErrForm)
			}
		}
	}
}

type clusterFlaw struct {
	name string
	code int64
	turn func(*impl.Cluster)
}

// clusterFlaws stand in the order in which they are told, each one at a place behind those of its kind.
func clusterFlaws() []clusterFlaw {
	return []clusterFlaw{
		{"no configs", impl.ErrMany, func(c *impl.Cluster) { c.Configs = nil }},
		{"a config", impl.ErrRange, func(c *impl.Cluster) { c.Configs[3].Epoch = 0 }},
		{"another F", impl.ErrForm, func(c *impl.Cluster) { c.Configs[6].F = 1 }},
		{"no member is bad", impl.ErrRange, func(c *impl.Cluster) { c.Bad = append(c.Bad, 8) }},
		{"too many are bad", impl.ErrMany, func(c *impl.Cluster) { c.Bad = append(c.Bad, 1) }},
		{"the bad do not rise", impl.ErrForm, func(c *impl.Cluster) { c.Bad[0], c.Bad[1] = c.Bad[1], c.Bad[0] }},
		{"a replica is missing", impl.ErrForm, func(c *impl.Cluster) { c.Replicas = c.Replicas[:4] }},
		{"Sure", impl.ErrRange, func(c *impl.Cluster) { c.Replicas[0].Sure = -1 }},
		{"Said", impl.ErrMany, func(c *impl.Cluster) { c.Replicas[1].Said = revokes(41) }},
		{"Locks", impl.ErrState, func(c *impl.Cluster) { c.Replicas[3].Locks = nil }},
		{"too many shares", impl.ErrMany, func(c *impl.Cluster) { c.Shares = append(c.Shares, make([]impl.Share, 121)...) }},
		{"a share of no member", impl.ErrRange, func(c *impl.Cluster) { c.Shares[1].Replica = 8 }},
		{"a share of no statement", impl.ErrForm, func(c *impl.Cluster) { c.Shares[3].Statement = impl.Statement{} }},
		{"a share twice", impl.ErrTaken, func(c *impl.Cluster) { c.Shares = append(c.Shares, c.Shares[len(c.Shares)-1]) }},
		{"a share of a take", impl.ErrForm, func(c *impl.Cluster) { c.Shares[0].Statement = take(2, 1) }},
		{"a share that was not said", impl.ErrSign, func(c *impl.Cluster) { c.Shares[2].Statement = issue(2, 3, 5) }},
		{"a take unseen", impl.ErrSign, func(c *impl.Cluster) { c.Replicas[2].Said = append(c.Replicas[2].Said, take(2, 2)) }},
	}
}

func TestClusterFaultsInTheirOrder(t *testing.T) {
	base := township(t, 2)
	flaws := clusterFlaws()
	for i, one := range flaws {
		checkClusterFault(t, one.name, turnedCluster(base, one.turn), one.code)
		for _, two := range flaws[i+1:] {
			c := copyCluster(base)
			two.turn(&c) // the other way about there may be no list left to turn
			one.turn(&c)
			checkClusterFault(t, one.name+", and "+two.name, c, one.code)
		}
	}
}

func numbersOfCluster(c *impl.Cluster) []*int64 {
	var all []*int64
	for i := range c.Bad {
		all = append(all, &c.Bad[i])
	}
	for i := range c.Replicas {
		r := &c.Replicas[i]
		all = append(all, &r.Id, &r.Sure)
		for j := range r.Said {
			all = append(all, numbersOfStatement(&r.Said[j])...)
		}
		for j := range r.Locks {
			l := &r.Locks[j]
			all = append(all, &l.Epoch, &l.Class, &l.Principal, &l.Form)
		}
	}
	for i := range c.Shares {
		all = append(all, &c.Shares[i].Replica)
		all = append(all, numbersOfStatement(&c.Shares[i].Statement)...)
	}
	for i := range c.Configs[:2] {
		all = append(all, numbersOfConfig(&c.Configs[i])...)
	}
	return all
}

func TestClustersOneNumberAway(t *testing.T) {
	codes := map[int64]int{}
	for f := int64(1); f <= 2; f++ {
		base := township(t, f)
		c := copyCluster(base)
		for place, number := range numbersOfCluster(&c) {
			kept := *number
			for _, by := range []int64{1, -1, 1 << 40} {
				*number = kept + by
				want := wantClusterFault(c)
				if got := impl.ClusterFault(c); got != want {
					t.Errorf("number %d of %s, by %d: %d, want %d", place, textOfCluster(base), by, got, want)
				}
				codes[want]++
			}
			*number = kept
		}
	}
	checkCodes(t, "ClusterFault", codes, impl.OK, impl.ErrForm, impl.ErrRange, impl.ErrTaken, impl.ErrSign, impl.ErrState)
}

// idsOfNone has no replica of the township: those who are bad, and no members.
func idsOfNone(f int64, bad []int64) []int64 {
	return append(append([]int64{3*f + 2, 3*f + 3}, bad...), noIds...)
}

func TestIdsOfNoReplica(t *testing.T) { // ahead of all that is asked of a statement, and behind the ClusterFault
	for f := int64(1); f <= 2; f++ {
		c := township(t, f)
		for _, id := range idsOfNone(f, c.Bad) {
			if slices.Contains(goodOf(f, c.Bad...), id) {
				continue
			}
			for _, x := range said(issue(2, 2, 1), next(2, 1), take(2, 1), take(2, 2), take(9, 9), issue(0, 1, 1), impl.Statement{}) {
				checkDeed(t, "no replica", c, asks(id, x), impl.ErrNone)
			}
			checkDeed(t, "no replica", c, syncs(id), impl.ErrNone)
			for _, kept := range []int64{0, 1, -1, math.MinInt64, math.MaxInt64} {
				checkDeed(t, "no replica", c, crashes(id, kept), impl.ErrNone)
			}
		}
	}
}

func TestAskClusterOfNoStatement(t *testing.T) {
	for f := int64(1); f <= 2; f++ {
		base := township(t, f)
		for _, c := range []impl.Cluster{base, impl.NewCluster(withF(house(), f), nil).Cluster} {
			for _, k := range wrongStatements() {
				checkDeed(t, k.name, c, asks(1, k.x), k.want)
				checkDeed(t, k.name, c, asksAll(k.x), k.want)
			}
			// a take with a fault was seen by nobody, which is asked behind
			for _, x := range said(take(0, 1), take(2, 8), take(10, 1), take(2, -1)) {
				checkDeed(t, "a take with a fault", c, asks(1, x), impl.ErrRange)
				checkDeed(t, "a take with a fault", c, asksAll(x), impl.ErrRange)
			}
		}
	}
}

func TestAskingMakesNoShareAndNothingSure(t *testing.T) {
	for f := int64(1); f <= 2; f++ {
		c := township(t, f)
		for _, r := range c.Replicas {
			for _, x := range said(revoke(2, 3, 77), issue(2, 2, 1), revoke(2, 4, 9), next(2, 1), take(2, 1)) {
				a := checkDeed(t, "asked", c, asks(r.Id, x), impl.OK)
				place := slices.IndexFunc(a.Replicas, func(b impl.Replica) bool { return b.Id == r.Id })
				if !slices.Equal(a.Shares, c.Shares) || a.Replicas[place].Sure != r.Sure || !slices.Contains(a.Replicas[place].Said, x) {
					t.Errorf("asked %+v of %+v: %s", x, r, textOfCluster(a))
				}
				again := checkDeed(t, "asked again", a, asks(r.Id, x), impl.OK)
				if !sameClusters(impl.ClusterResult{Cluster: again}, impl.ClusterResult{Cluster: a}) {
					t.Errorf("asked %+v twice of %+v: %s", x, r, textOfCluster(again))
				}
			}
		}
	}
}

// ready has two who go ahead with the takes of a list, and one who is bad and signs with them: the first one may say the list.
func ready(t *testing.T, list []impl.Statement) impl.Cluster {
	t.Helper()
	c := impl.NewCluster(house(), []int64{4}).Cluster
	for _, x := range list {
		if x.Kind != impl.SayTake {
			continue
		}
		step := next(x.Epoch, x.Next)
		c = after(t, c, asks(2, step), asks(3, step), syncs(2), syncs(3), forges(4, step), asks(2, x), asks(3, x))
	}
	for _, x := range list {
		c = after(t, c, asks(1, x))
	}
	return c
}

func TestAskClusterAsAReplicaEndorses(t *testing.T) { // each code of Endorse, behind that of a take unseen
	codes := map[int64]int{}
	for _, k := range allCases() {
		c := ready(t, k.said)
		code := k.want
		if seen := worldOf(c).isSigned(next(k.x.Epoch, k.x.Next)); k.x.Kind == impl.SayTake && !seen {
			code = impl.ErrSign
		}
		codes[code]++
		checkDeed(t, k.name, c, asks(1, k.x), code)
		checkDeed(t, k.name, c, asks(4, k.x), impl.ErrNone)
	}
	for _, code := range []int64{impl.OK, impl.ErrNone, impl.ErrOld, impl.ErrPolicy, impl.ErrTaken, impl.ErrRange, impl.ErrState, impl.ErrSign} {
		if codes[code] == 0 {
			t.Errorf("no case has code %d", code)
		}
	}
}

func TestAskClusterToTake(t *testing.T) {
	fresh := impl.NewCluster(house(), []int64{4}).Cluster
	for _, x := range said(take(2, 1), take(2, 2), take(2, 0), take(2, 7), take(3, 3), take(1, 0), take(9, 7)) {
		checkDeed(t, "nobody said it", fresh, asks(1, x), impl.ErrSign)
	}
	two := after(t, fresh, asks(1, next(2, 1)), asks(2, next(2, 1)), syncs(1), syncs(2))
	checkDeed(t, "two of three", two, asks(1, take(2, 1)), impl.ErrSign)
	three := after(t, two, asks(3, next(2, 1)))
	checkDeed(t, "the third one is not sure", three, asks(1, take(2, 1)), impl.ErrSign)
	three = after(t, three, syncs(3))
	for id := int64(1); id <= 3; id++ {
		took := checkDeed(t, "three", three, asks(id, take(2, 1)), impl.OK)
		checkDeed(t, "another one", took, asks(id, take(2, 2)), impl.ErrSign)
		checkDeed(t, "the next epoch", took, asks(id, issue(3, 1, 2)), impl.OK)
	}
	checkDeed(t, "another one", three, asks(1, take(2, 2)), impl.ErrSign)
	forged := after(t, two, forges(4, next(2, 1)))
	checkDeed(t, "one of them is bad", forged, asks(3, take(2, 1)), impl.OK)
	checkDeed(t, "forged for another one", after(t, two, forges(4, next(2, 2))), asks(3, take(2, 1)), impl.ErrSign)

	ahead := ready(t, said(take(2, 1)))
	ahead = after(t, ahead, asks(2, next(3, 3)), asks(3, next(3, 3)), syncs(2), syncs(3), forges(4, next(3, 3)), crashes(1, 0))
	checkDeed(t, "signed, of an epoch that it does not know", ahead, asks(1, take(3, 3)), impl.ErrNone)
	checkDeed(t, "known", after(t, ahead, asks(1, take(2, 1))), asks(1, take(3, 3)), impl.OK)
	far := after(t, fresh, forges(4, next(9, 7)), forges(4, next(2, 0)))
	checkDeed(t, "signed by one who is bad alone", far, asks(1, take(9, 7)), impl.ErrSign)
}

func TestAskClusterOfOneWhoSaid40(t *testing.T) {
	c := impl.NewCluster(house(), []int64{4}).Cluster
	c.Replicas[0].Said = revokes(40)
	checkDeed(t, "one more", c, asks(1, revoke(2, 1, 1)), impl.ErrMany)
	checkDeed(t, "said already", c, asks(1, revoke(2, 4, 1)), impl.OK)
	checkDeed(t, "a take unseen", c, asks(1, take(2, 1)), impl.ErrSign)
	seen := after(t, c, asks(2, next(2, 1)), asks(3, next(2, 1)), syncs(2), syncs(3), forges(4, next(2, 1)))
	checkDeed(t, "a take", seen, asks(1, take(2, 1)), impl.ErrMany)
	c.Replicas[0].Said = revokes(39)
	checkDeed(t, "the last one", c, asks(1, revoke(2, 1, 1)), impl.OK)
}

func TestSyncCluster(t *testing.T) {
	for f := int64(1); f <= 2; f++ {
		c := township(t, f)
		for place, r := range c.Replicas {
			got := checkDeed(t, "synced", c, syncs(r.Id), impl.OK)
			if !slices.Equal(got.Shares[:len(c.Shares)], c.Shares) || got.Replicas[place].Sure != int64(len(r.Said)) {
				t.Errorf("SyncCluster %d of %s: %s", r.Id, textOfCluster(c), textOfCluster(got))
			}
			again := checkDeed(t, "synced again", got, syncs(r.Id), impl.OK)
			if !sameClusters(impl.ClusterResult{Cluster: again}, impl.ClusterResult{Cluster: got}) {
				t.Errorf("SyncCluster %d twice: %s", r.Id, textOfCluster(again))
			}
		}
	}
	list := said(issue(2, 2, 1), revoke(2, 4, 9), take(2, 1), issue(3, 1, 2), next(2, 2), revoke(3, 1, 1), next(3, 3))
	c := ready(t, list)
	shares := slices.Clone(c.Shares)
	for _, x := range list {
		if x != take(2, 1) {
			shares = append(shares, share(1, x))
		}
	}
	if got := checkDeed(t, "in order, without the take", c, syncs(1), impl.OK); !slices.Equal(got.Shares, shares) {
		t.Errorf("shares %+v, want %+v", got.Shares, shares)
	}
	some := copyCluster(c) // of some the share is there, and is not made again
	some.Replicas[0].Sure, some.Shares = 6, append(some.Shares, share(1, list[3]), share(1, list[0]))
	want := append(slices.Clone(some.Shares), share(1, list[1]), share(1, list[4]), share(1, list[5]), share(1, list[6]))
	if got := checkDeed(t, "some are there", some, syncs(1), impl.OK); !slices.Equal(got.Shares, want) {
		t.Errorf("shares %+v, want %+v", got.Shares, want)
	}
	lasting := copyCluster(c) // what lasted by a crash has no share yet
	lasting = after(t, lasting, crashes(1, 4))
	if got := checkDeed(t, "it lasts already", lasting, syncs(1), impl.OK); len(got.Shares) != len(c.Shares)+3 {
		t.Errorf("shares %+v", got.Shares)
	}
}

// crowd has count shares of those who are bad, of seven members; the first one said and is not sure of as many as said.
func crowd(count int, saidCount int) impl.Cluster {
	c := impl.NewCluster(withF(house(), 2), []int64{6, 7}).Cluster
	for i := range int64(count) {
		c.Shares = append(c.Shares, share(6+i%2, revoke(9, i/2/30+1, i/2%30+1)))
	}
	c.Replicas[0].Said = revokes(saidCount)
	return c
}

func TestSyncClusterUpTo120(t *testing.T) {
	for _, saidCount := range []int{0, 1, 2, 5, 39, 40} {
		for count := 115 - saidCount; count <= 120; count++ {
			code := int64(impl.OK)
			if count+saidCount > 120 {
				code = impl.ErrMany
			}
			c := crowd(count, saidCount)
			checkClusterFault(t, "a crowd", c, impl.OK)
			checkDeed(t, fmt.Sprint(saidCount, " more than ", count), c, syncs(1), code)
		}
	}
	for there := range 6 { // of five, these have a share already
		for count := 110; count <= 120-there; count++ {
			c := crowd(count, 5)
			c.Replicas[0].Sure = 5
			c.Shares = append(c.Shares, signedBy([]int64{1}, revokes(5)[5-there:]...)...)
			code := int64(impl.OK)
			if count+5 > 120 {
				code = impl.ErrMany
			}
			checkDeed(t, fmt.Sprint(there, " of five are there, beside ", count), c, syncs(1), code)
		}
	}
	full := crowd(115, 5)
	full = after(t, full, syncs(1))
	if len(full.Shares) != 120 {
		t.Errorf("%d shares", len(full.Shares))
	}
	checkDeed(t, "all are there", full, syncs(1), impl.OK)
	checkDeed(t, "one who said nothing", full, syncs(2), impl.OK)
	taken := ready(t, said(take(2, 1)))
	taken = after(t, taken, syncs(1), asks(1, next(2, 1)))
	for i := len(taken.Shares); i < 120; i++ {
		taken.Shares = append(taken.Shares, share(4, revoke(9, 1, int64(i)+1)))
	}
	checkDeed(t, "a take and one more", taken, syncs(1), impl.ErrMany)
	taken.Replicas[0].Said = taken.Replicas[0].Said[:1]
	checkDeed(t, "a take alone", taken, syncs(1), impl.OK)
}

func TestCrashCluster(t *testing.T) {
	for f := int64(1); f <= 2; f++ {
		base := township(t, f)
		base = after(t, base, asks(base.Replicas[0].Id, revoke(3, 1, 9)), asks(base.Replicas[0].Id, revoke(3, 1, 10)), asks(base.Replicas[2].Id, revoke(2, 1, 10)))
		for place, r := range base.Replicas {
			left := int64(len(r.Said)) - r.Sure
			for kept := int64(-2); kept <= left+2; kept++ {
				code := int64(impl.OK)
				if kept < 0 || kept > left {
					code = impl.ErrRange
				}
				got := checkDeed(t, fmt.Sprint(kept, " of ", left), base, crashes(r.Id, kept), code)
				if code != impl.OK {
					continue
				}
				if !slices.Equal(got.Shares, base.Shares) {
					t.Errorf("the shares are %+v", got.Shares)
				}
				if r := got.Replicas[place]; int64(len(r.Said)) != base.Replicas[place].Sure+kept || r.Sure != int64(len(r.Said)) {
					t.Errorf("%d of %d: %+v", kept, left, r)
				}
				checkDeed(t, "nothing is left to lose", got, crashes(r.Id, 0), impl.OK)
				checkDeed(t, "nothing is left to keep", got, crashes(r.Id, 1), impl.ErrRange)
			}
			for _, kept := range []int64{math.MinInt64, math.MinInt64 + 1, -r.Sure - 1, 1 << 32, math.MaxInt64 - r.Sure, math.MaxInt64} {
				checkDeed(t, "far", base, crashes(r.Id, kept), impl.ErrRange)
			}
		}
	}
}

func TestExampleOfACrashAheadOfTheSync(t *testing.T) { // what was said is gone, no share of it is there
	for id := int64(1); id <= 3; id++ {
		fresh := impl.NewCluster(house(), []int64{4}).Cluster
		asked := after(t, fresh, asks(id, issue(2, 2, 1)))
		lost := after(t, asked, crashes(id, 0))
		if !sameClusters(impl.ClusterResult{Cluster: lost}, impl.ClusterResult{Cluster: fresh}) {
			t.Errorf("%s", textOfCluster(lost))
		}
		kept := after(t, asked, crashes(id, 1))
		if r := kept.Replicas[id-1]; len(kept.Shares) != 0 || r.Sure != 1 || len(r.Said) != 1 || len(r.Locks) != 1 {
			t.Errorf("%s", textOfCluster(kept))
		}
		synced := after(t, asked, syncs(id), crashes(id, 0))
		if r := synced.Replicas[id-1]; !slices.Equal(synced.Shares, sharesOf(issue(2, 2, 1), id)) || !slices.Contains(r.Said, issue(2, 2, 1)) {
			t.Errorf("%s", textOfCluster(synced))
		}
	}
}

func TestForgeCluster(t *testing.T) {
	for f := int64(1); f <= 2; f++ {
		c := township(t, f)
		for replica := int64(-2); replica <= 10; replica++ {
			isMember, isBad := replica >= 1 && replica <= 3*f+1, slices.Contains(c.Bad, replica)
			check := func(x impl.Statement, code int64) impl.Cluster {
				t.Helper()
				if !isMember {
					code = impl.ErrRange
				}
				return checkDeed(t, "forged", c, forges(replica, x), code)
			}
			for _, k := range wrongStatements() {
				check(k.x, k.want)
			}
			for _, x := range said(take(2, 1), take(2, 2), take(9, 7)) {
				check(x, impl.ErrForm)
			}
			for _, x := range said(issue(2, 2, 1), issue(2, 3, 4), next(2, 1), next(2, 2), next(9, 7), revoke(1, 1, 255), issue(9, 4, 255)) {
				if !isBad {
					check(x, impl.ErrSign)
					continue
				}
				got := check(x, impl.OK)
				want := slices.Clone(c.Shares)
				if !slices.Contains(want, share(replica, x)) {
					want = append(want, share(replica, x))
				}
				if !slices.Equal(got.Shares, want) {
					t.Errorf("forged %+v of %d: %+v", x, replica, got.Shares)
				}
				checkDeed(t, "forged again", got, forges(replica, x), impl.OK)
			}
		}
		for _, replica := range noIds {
			for _, x := range said(next(2, 1), take(2, 1), impl.Statement{}, issue(1, 1, 0)) {
				checkDeed(t, "no member", c, forges(replica, x), impl.ErrRange)
			}
		}
		none := impl.NewCluster(withF(house(), f), nil).Cluster
		for replica := int64(1); replica <= 3*f+1; replica++ {
			checkDeed(t, "nobody is bad", none, forges(replica, next(2, 1)), impl.ErrSign)
		}
	}
}

func TestForgeClusterUpTo120(t *testing.T) {
	x := next(2, 1)
	for count := 117; count <= 120; count++ {
		c := crowd(count, 0)
		code := int64(impl.OK)
		if count == 120 {
			code = impl.ErrMany
		}
		checkDeed(t, fmt.Sprint("one more than ", count), c, forges(6, x), code)
		checkDeed(t, "there already", c, forges(c.Shares[50].Replica, c.Shares[50].Statement), impl.OK)
		checkDeed(t, "the last one again", c, forges(c.Shares[count-1].Replica, c.Shares[count-1].Statement), impl.OK)
		checkDeed(t, "of one who is not bad", c, forges(5, x), impl.ErrSign)
		checkDeed(t, "a take", c, forges(6, take(2, 1)), impl.ErrForm)
		checkDeed(t, "no statement", c, forges(6, issue(2, 5, 1)), impl.ErrRange)
		checkDeed(t, "no member", c, forges(8, x), impl.ErrRange)
	}
}

func TestAskAll(t *testing.T) {
	for f := int64(1); f <= 2; f++ {
		for _, bad := range [][]int64{nil, {1}, {3}, {3*f + 1}} {
			good := goodOf(f, bad...)
			x := issue(2, 2, 1)
			c := impl.NewCluster(withF(house(), f), bad).Cluster
			all := checkDeed(t, "all of them", c, asksAll(x), impl.OK)
			if !slices.Equal(all.Shares, sharesOf(x, good...)) || !impl.IsSigned(all.Shares, f, x) {
				t.Errorf("bad %v: %+v", bad, all.Shares)
			}
			again := checkDeed(t, "again", all, asksAll(x), impl.OK)
			if !slices.Equal(again.Shares, all.Shares) {
				t.Errorf("bad %v: %+v", bad, again.Shares)
			}
			for _, y := range said(issue(2, 1, 2), issue(2, 4, 1), issue(3, 1, 2), next(2, 7), next(2, 0), take(2, 1), take(9, 7), next(3, 3), revoke(1, 1, 1), issue(2, 3, 1)) {
				if got := checkDeed(t, "none of them", all, asksAll(y), impl.OK); !sameClusters(impl.ClusterResult{Cluster: got}, impl.ClusterResult{Cluster: all}) {
					t.Errorf("asked %+v, where none may say it: %s", y, textOfCluster(got))
				}
			}
			stepped := after(t, all, asksAll(next(2, 1)))
			took := checkDeed(t, "a take of all", stepped, asksAll(take(2, 1)), impl.OK)
			if !slices.Equal(took.Shares, stepped.Shares) {
				t.Errorf("bad %v: %+v", bad, took.Shares)
			}
			for _, r := range took.Replicas {
				if !slices.Equal(r.Said, said(x, next(2, 1), take(2, 1))) || r.Sure != 3 {
					t.Errorf("bad %v: %+v", bad, r)
				}
			}
		}
	}
}

func TestAskAllOfWhomSomeHaveACode(t *testing.T) { // they stay as they were, the others go on
	for f := int64(1); f <= 2; f++ {
		for _, bad := range [][]int64{nil, {3}} {
			good := goodOf(f, bad...)
			for _, group := range groupsOf(int64(len(good))) {
				c := impl.NewCluster(withF(house(), f), bad).Cluster
				var others []int64
				for place, id := range good {
					if slices.Contains(group, int64(place)+1) { // what is not sure yet does not become so
						c = after(t, c, asks(id, revoke(2, 2, 1)), asks(id, revoke(2, 4, 1)))
					} else {
						others = append(others, id)
						c = after(t, c, asks(id, revoke(2, 4, 2)))
					}
				}
				got := checkDeed(t, fmt.Sprint(group, " have a code"), c, asksAll(issue(2, 2, 1)), impl.OK)
				if want := wantSigners(got.Shares, issue(2, 2, 1)); !slices.Equal(want, others) || len(got.Shares) != 2*len(others) {
					t.Errorf("%v have a code, and %v signed", group, want)
				}
				for place, r := range c.Replicas {
					behind := got.Replicas[place]
					if slices.Contains(others, r.Id) {
						if behind.Sure != 2 || len(behind.Locks) != 1 {
							t.Errorf("%+v was asked, and is %+v", r, behind)
						}
					} else if !sameReplicas(impl.ReplicaResult{Replica: r}, impl.ReplicaResult{Replica: behind}) {
						t.Errorf("%+v has a code, and is %+v", r, behind)
					}
				}
			}
		}
	}
}

func TestAskAllUpTo120(t *testing.T) { // those who have no room for a share stay as they were
	x := issue(2, 2, 1)
	for count := 113; count <= 120; count++ {
		for saidCount := range 7 {
			c := crowd(count, saidCount)
			got := checkDeed(t, fmt.Sprint(count, " and ", saidCount), c, asksAll(x), impl.OK)
			room := 120 - count
			var signers []int64
			for id := int64(1); id <= 5; id++ {
				need := 1
				if id == 1 {
					need += saidCount
				}
				if need <= room {
					signers, room = append(signers, id), room-need
				} else if !sameReplicas(impl.ReplicaResult{Replica: got.Replicas[id-1]}, impl.ReplicaResult{Replica: c.Replicas[id-1]}) {
					t.Errorf("%d has no room, and is %+v", id, got.Replicas[id-1])
				}
			}
			if list := wantSigners(got.Shares, x); !slices.Equal(list, signers) {
				t.Errorf("%d shares, and %d said: %v signed, not %v", count, saidCount, list, signers)
			}
		}
	}
	c := after(t, crowd(115, 0), asksAll(x))
	if again := checkDeed(t, "all are there", c, asksAll(x), impl.OK); !sameClusters(impl.ClusterResult{Cluster: again}, impl.ClusterResult{Cluster: c}) {
		t.Errorf("%s", textOfCluster(again))
	}
	c = after(t, c, asks(3, next(2, 1)))
	got := checkDeed(t, "one has no room for what it said ahead", c, asksAll(x), impl.OK)
	if got.Replicas[2].Sure != 1 || len(got.Replicas[2].Said) != 2 {
		t.Errorf("%+v", got.Replicas[2])
	}
}

// checkPromise asks what is promised of each cluster that came of a new one.
func checkPromise(t *testing.T, c impl.Cluster) {
	t.Helper()
	if fault := impl.ClusterFault(c); fault != impl.OK {
		t.Fatalf("fault %d: %s", fault, textOfCluster(c))
	}
	f := c.Configs[0].F
	standing := map[impl.Statement]int64{}
	for _, r := range c.Replicas {
		for _, x := range r.Said[:r.Sure] {
			standing[x]++
		}
	}
	for _, s := range c.Shares {
		if impl.IsSigned(c.Shares, f, s.Statement) && standing[s.Statement] <= f {
			t.Fatalf("%+v is signed, and %d stand by it: %s", s.Statement, standing[s.Statement], textOfCluster(c))
		}
		at := slices.IndexFunc(c.Replicas, func(r impl.Replica) bool { return r.Id == s.Replica })
		if at < 0 != slices.Contains(c.Bad, s.Replica) {
			t.Fatalf("a share of %d: %s", s.Replica, textOfCluster(c))
		}
		if at >= 0 && !slices.Contains(c.Replicas[at].Said[:c.Replicas[at].Sure], s.Statement) {
			t.Fatalf("%d does not stand by %+v: %s", s.Replica, s, textOfCluster(c))
		}
	}
}

// checkLasting asks what is promised of one that is asked, synced and crashes.
func checkLasting(t *testing.T, c impl.Cluster, id int64, x impl.Statement) {
	t.Helper()
	synced := impl.SyncCluster(impl.AskCluster(c, id, x).Cluster, id)
	if synced.Code != impl.OK {
		return
	}
	crashed := impl.CrashCluster(synced.Cluster, id, 0).Cluster
	at := slices.IndexFunc(crashed.Replicas, func(r impl.Replica) bool { return r.Id == id })
	if at < 0 || !slices.Contains(crashed.Replicas[at].Said, x) || !slices.Equal(crashed.Shares, synced.Cluster.Shares) {
		t.Fatalf("%d said %+v, and behind the crash: %s", id, x, textOfCluster(crashed))
	}
	for _, s := range crashed.Shares {
		if s.Replica == id && !slices.Contains(crashed.Replicas[at].Said, s.Statement) {
			t.Fatalf("%d signed %+v, and behind the crash: %s", id, s.Statement, textOfCluster(crashed))
		}
	}
}

// word is now and then one that others said, so that enough may sign the same, and a take of what was signed.
func (d *dice) word(w *world) impl.Statement {
	if count := int64(len(w.shares)); count > 0 && d.below(2) == 0 {
		x := w.shares[d.below(count)].Statement
		if x.Kind == impl.SayNext && d.below(2) == 0 {
			return take(x.Epoch, x.Next)
		}
		return x
	}
	switch d.below(8) {
	case 0:
		return next(2, d.below(2)+1)
	case 1:
		return next(3, 3+3*d.below(2))
	case 2:
		return d.statement()
	case 3:
		wrong := wrongStatements()
		return wrong[d.below(int64(len(wrong)))].x
	case 4:
		return next(d.below(3)+2, d.below(8))
	}
	return d.talk()
}

// plain is a word of its own, so that shares become many.
func (d *dice) plain() impl.Statement {
	return revoke(2, d.below(4)+1, d.below(255)+1)
}

func (d *dice) anyId(w *world) int64 {
	if d.below(4) > 0 {
		return w.ids[d.below(int64(len(w.ids)))]
	}
	return d.below(3*w.configs[0].F + 3)
}

// kind is 0 to 4: which of the functions a deed calls.
func (d *dice) anyDeed(w *world, crowded bool) (int64, deed) {
	x := d.word(w)
	if crowded && d.below(3) > 0 {
		x = d.plain()
	}
	switch d.below(12) {
	case 0, 1, 2, 3:
		return 0, asks(d.anyId(w), x)
	case 4, 5, 6:
		return 1, syncs(d.anyId(w))
	case 7:
		return 2, crashes(d.anyId(w), d.below(5)-1)
	case 8, 9:
		replica := d.anyId(w)
		if len(w.bad) > 0 && d.below(3) > 0 {
			replica = w.bad[d.below(int64(len(w.bad)))]
		}
		return 3, forges(replica, x)
	}
	return 4, asksAll(x)
}

func TestLivesOfClusters(t *testing.T) { // P14
	var codes [5]map[int64]int
	for kind := range codes {
		codes[kind] = map[int64]int{}
	}
	signed, taken := 0, 0
	for seed := range int64(90) {
		d := dice(seed + 1300)
		f := seed%2 + 1
		bad := [][]int64{nil, {1}, {3}, {2, 4}, {1, 7}, {5, 6}}[seed%3+3*(f-1)*(seed/6%2)]
		w := newWorld(withF(house(), f), bad...)
		c := impl.NewCluster(w.configs, bad).Cluster
		crowded := seed%5 == 0
		steps := 90
		if crowded {
			steps = 160
		}
		for range steps {
			kind, deed := d.anyDeed(w, crowded)
			before := w.cluster()
			code := deed.work(w)
			got := deed.call(c)
			codes[kind][code]++
			want := impl.ClusterResult{Code: code}
			if code == impl.OK {
				want.Cluster = w.cluster()
			}
			if !sameClusters(got, want) {
				t.Fatalf("%s of %s = %d %s, want %d %s", deed.name, textOfCluster(before), got.Code, textOfCluster(got.Cluster), code, textOfCluster(want.Cluster))
			}
			if code != impl.OK {
				continue
			}
			c = got.Cluster
			checkPromise(t, c)
			checkLasting(t, c, w.ids[d.below(int64(len(w.ids)))], d.word(w))
		}
		for _, s := range c.Shares {
			if w.isSigned(s.Statement) {
				signed++
			}
		}
		for _, r := range c.Replicas {
			taken += len(slices.DeleteFunc(r.Said, func(x impl.Statement) bool { return x.Kind != impl.SayTake }))
		}
	}
	checkCodes(t, "AskCluster", codes[0], impl.OK, impl.ErrForm, impl.ErrRange, impl.ErrNone, impl.ErrTaken, impl.ErrSign, impl.ErrPolicy, impl.ErrOld, impl.ErrState)
	checkCodes(t, "SyncCluster", codes[1], impl.OK, impl.ErrNone, impl.ErrMany)
	checkCodes(t, "CrashCluster", codes[2], impl.OK, impl.ErrNone, impl.ErrRange)
	checkCodes(t, "ForgeCluster", codes[3], impl.OK, impl.ErrForm, impl.ErrRange, impl.ErrSign, impl.ErrMany)
	checkCodes(t, "AskAll", codes[4], impl.OK, impl.ErrRange)
	if signed < 500 || taken < 50 {
		t.Errorf("%d shares of what is signed, %d takes", signed, taken)
	}
}

func TestWhatIsAskedOfAllIsSignedWhereNobodyIsBad(t *testing.T) { // P14
	for f := int64(1); f <= 2; f++ {
		fresh := impl.NewCluster(withF(house(), f), nil).Cluster
		m := newTeller(fresh.Configs)
		signed := 0
		for _, x := range statementsByText() {
			if x.Epoch > 3 || x.Kind == impl.SayRevoke && x.Set%8 != 5 || x.Kind == impl.SayIssue && x.Set > 31 && x.Set%16 != 7 {
				continue
			}
			got := impl.AskAll(fresh, x)
			may := m.code(x) == impl.OK && x.Kind != impl.SayTake
			if got.Code != impl.OK || impl.IsSigned(got.Cluster.Shares, f, x) != may || !may && !sameClusters(got, impl.ClusterResult{Cluster: fresh}) {
				t.Fatalf("%+v asked of all: %d %s", x, got.Code, textOfCluster(got.Cluster))
			}
			if may {
				signed++
				checkPromise(t, got.Cluster)
			}
		}
		if signed < 50 {
			t.Errorf("%d are signed", signed)
		}
	}
}

func TestWhatGoesWithAllThatWasSaidIsSigned(t *testing.T) { // P14
	signed := map[int64]int{}
	for seed := range int64(16) {
		d := dice(seed + 1500)
		f := seed%2 + 1
		w := newWorld(withF(house(), f))
		c := impl.NewCluster(w.configs, nil).Cluster
		for range 60 {
			x := d.word(w)
			going := 0
			for _, id := range w.ids {
				trial := worldOf(w.cluster())
				if trial.ask(id, x) == impl.OK && trial.sync(id) == impl.OK {
					going++
				}
			}
			got := impl.AskAll(c, x)
			room := len(c.Shares) <= 120-40
			if room && going == len(w.ids) && x.Kind != impl.SayTake {
				signed[x.Kind]++
				if !impl.IsSigned(got.Cluster.Shares, f, x) || len(wantSigners(got.Cluster.Shares, x)) != len(w.ids) {
					t.Fatalf("%+v goes with all of %s, and is not signed: %s", x, textOfCluster(c), textOfCluster(got.Cluster))
				}
			}
			_, deed := d.anyDeed(w, false)
			if deed.work(w) == impl.OK {
				c = deed.call(c).Cluster
			}
		}
	}
	checkCodes(t, "by kind", signed, impl.SayIssue, impl.SayRevoke, impl.SayNext)
}

// TestOfTwoThatGoAgainstEachOtherOneAtMostIsSigned lets those who are not bad say the one or the other or nothing, and
// those who are bad both.
func TestOfTwoThatGoAgainstEachOtherOneAtMostIsSigned(t *testing.T) { // P14
	pairs := [][2]impl.Statement{{issue(2, 2, 1), issue(2, 3, 1)}, {next(2, 1), next(2, 2)}}
	for f := int64(1); f <= 2; f++ {
		bad := [][]int64{{4}, {3, 6}}[f-1]
		good := goodOf(f, bad...)
		all := 1
		for range good {
			all *= 3
		}
		for _, pair := range pairs {
			both, one := 0, 0
			for number := range all {
				c := impl.NewCluster(withF(house(), f), bad).Cluster
				for _, id := range bad {
					c = impl.ForgeCluster(impl.ForgeCluster(c, share(id, pair[0])).Cluster, share(id, pair[1])).Cluster
				}
				left := number
				for _, id := range good {
					if left%3 < 2 {
						c = impl.SyncCluster(impl.AskCluster(c, id, pair[left%3]).Cluster, id).Cluster
						if code := impl.AskCluster(c, id, pair[1-left%3]).Code; code != impl.ErrTaken {
							t.Fatalf("%d says both %v: %d", id, pair, code)
						}
					}
					left /= 3
				}
				checkPromise(t, c)
				a, b := impl.IsSigned(c.Shares, f, pair[0]), impl.IsSigned(c.Shares, f, pair[1])
				if a && b {
					both++
				} else if a || b {
					one++
				}
			}
			if both != 0 || one == 0 {
				t.Errorf("F %d, %v: both are signed %d times, one %d times", f, pair, both, one)
			}
		}
	}
}

func TestExampleOfTwoFormsOfAClass(t *testing.T) { // three of four signed that 1 has a form: no other one of its class is signed for 1
	c := after(t, impl.NewCluster(house(), []int64{4}).Cluster, asks(1, issue(2, 2, 1)), asks(2, issue(2, 2, 1)), syncs(1), syncs(2), forges(4, issue(2, 2, 1)))
	if !impl.IsSigned(c.Shares, 1, issue(2, 2, 1)) {
		t.Errorf("%s", textOfCluster(c))
	}
	for _, set := range []int64{1, 3, 5, 7} {
		x := issue(2, 3, set)
		got := after(t, c, forges(4, x), asksAll(x))
		if impl.IsSigned(got.Shares, 1, x) || !slices.Equal(wantSigners(got.Shares, x), []int64{3, 4}) {
			t.Errorf("%+v: %s", x, textOfCluster(got))
		}
	}
}

type clusterCase struct {
	c    impl.Cluster
	id   int64
	kept int64
	x    impl.Statement
}

// twinned has lists that are handed in twice, which no answer may hand out twice.
func twinned() impl.Cluster {
	configs := house()
	configs[1].Rules, configs[1].Classes = configs[0].Rules, configs[0].Classes
	configs[4].Forms = configs[0].Forms
	configs[0].Forms[1].Parts = configs[0].Forms[0].Parts
	c := impl.NewCluster(configs, nil).Cluster
	c.Configs = configs
	list := said(issue(2, 3, 6), revoke(2, 4, 1), next(2, 1))
	m := tellerOf(configs, list...)
	for place := range c.Replicas {
		c.Replicas[place].Said, c.Replicas[place].Locks, c.Replicas[place].Sure = list, m.locks, 2
	}
	return c
}

// clustersToKeep has no fault in most of them, and each code in some.
func clustersToKeep(t *testing.T) []clusterCase {
	t.Helper()
	var clusters []impl.Cluster
	for f := int64(1); f <= 2; f++ {
		clusters = append(clusters, township(t, f), impl.NewCluster(withF(house(), f), nil).Cluster)
	}
	clusters = append(clusters, crowd(120, 3), crowd(118, 2), twinned(), impl.Cluster{})
	for _, flaw := range clusterFlaws() {
		clusters = append(clusters, turnedCluster(clusters[2], flaw.turn))
	}
	var all []clusterCase
	for _, c := range clusters {
		for i, x := range said(issue(2, 2, 1), revoke(2, 1, 9), next(2, 2), take(2, 1), take(2, 2), issue(2, 3, 1), issue(3, 1, 2), issue(5, 5, 5), impl.Statement{}) {
			all = append(all, clusterCase{c, []int64{1, 2, 3, 6, 0}[i%5], int64(i%3) - 1 + int64(i/7), x})
		}
	}
	return all
}

func (k clusterCase) copied() clusterCase {
	return clusterCase{copyCluster(k.c), k.id, k.kept, k.x}
}

func (k clusterCase) results() []impl.ClusterResult {
	return []impl.ClusterResult{
		impl.NewCluster(k.c.Configs, k.c.Bad), impl.AskCluster(k.c, k.id, k.x), impl.SyncCluster(k.c, k.id), impl.CrashCluster(k.c, k.id, k.kept),
		impl.ForgeCluster(k.c, share(k.id, k.x)), impl.AskAll(k.c, k.x),
	}
}

func (k clusterCase) answers() string {
	return fmt.Sprint(impl.ClusterFault(k.c), k.results())
}

// whole tells all that is in the memory of what is handed in, also behind the ends of lists.
func (k clusterCase) whole() string {
	text := wholeConfigs(k.c.Configs) + fmt.Sprint(len(k.c.Bad), k.c.Bad[:cap(k.c.Bad)], len(k.c.Replicas), len(k.c.Shares), k.c.Shares[:cap(k.c.Shares)])
	for _, r := range k.c.Replicas[:cap(k.c.Replicas)] {
		text += wholeReplica(r)
	}
	return text
}

// clusterLists are all lists of clusters, by what is in them.
type clusterLists struct {
	configs  [][]impl.Config
	rules    [][]impl.Rule
	forms    [][]impl.Form
	parts    [][]impl.Part
	numbers  [][]int64
	replicas [][]impl.Replica
	said     [][]impl.Statement
	locks    [][]impl.Lock
	shares   [][]impl.Share
}

func (l *clusterLists) add(c impl.Cluster) {
	l.configs, l.numbers = append(l.configs, c.Configs), append(l.numbers, c.Bad)
	l.replicas, l.shares = append(l.replicas, c.Replicas), append(l.shares, c.Shares)
	for _, config := range c.Configs {
		l.rules, l.forms, l.numbers = append(l.rules, config.Rules), append(l.forms, config.Forms), append(l.numbers, config.Classes)
		for _, form := range config.Forms {
			l.parts = append(l.parts, form.Parts)
		}
	}
	for _, r := range c.Replicas {
		l.said, l.locks = append(l.said, r.Said), append(l.locks, r.Locks)
	}
}

// haveOwnMemory holds the places of all elements against each other, also of those behind the ends.
func haveOwnMemory[T any](lists [][]T) bool {
	there := map[*T]bool{}
	for _, list := range lists {
		list = list[:cap(list)]
		for i := range list {
			if there[&list[i]] {
				return false
			}
			there[&list[i]] = true
		}
	}
	return true
}

func (l *clusterLists) haveOwnMemory() bool {
	return haveOwnMemory(l.configs) && haveOwnMemory(l.rules) && haveOwnMemory(l.forms) && haveOwnMemory(l.parts) && haveOwnMemory(l.numbers) &&
		haveOwnMemory(l.replicas) && haveOwnMemory(l.said) && haveOwnMemory(l.locks) && haveOwnMemory(l.shares)
}

func TestClustersToKeepHaveEachCode(t *testing.T) {
	var codes [6]map[int64]int
	for number := range codes {
		codes[number] = map[int64]int{}
	}
	for _, k := range clustersToKeep(t) {
		for number, result := range k.results() {
			codes[number][result.Code]++
		}
	}
	for number, wanted := range [6][]int64{
		{impl.OK, impl.ErrMany, impl.ErrRange, impl.ErrForm}, {impl.OK, impl.ErrNone, impl.ErrForm, impl.ErrSign, impl.ErrTaken, impl.ErrState, impl.ErrRange},
		{impl.OK, impl.ErrNone, impl.ErrMany, impl.ErrSign}, {impl.OK, impl.ErrNone, impl.ErrRange}, {impl.OK, impl.ErrSign, impl.ErrRange, impl.ErrForm},
		{impl.OK, impl.ErrForm, impl.ErrRange, impl.ErrState},
	} {
		for _, code := range wanted {
			if codes[number][code] == 0 {
				t.Errorf("function %d never tells %d: %v", number, code, codes[number])
			}
		}
	}
}

func TestClustersHandedInAreUnchanged(t *testing.T) { // P1
	for _, k := range clustersToKeep(t) {
		for _, given := range []clusterCase{k, k.copied()} {
			before := given.whole()
			given.answers()
			if behind := given.whole(); behind != before {
				t.Fatalf("%.900s was changed to %.900s", before, behind)
			}
		}
	}
}

func TestSameClustersSameAnswers(t *testing.T) { // P1: nothing is kept from call to call
	var first []string
	for _, k := range clustersToKeep(t) {
		first = append(first, k.answers())
	}
	for i, k := range slices.Backward(clustersToKeep(t)) {
		for range 2 {
			if again := k.copied().answers(); again != first[i] {
				t.Fatalf("%s: first %.600s, then %.600s", textOfCluster(k.c), first[i], again)
			}
		}
	}
}

func TestClustersShareNoMemory(t *testing.T) { // P1
	for _, k := range clustersToKeep(t) {
		for number, result := range k.results() {
			var own clusterLists
			own.add(result.Cluster)
			if !own.haveOwnMemory() {
				t.Fatalf("lists of answer %d of %s share memory", number, textOfCluster(k.c))
			}
		}
		given := k.copied()
		var all clusterLists
		all.add(given.c)
		for _, result := range append(given.results(), given.results()...) {
			all.add(result.Cluster)
		}
		if !all.haveOwnMemory() {
			t.Fatalf("answers of %s share memory, or an answer and what was handed in", textOfCluster(k.c))
		}
	}
}

func TestAnswersOfClustersStayBehindWhatIsHandedIn(t *testing.T) { // P1
	for _, k := range clustersToKeep(t) {
		given := k.copied()
		results := given.results()
		want := fmt.Sprint(results)
		for _, r := range given.c.Replicas {
			spoil(r.Said, impl.Statement{Kind: -7})
			spoil(r.Locks, impl.Lock{Form: -7})
		}
		spoil(given.c.Replicas, impl.Replica{Id: -7})
		spoil(given.c.Bad, -7)
		spoil(given.c.Shares, share(-7, impl.Statement{}))
		for _, config := range given.c.Configs {
			for _, form := range config.Forms {
				spoil(form.Parts, impl.Part{Kind: -7})
			}
		}
		replicaCase{configs: given.c.Configs}.spoil()
		if got := fmt.Sprint(results); got != want {
			t.Fatalf("what was answered for %s changes with what was handed in", textOfCluster(k.c))
		}
	}
}

func TestEmptyListsOfClustersAreTheSameAsNil(t *testing.T) { // P1
	for f := int64(1); f <= 2; f++ {
		none := impl.Cluster{Configs: stair(f, 2, 3)}
		empty := impl.Cluster{Configs: stair(f, 2, 3), Bad: []int64{}, Shares: []impl.Share{}}
		for place := range empty.Configs {
			empty.Configs[place].Rules, empty.Configs[place].Forms, empty.Configs[place].Classes = []impl.Rule{}, []impl.Form{}, []int64{}
		}
		for id := range 3*f + 1 {
			none.Replicas = append(none.Replicas, impl.Replica{Id: id + 1})
			empty.Replicas = append(empty.Replicas, impl.Replica{Id: id + 1, Said: []impl.Statement{}, Locks: []impl.Lock{}})
		}
		for _, x := range said(revoke(2, 1, 1), next(2, 1), take(2, 1), issue(2, 1, 1), impl.Statement{}) {
			for id := int64(0); id <= 2; id++ {
				a, b := clusterCase{none, id, 0, x}, clusterCase{empty, id, 0, x}
				if a.answers() != b.answers() {
					t.Errorf("%s and %s", a.answers(), b.answers())
				}
				if !sameClusters(a.results()[0], impl.ClusterResult{Cluster: none}) {
					t.Errorf("%+v", a.results()[0])
				}
			}
		}
	}
	a, b := clusterCase{impl.Cluster{}, 1, 0, next(2, 1)}, clusterCase{impl.Cluster{Configs: []impl.Config{}, Bad: []int64{}, Replicas: []impl.Replica{}, Shares: []impl.Share{}}, 1, 0, next(2, 1)}
	if a.answers() != b.answers() {
		t.Errorf("%s and %s", a.answers(), b.answers())
	}
}

func TestAnswersOfClustersBesideACodeAreZero(t *testing.T) { // P1
	codes := map[int64]int{}
	for _, k := range clustersToKeep(t) {
		for number, result := range k.results() {
			codes[result.Code]++
			if result.Code != impl.OK && !sameClusters(result, impl.ClusterResult{Code: result.Code}) {
				t.Errorf("answer %d of %s: %+v", number, textOfCluster(k.c), result)
			}
		}
	}
	checkCodes(t, "a call", codes, impl.OK, impl.ErrForm, impl.ErrMany, impl.ErrRange, impl.ErrNone, impl.ErrTaken, impl.ErrSign, impl.ErrState)
}
