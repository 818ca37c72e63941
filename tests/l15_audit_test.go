package tests

import (
	"fmt"
	"slices"
	"testing"

	"loop.example/g00338/impl"
)

// verdicts are SodRight, ForkRight, PolicyRight and StoodRight.
type verdicts [4]bool

func verdictsOf(c impl.Cluster) verdicts {
	return verdicts{impl.SodRight(c), impl.ForkRight(c), impl.PolicyRight(c), impl.StoodRight(c)}
}

var allRight = verdicts{true, true, true, true}

// audited is what the tests work out of a cluster, once for all that is asked of it.
type audited struct {
	c        impl.Cluster
	fault    int64
	signed   []impl.Statement
	standing map[impl.Statement]int64
	reach    []int64
}

func auditedOf(c impl.Cluster) audited {
	a := audited{c: c, fault: wantClusterFault(c), standing: map[impl.Statement]int64{}}
	if a.fault != impl.OK {
		return a
	}
	a.signed, a.reach = wantSigned(c), wantReach(c.Configs, c.Shares).List
	for _, r := range c.Replicas {
		for place, x := range r.Said {
			if int64(place) < r.Sure {
				a.standing[x]++
			}
		}
	}
	return a
}

// wantSigned tells who signed what by maps, and sorts by first shares only then; the cluster has no fault.
func wantSigned(c impl.Cluster) []impl.Statement {
	first, signers := map[impl.Statement]int{}, map[impl.Statement]map[int64]bool{}
	for place, s := range slices.Backward(c.Shares) {
		if signers[s.Statement] == nil {
			signers[s.Statement] = map[int64]bool{}
		}
		first[s.Statement], signers[s.Statement][s.Replica] = place, true
	}
	var list []impl.Statement
	for x, who := range signers {
		if len(who) >= map[int64]int{1: 3, 2: 5}[c.Configs[0].F] {
			list = append(list, x)
		}
	}
	slices.SortFunc(list, func(x impl.Statement, y impl.Statement) int { return first[x] - first[y] })
	return list
}

func (a audited) signedOf() impl.SaidResult {
	return impl.SaidResult{Code: a.fault, Said: a.signed}
}

func (a audited) stoodBy(x impl.Statement) impl.IntResult {
	for _, fault := range []int64{a.fault, wantStatementFault(x)} {
		if fault != impl.OK {
			return impl.IntResult{Code: fault}
		}
	}
	return impl.IntResult{Value: a.standing[x]}
}

// configIn goes by the first epoch: each place behind the first one leads one epoch on.
func (a audited) configIn(epoch int64) impl.IntResult {
	if a.fault != impl.OK {
		return impl.IntResult{Code: a.fault}
	}
	for step, place := range a.reach {
		if a.c.Configs[0].Epoch+int64(step) == epoch {
			return impl.IntResult{Value: place}
		}
	}
	return impl.IntResult{Code: impl.ErrNone}
}

// sod has what each principal has in each class of an epoch; a step of an epoch that is reached clashes as well.
func (a audited) sod() bool {
	had, steps := map[[3]int64]int64{}, map[int64]int64{}
	for _, x := range a.signed {
		at := a.configIn(x.Epoch)
		if at.Code != impl.OK {
			continue
		}
		if other, there := steps[x.Epoch]; x.Kind == impl.SayNext && there && other != x.Next {
			return false
		}
		if x.Kind == impl.SayNext {
			steps[x.Epoch] = x.Next
		}
		if x.Kind != impl.SayIssue {
			continue
		}
		for class, forms := range a.c.Configs[at.Value].Classes {
			for _, principal := range listOfSet(int(x.Set)) {
				key := [3]int64{x.Epoch, int64(class), principal}
				if other, there := had[key]; there && other != x.Form && slices.Contains(formsOfClass(forms), x.Form) {
					return false
				}
				if slices.Contains(formsOfClass(forms), x.Form) {
					had[key] = x.Form
				}
			}
		}
	}
	return true
}

func (a audited) fork() bool {
	steps := map[int64]map[int64]bool{}
	for _, x := range a.signed {
		if x.Kind != impl.SayNext {
			continue
		}
		if steps[x.Epoch] == nil {
			steps[x.Epoch] = map[int64]bool{}
		}
		steps[x.Epoch][x.Next] = true
		if len(steps[x.Epoch]) > 1 {
			return false
		}
	}
	return true
}

func (a audited) verdicts() verdicts {
	if a.fault != impl.OK {
		return verdicts{}
	}
	policy, stood := true, true
	for _, x := range a.signed {
		if at := a.configIn(x.Epoch); x.Kind == impl.SayIssue && (at.Code != impl.OK || !wantAllowed(a.c.Configs[at.Value], x.Form, x.Set)) {
			policy = false
		}
		stood = stood && a.standing[x] > a.c.Configs[0].F
	}
	return verdicts{a.sod(), a.fork(), policy, stood}
}

// askedOf are statements to ask of: all that were said or signed, some that were not, and some that have a fault.
func askedOf(c impl.Cluster) []impl.Statement {
	list := said(issue(2, 2, 1), issue(2, 2, 3), revoke(2, 2, 1), next(2, 1), take(2, 1), next(9, 7), issue(0, 1, 1), issue(2, 2, 0), impl.Statement{}, impl.Statement{Kind: 5})
	there := map[impl.Statement]bool{}
	for _, x := range list {
		there[x] = true
	}
	add := func(x impl.Statement) {
		if !there[x] {
			list, there[x] = append(list, x), true
		}
	}
	for _, r := range c.Replicas {
		for _, x := range r.Said[:min(len(r.Said), 41)] {
			add(x)
		}
	}
	for _, s := range c.Shares[:min(len(c.Shares), 121)] {
		add(s.Statement)
	}
	return list
}

// check holds all that is told of the cluster against what is worked out.
func (a audited) check(t *testing.T, name string, asked ...impl.Statement) {
	t.Helper()
	if got, want := impl.SignedOf(a.c), a.signedOf(); !sameSaid(got, want) {
		t.Errorf("%s: SignedOf(%s) = %+v, want %+v", name, textOfCluster(a.c), got, want)
	}
	for _, x := range asked {
		if got, want := impl.StoodBy(a.c, x), a.stoodBy(x); got != want {
			t.Errorf("%s: StoodBy(%s, %+v) = %+v, want %+v", name, textOfCluster(a.c), x, got, want)
		}
	}
	for epoch := int64(-1); epoch <= 11; epoch++ {
		if got, want := impl.ConfigIn(a.c, epoch), a.configIn(epoch); got != want {
			t.Errorf("%s: ConfigIn(%s, %d) = %+v, want %+v", name, textOfCluster(a.c), epoch, got, want)
		}
	}
	want := verdicts{}
	if a.fault == impl.OK {
		want = allRight
	}
	if got, worked := verdictsOf(a.c), a.verdicts(); got != worked || got != want {
		t.Errorf("%s: the rights of %s are %v, and worked out as %v", name, textOfCluster(a.c), got, worked)
	}
}

// checkAudit is asked of clusters without a fault: all is right there.
func checkAudit(t *testing.T, name string, c impl.Cluster) {
	t.Helper()
	a := auditedOf(c)
	if a.fault != impl.OK {
		t.Fatalf("%s: %s has fault %d", name, textOfCluster(c), a.fault)
	}
	a.check(t, name, askedOf(c)...)
}

// checkUnaudited asks that the fault of a cluster is told ahead of all else.
func checkUnaudited(t *testing.T, name string, c impl.Cluster, code int64) {
	t.Helper()
	a := auditedOf(c)
	if a.fault != code || code == impl.OK {
		t.Errorf("%s: the fault of %s is worked out as %d, not %d", name, textOfCluster(c), a.fault, code)
	}
	a.check(t, name, askedOf(impl.Cluster{})...)
	for _, epoch := range noEpochs {
		if got := impl.ConfigIn(c, epoch); got != (impl.IntResult{Code: code}) {
			t.Errorf("%s: ConfigIn(%s, %d) = %+v, want code %d", name, textOfCluster(c), epoch, got, code)
		}
	}
}

func TestExampleOfAnAudit(t *testing.T) {
	c := after(t, impl.NewCluster(house(), []int64{4}).Cluster, asksAll(issue(2, 2, 1)), asksAll(issue(2, 3, 1)))
	if got := impl.SignedOf(c); !sameSaid(got, impl.SaidResult{Said: said(issue(2, 2, 1))}) {
		t.Errorf("%+v", got)
	}
	if got := impl.StoodBy(c, issue(2, 2, 1)); got != (impl.IntResult{Value: 3}) {
		t.Errorf("%+v", got)
	}
	if got := impl.ConfigIn(c, 2); got != (impl.IntResult{}) {
		t.Errorf("%+v", got)
	}
	if got := impl.ConfigIn(c, 3); got != (impl.IntResult{Code: impl.ErrNone}) {
		t.Errorf("%+v", got)
	}
	checkAudit(t, "the example", c)
}

func TestAuditsOfFaults(t *testing.T) { // the ClusterFault is ahead of all else, in each of its kinds and in its order
	base := township(t, 2)
	checkAudit(t, "the township", base)
	flaws := clusterFlaws()
	for i, one := range flaws {
		checkUnaudited(t, one.name, turnedCluster(base, one.turn), one.code)
		for _, two := range flaws[i+1:] {
			c := copyCluster(base)
			two.turn(&c) // the other way about there may be no list left to turn
			one.turn(&c)
			checkUnaudited(t, one.name+", and "+two.name, c, one.code)
		}
	}
	checkUnaudited(t, "nothing", impl.Cluster{}, impl.ErrMany)
}

func TestAuditsOfFaultsByTheirKinds(t *testing.T) {
	codes := map[int64]int{}
	for f := int64(1); f <= 2; f++ {
		base := township(t, f)
		check := func(name string, code int64, turn func(*impl.Cluster)) {
			t.Helper()
			checkUnaudited(t, name, turnedCluster(base, turn), code)
			codes[code]++
		}
		for _, k := range badCases(f) {
			check(k.name, k.code, func(c *impl.Cluster) { c.Bad = k.bad })
		}
		for _, k := range wrongConfigs() {
			check(k.name, wantConfigsFault([]impl.Config{k.config}), func(c *impl.Cluster) { c.Configs = []impl.Config{k.config} })
		}
		for code, turns := range replicaTurns() {
			for _, turn := range turns {
				check("a replica", code, func(c *impl.Cluster) { turn(&c.Replicas[f]) })
			}
		}
		for _, k := range wrongStatements() {
			check(k.name, k.want, func(c *impl.Cluster) { c.Shares = append(c.Shares, share(c.Bad[0], k.x)) })
		}
		check("no replicas", impl.ErrForm, func(c *impl.Cluster) { c.Replicas = nil })
		check("a bad one among the replicas", impl.ErrForm, func(c *impl.Cluster) { c.Replicas[0].Id = c.Bad[0] })
		check("121 shares", impl.ErrMany, func(c *impl.Cluster) { c.Shares = distinctShares(121) })
		check("a share that nobody stands by", impl.ErrSign, func(c *impl.Cluster) { c.Shares = append(c.Shares, share(c.Replicas[0].Id, issue(2, 1, 1))) })
		check("a take unseen", impl.ErrSign, func(c *impl.Cluster) { c.Replicas[2].Said = append(c.Replicas[2].Said, take(2, 2)) })
		check("a share of a take", impl.ErrForm, func(c *impl.Cluster) { c.Shares = append(c.Shares, share(c.Bad[0], take(2, 1))) })
		check("a share twice", impl.ErrTaken, func(c *impl.Cluster) { c.Shares = append(c.Shares, c.Shares[1]) })
	}
	checkCodes(t, "a fault", codes, impl.ErrForm, impl.ErrMany, impl.ErrRange, impl.ErrState)
}

// signs lets a member say x, be sure of it and sign it; who is bad just signs.
func signs(c impl.Cluster, id int64, x impl.Statement) []deed {
	if slices.Contains(c.Bad, id) {
		return []deed{forges(id, x)}
	}
	return []deed{asks(id, x), syncs(id)}
}

// done is what deeds without a code make of a cluster; that they do it rightly is asked of layer 13.
func done(t *testing.T, c impl.Cluster, deeds ...deed) impl.Cluster {
	t.Helper()
	for _, d := range deeds {
		result := d.call(c)
		if result.Code != impl.OK {
			t.Fatalf("%s of %s has code %d", d.name, textOfCluster(c), result.Code)
		}
		c = result.Cluster
	}
	return c
}

// badOnes are those who are bad, by f: nobody, the first ones, others, the last ones.
func badOnes(f int64) [][]int64 {
	if f == 1 {
		return [][]int64{nil, {1}, {3}, {4}}
	}
	return [][]int64{nil, {4}, {1, 2}, {3, 5}, {6, 7}}
}

func TestSignedOfByEnough(t *testing.T) { // just from 2 times F and 1 on, whoever they are and in whatever order they sign
	for f := int64(1); f <= 2; f++ {
		for _, bad := range badOnes(f) {
			fresh := impl.NewCluster(withF(house(), f), bad).Cluster
			checkAudit(t, "no shares", fresh)
			if got := impl.SignedOf(fresh); got.Code != impl.OK || len(got.Said) != 0 {
				t.Errorf("no shares: %+v", got)
			}
			for by := range 3*f + 1 {
				c := fresh
				for count, id := range turned(listOfSet(1<<(3*f+1)-1), int(by)) {
					c = done(t, c, signs(c, id, issue(2, 2, 1))...)
					var want []impl.Statement
					if int64(count) >= 2*f {
						want = said(issue(2, 2, 1))
					}
					if got := impl.SignedOf(c); !sameSaid(got, impl.SaidResult{Said: want}) {
						t.Errorf("bad %v, signed by %d from %d on: %+v, want %+v", bad, count+1, by, got, want)
					}
					checkAudit(t, fmt.Sprint("signed by ", count+1), c)
				}
			}
		}
	}
}

func TestSignedOfByGroups(t *testing.T) { // be those who signed bad or not
	for f := int64(1); f <= 2; f++ {
		for _, bad := range badOnes(f) {
			fresh := impl.NewCluster(withF(house(), f), bad).Cluster
			for _, group := range groupsOf(3*f + 1) {
				c := fresh
				good := int64(0)
				for _, id := range group {
					if !slices.Contains(bad, id) {
						good++
					}
					for _, d := range signs(c, id, revoke(2, 4, 9)) {
						c = d.call(c).Cluster
					}
				}
				isSigned := len(impl.SignedOf(c).Said) == 1
				if isSigned != (int64(len(group)) > 2*f) || isSigned && good <= f {
					t.Errorf("bad %v, signed by %v: %+v", bad, group, impl.SignedOf(c))
				}
				if got := impl.StoodBy(c, revoke(2, 4, 9)); got != (impl.IntResult{Value: good}) {
					t.Errorf("bad %v, signed by %v: StoodBy %+v", bad, group, got)
				}
				checkAudit(t, fmt.Sprint("signed by ", group), c)
			}
		}
	}
}

func TestSignedOfInTheOrderOfFirstShares(t *testing.T) {
	a, b, x := issue(2, 2, 1), revoke(2, 4, 9), next(2, 1)
	for f := int64(1); f <= 2; f++ {
		for _, bad := range badOnes(f) {
			good := goodOf(f, bad...)
			c := impl.NewCluster(withF(house(), f), bad).Cluster
			c = done(t, c, asks(good[0], a), syncs(good[0]), asksAll(b), asks(good[1], x), syncs(good[1]))
			if int64(len(good)) <= 2*f {
				t.Fatalf("bad %v: too few are left", bad)
			}
			if got := impl.SignedOf(c); !sameSaid(got, impl.SaidResult{Said: said(b)}) {
				t.Errorf("bad %v, b alone: %+v", bad, got)
			}
			c = done(t, c, asks(good[2], x), syncs(good[2]))
			for _, id := range good[3:] {
				c = done(t, c, asks(id, a), syncs(id), asks(id, x), syncs(id))
			}
			for _, id := range bad {
				c = done(t, c, forges(id, x), forges(id, a))
			}
			checkAudit(t, "some", c)
			c = done(t, impl.NewCluster(withF(house(), f), bad).Cluster, asks(good[0], a), syncs(good[0]), asksAll(b), asks(good[0], x), syncs(good[0]), asksAll(a), asksAll(x))
			if got := impl.SignedOf(c); !sameSaid(got, impl.SaidResult{Said: said(a, b, x)}) {
				t.Errorf("bad %v, b was signed first: %+v", bad, got)
			}
			checkAudit(t, "all", c)
			for by := range len(c.Shares) { // shares may stand in any order
				for _, list := range [][]impl.Share{slices.Concat(c.Shares[by:], c.Shares[:by]), slices.Concat(c.Shares[by:by+1], c.Shares[:by], c.Shares[by+1:])} {
					moved := copyCluster(c)
					moved.Shares = list
					checkAudit(t, fmt.Sprint("turned by ", by), moved)
					if got := impl.SignedOf(moved); len(got.Said) != 3 || got.Said[0] != list[0].Statement {
						t.Errorf("bad %v, turned by %d: %+v", bad, by, got)
					}
				}
			}
		}
	}
}

func TestSignedOfEachOnce(t *testing.T) { // as many as there is room for, by as many as have to sign and by more
	for f := int64(1); f <= 2; f++ {
		for signers := 2 * f; signers <= 3*f+1; signers++ {
			count := min(40, 120/signers)
			c := impl.NewCluster(withF(house(), f), nil).Cluster
			list := revokes(int(count))
			for place := range c.Replicas {
				c.Replicas[place].Said, c.Replicas[place].Sure = list, count
			}
			for by := range int(count) {
				c.Shares = append(c.Shares, sharesOf(list[(by*7+3)%int(count)], turned(listOfSet(1<<signers-1), by)...)...)
			}
			if count%7 == 0 || len(c.Shares) > 120 {
				t.Fatalf("%d statements, %d shares", count, len(c.Shares))
			}
			checkAudit(t, fmt.Sprint("by ", signers), c)
			want := int(count)
			if signers == 2*f {
				want = 0
			}
			if got := impl.SignedOf(c); got.Code != impl.OK || len(got.Said) != want {
				t.Errorf("F %d, %d by %d each: %d are signed", f, count, signers, len(got.Said))
			}
			for _, one := range []bool{true, false} { // one share of each, then the others; the same backward
				apart := copyCluster(c)
				slices.SortStableFunc(apart.Shares, func(a impl.Share, b impl.Share) int {
					if one {
						return int(a.Replica - b.Replica)
					}
					return int(b.Replica - a.Replica)
				})
				checkAudit(t, "apart", apart)
			}
		}
	}
}

func TestSignedOfWithoutShares(t *testing.T) { // what all are sure of is not signed where there are no shares of it
	for f := int64(1); f <= 2; f++ {
		for _, bad := range badOnes(f) {
			good := goodOf(f, bad...)
			c := impl.NewCluster(withF(house(), f), bad).Cluster
			for _, id := range good {
				c = done(t, c, asks(id, issue(2, 2, 1)), crashes(id, 1))
			}
			if got := impl.SignedOf(c); got.Code != impl.OK || len(got.Said) != 0 {
				t.Errorf("bad %v: %+v", bad, got)
			}
			if got := impl.StoodBy(c, issue(2, 2, 1)); got != (impl.IntResult{Value: int64(len(good))}) {
				t.Errorf("bad %v: %+v", bad, got)
			}
			checkAudit(t, "all are sure", c)
			c = done(t, c, syncs(good[0]))
			checkAudit(t, "one signed", c)
			for _, id := range good[1:] {
				c = done(t, c, syncs(id))
			}
			if got := impl.SignedOf(c); !sameSaid(got, impl.SaidResult{Said: said(issue(2, 2, 1))}) {
				t.Errorf("bad %v: %+v", bad, got)
			}
		}
	}
}

func TestStoodByOfNoStatement(t *testing.T) {
	for f := int64(1); f <= 2; f++ {
		for _, c := range []impl.Cluster{township(t, f), impl.NewCluster(withF(house(), f), nil).Cluster} {
			for _, k := range wrongStatements() {
				if got := impl.StoodBy(c, k.x); got != (impl.IntResult{Code: k.want}) {
					t.Errorf("%s: StoodBy %+v = %+v, want code %d", k.name, k.x, got, k.want)
				}
			}
		}
	}
}

func TestStoodByGroups(t *testing.T) { // just those who are sure, by what they said and not by what is signed
	for f := int64(1); f <= 2; f++ {
		for _, bad := range badOnes(f) {
			good := goodOf(f, bad...)
			fresh := impl.NewCluster(withF(house(), f), bad).Cluster
			for _, x := range said(issue(2, 2, 1), revoke(2, 4, 9), next(2, 1)) {
				asked := fresh
				for _, id := range good {
					asked = impl.AskCluster(asked, id, x).Cluster
				}
				for _, id := range bad {
					asked = impl.ForgeCluster(asked, share(id, x)).Cluster
				}
				for _, group := range groupsOf(int64(len(good))) {
					synced, crashed := asked, asked
					for _, place := range group {
						synced = impl.SyncCluster(synced, good[place-1]).Cluster
						crashed = impl.CrashCluster(crashed, good[place-1], 1).Cluster
					}
					for _, c := range []impl.Cluster{synced, crashed} {
						if got := impl.StoodBy(c, x); got != (impl.IntResult{Value: int64(len(group))}) {
							t.Errorf("bad %v, %+v is sure with %v: %+v", bad, x, group, got)
						}
						checkAudit(t, "a group", c)
					}
				}
			}
		}
	}
}

func TestStoodByAtEachPlace(t *testing.T) { // of the first Sure, the last one is among them and the one behind is not
	list := said(issue(2, 2, 1), revoke(2, 4, 9), issue(2, 3, 6), revoke(2, 1, 1), next(2, 1))
	for f := int64(1); f <= 2; f++ {
		c := impl.NewCluster(withF(house(), f), nil).Cluster
		m := tellerOf(c.Configs, list...)
		for shift := range 6 {
			for place := range c.Replicas {
				c.Replicas[place] = m.replica(int64(place)+1, int64((place+shift)%6))
			}
			for at, x := range list {
				want := int64(0)
				for _, r := range c.Replicas {
					if r.Sure >= int64(at)+1 {
						want++
					}
				}
				if got := impl.StoodBy(c, x); got != (impl.IntResult{Value: want}) {
					t.Errorf("shift %d, %+v: %+v, want %d", shift, x, got, want)
				}
			}
			checkAudit(t, "at each place", c)
		}
	}
}

func TestStoodByOfTakes(t *testing.T) { // nobody signs one, and those who are sure of it stand by it
	for f := int64(1); f <= 2; f++ {
		for _, bad := range badOnes(f) {
			good := goodOf(f, bad...)
			c := done(t, impl.NewCluster(withF(house(), f), bad).Cluster, asksAll(next(2, 1)))
			for count, id := range good {
				c = done(t, c, asks(id, take(2, 1)))
				if got := impl.StoodBy(c, take(2, 1)); got != (impl.IntResult{Value: int64(count)}) {
					t.Errorf("bad %v, %d are sure of the take: %+v", bad, count, got)
				}
				c = done(t, c, syncs(id))
			}
			if got := impl.StoodBy(c, take(2, 1)); got != (impl.IntResult{Value: int64(len(good))}) {
				t.Errorf("bad %v, all are sure of the take: %+v", bad, got)
			}
			if got := impl.SignedOf(c); !sameSaid(got, impl.SaidResult{Said: said(next(2, 1))}) {
				t.Errorf("bad %v: %+v", bad, got)
			}
			checkAudit(t, "takes", c)
		}
	}
}

func TestStoodByOneNumberAway(t *testing.T) {
	for f := int64(1); f <= 2; f++ {
		c := township(t, f)
		standing := auditedOf(c).standing
		for x := range standing {
			for place := range numbersOfStatement(&x) {
				for _, by := range []int64{-1, 1, 1 << 40} {
					y := x
					*numbersOfStatement(&y)[place] += by
					want := impl.IntResult{Code: wantStatementFault(y), Value: standing[y]}
					if got := impl.StoodBy(c, y); got != want {
						t.Errorf("StoodBy %+v = %+v, want %+v", y, got, want)
					}
				}
			}
		}
	}
}

// wantPlaces asks ConfigIn for all epochs: places has those that are reached, all others have none.
func wantPlaces(t *testing.T, name string, c impl.Cluster, places map[int64]int64) {
	t.Helper()
	epochs := slices.Concat(noEpochs, []int64{1, 2, 3, 4, 5, 6, 7, 8, 9})
	for _, epoch := range epochs {
		want := impl.IntResult{Code: impl.ErrNone}
		if place, there := places[epoch]; there {
			want = impl.IntResult{Value: place}
		}
		if got := impl.ConfigIn(c, epoch); got != want {
			t.Errorf("%s: ConfigIn %d of %s = %+v, want %+v", name, epoch, textOfCluster(c), got, want)
		}
	}
	checkAudit(t, name, c)
}

func TestConfigInByHand(t *testing.T) {
	for f := int64(1); f <= 2; f++ {
		for _, bad := range badOnes(f) {
			good := goodOf(f, bad...)
			fresh := impl.NewCluster(withF(house(), f), bad).Cluster
			wantPlaces(t, "a new one", fresh, map[int64]int64{2: 0})
			for _, way := range waysInTheHouse() {
				c, places := fresh, map[int64]int64{2: 0}
				for _, step := range way.steps {
					c = done(t, c, asksAll(step))
					places[step.Epoch+1] = step.Next
					wantPlaces(t, "signed, and taken by nobody", c, places)
					c = done(t, c, asksAll(take(step.Epoch, step.Next)))
					wantPlaces(t, "taken", c, places)
				}
			}
			few := fresh
			for _, id := range bad {
				few = done(t, few, forges(id, next(2, 2)), forges(id, next(3, 3)), forges(id, next(2, 4)), forges(id, next(9, 7)), forges(id, next(1, 0)), forges(id, next(4, 5)))
			}
			for _, id := range good[:2*f-int64(len(bad))] {
				few = done(t, few, asks(id, next(2, 2)), syncs(id))
			}
			wantPlaces(t, "signed by one too few", few, map[int64]int64{2: 0})
			id := good[len(good)-1]
			few = done(t, few, asks(id, next(2, 2)))
			wantPlaces(t, "the last one is not sure", few, map[int64]int64{2: 0})
			few = done(t, few, syncs(id))
			wantPlaces(t, "signed by just enough", few, map[int64]int64{2: 0, 3: 2})
		}
	}
}

func TestConfigInAlongALongWay(t *testing.T) {
	for _, bad := range badOnes(2) {
		c := impl.NewCluster(tower(), bad).Cluster
		places := map[int64]int64{1: 0}
		for _, step := range climb(1, 7) {
			wantPlaces(t, "up to here", c, places)
			c = done(t, c, asksAll(step), asksAll(take(step.Epoch, step.Next)))
			places[step.Epoch+1] = step.Next
		}
		wantPlaces(t, "up to the end", c, places)
	}
}

func TestConfigInOfEpochsThatNothingLeadsTo(t *testing.T) {
	configs := stair(1, 3, 5, 7, 4, 2, 9, 3, 4) // no place leads back, and none over an epoch that is missing
	c := impl.NewCluster(configs, []int64{4}).Cluster
	wantPlaces(t, "a new one", c, map[int64]int64{3: 0})
	checkDeed(t, "over an epoch", c, asks(1, next(3, 1)), impl.ErrState)
	checkDeed(t, "back", c, asks(1, next(3, 4)), impl.ErrState)
	c = done(t, c, forges(4, next(3, 1)), forges(4, next(3, 4)), forges(4, next(3, 6)), forges(4, next(2, 0)), forges(4, next(3, 3)))
	wantPlaces(t, "forged", c, map[int64]int64{3: 0})
	other := done(t, c, asksAll(next(3, 7)))
	wantPlaces(t, "the second place of an epoch", other, map[int64]int64{3: 0, 4: 7})
	c = done(t, c, asksAll(next(3, 3)), asksAll(take(3, 3)))
	wantPlaces(t, "the first place of an epoch", c, map[int64]int64{3: 0, 4: 3})
	c = done(t, c, asksAll(next(4, 1)), asksAll(take(4, 1)), forges(4, next(5, 2)), forges(4, next(6, 2)))
	wantPlaces(t, "one more, and none behind", c, map[int64]int64{3: 0, 4: 3, 5: 1})
	top := impl.NewCluster(stair(2, 9, 9, 8), nil).Cluster
	wantPlaces(t, "the last epoch", top, map[int64]int64{9: 0})
	checkDeed(t, "behind the last epoch", top, asks(1, next(9, 1)), impl.ErrState)
}

// borough has several places whose classes are not the same: what clashes in one epoch does not in another.
func borough(f int64) []impl.Config {
	return withF([]impl.Config{storey(0, 2, 6), storey(1, 3), storey(2, 3, 3, 8), storey(0, 4, 5), storey(1, 4, 4, 9, 6), storey(2, 5, 7, 15)}, f)
}

// waysInTheBorough lead to each of its places.
func waysInTheBorough() []wayTo {
	return []wayTo{
		{nil, 0}, {said(next(2, 1)), 1}, {said(next(2, 2)), 2}, {said(next(2, 1), next(3, 3)), 3}, {said(next(2, 2), next(3, 4)), 4},
		{said(next(2, 1), next(3, 3), next(4, 5)), 5}, {said(next(2, 2), next(3, 4), next(4, 5)), 5},
	}
}

// places are those that count on the way, the first one and all that its steps lead to.
func (way wayTo) places() []int64 {
	places := []int64{0}
	for _, step := range way.steps {
		places = append(places, step.Next)
	}
	return places
}

func (way wayTo) walked(t *testing.T, c impl.Cluster) impl.Cluster {
	t.Helper()
	for _, step := range way.steps {
		c = done(t, c, asksAll(step), asksAll(take(step.Epoch, step.Next)))
	}
	return c
}

// TestWhichClassesCount has two issues of an epoch asked of all: both are signed just where the classes of the place that
// counts in that epoch let them, be they of other places whatever they are.
func TestWhichClassesCount(t *testing.T) { // P16
	apart, together := 0, 0
	for f := int64(1); f <= 2; f++ {
		for _, way := range waysInTheBorough() {
			configs := borough(f)
			config := configs[way.place]
			before := way.walked(t, impl.NewCluster(configs, []int64{2}).Cluster)
			for number := range 3 * 3 * 7 * 7 {
				one := issue(config.Epoch, int64(number%3)+1, int64(number/9%7)+1)
				two := issue(config.Epoch, int64(number/3%3)+1, int64(number/63)+1)
				if one == two || !wantAllowed(config, one.Form, one.Set) || !wantAllowed(config, two.Form, two.Set) {
					continue
				}
				c := impl.AskAll(impl.AskAll(before, one).Cluster, two).Cluster
				for _, x := range said(one, two) {
					c = impl.ForgeCluster(c, share(2, x)).Cluster
				}
				want := said(way.steps...)
				if want = append(want, one); wantStatementsClash(config.Classes, one, two) {
					apart++
				} else {
					together, want = together+1, append(want, two)
				}
				if got := impl.SignedOf(c); !sameSaid(got, impl.SaidResult{Said: want}) {
					t.Fatalf("%+v and %+v at %d: %+v", one, two, way.place, got)
				}
				if got := verdictsOf(c); got != allRight {
					t.Fatalf("%+v and %+v at %d: the rights are %v", one, two, way.place, got)
				}
			}
			checkAudit(t, "the way", before)
		}
	}
	if apart < 200 || together < 1000 {
		t.Errorf("%d pairs are apart, %d together", apart, together)
	}
}

func TestSodRightByHand(t *testing.T) { // each two of these would clash by classes that do not count there
	for f := int64(1); f <= 2; f++ {
		cases := []struct {
			name  string
			steps []impl.Statement
			list  []impl.Statement
		}{
			{"nothing", nil, nil},
			{"one", nil, said(issue(2, 2, 1))},
			{"forms of no class, for the same", nil, said(issue(2, 1, 1), issue(2, 2, 1))},
			{"other forms of no class, for the same", nil, said(issue(2, 1, 1), issue(2, 3, 1))},
			{"one form, for the same", nil, said(issue(2, 3, 3), issue(2, 3, 1), issue(2, 3, 7), issue(2, 3, 6))},
			{"forms of a class, for different ones", nil, said(issue(2, 2, 1), issue(2, 3, 6))},
			{"forms of a class, for many", nil, said(issue(2, 3, 3), issue(2, 2, 4))},
			{"a revoke of another form", nil, said(issue(2, 2, 1), revoke(2, 3, 1))},
			{"where there are no classes", said(next(2, 1)), said(issue(3, 2, 1), issue(3, 3, 1), issue(3, 3, 3), issue(3, 1, 2), issue(3, 2, 2))},
			{"where other classes count", said(next(2, 2)), said(issue(3, 2, 1), issue(3, 3, 1), issue(3, 3, 7), issue(3, 2, 4))},
			{"where none counts behind one that does", said(next(2, 1), next(3, 3)), said(issue(4, 2, 1), issue(4, 3, 1), issue(4, 2, 4))},
		}
		for _, k := range cases {
			for _, bad := range badOnes(f) {
				c := wayTo{steps: k.steps}.walked(t, impl.NewCluster(borough(f), bad).Cluster)
				for _, x := range k.list {
					c = done(t, c, asksAll(x))
				}
				if got := impl.SignedOf(c); !sameSaid(got, impl.SaidResult{Said: slices.Concat(k.steps, k.list)}) {
					t.Errorf("%s: %+v", k.name, got)
				}
				if !impl.SodRight(c) {
					t.Errorf("%s: SodRight of %s is false", k.name, textOfCluster(c))
				}
				checkAudit(t, k.name, c)
			}
		}
	}
}

// TestRightsOfSeveralEpochs has much signed in each epoch ahead of the step to the next one.
func TestRightsOfSeveralEpochs(t *testing.T) { // P16
	for f := int64(1); f <= 2; f++ {
		for _, bad := range badOnes(f) {
			for _, way := range waysInTheBorough() {
				c := impl.NewCluster(borough(f), bad).Cluster
				var want []impl.Statement
				for stop, place := range way.places() {
					epoch := int64(stop) + 2
					one := int64(1) << (c.Configs[place].Rules[3].Who - 1)
					list := said(issue(epoch, 1, one), issue(epoch, 2, 1), issue(epoch, 3, 1))
					for _, x := range append(list, way.steps[stop:min(stop+1, len(way.steps))]...) {
						c = done(t, c, asksAll(x))
						for _, id := range bad {
							c = done(t, c, forges(id, x))
						}
						if len(wantSigners(c.Shares, x)) > int(2*f) {
							want = append(want, x)
						}
						if x.Kind == impl.SayNext {
							c = done(t, c, asksAll(take(x.Epoch, x.Next)))
						}
					}
					checkAudit(t, "an epoch", c)
				}
				if got := impl.SignedOf(c); !sameSaid(got, impl.SaidResult{Said: want}) || len(want) < 2*len(way.steps) {
					t.Errorf("bad %v: %+v, want %+v", bad, got, want)
				}
			}
		}
	}
}

func TestForkRightByHand(t *testing.T) { // steps of one epoch are not both signed, those of several may be
	for f := int64(1); f <= 2; f++ {
		for _, bad := range badOnes(f) {
			good := goodOf(f, bad...)
			c := impl.NewCluster(withF(house(), f), bad).Cluster
			for _, id := range bad {
				c = done(t, c, forges(id, next(2, 1)), forges(id, next(2, 2)), forges(id, next(3, 3)), forges(id, next(3, 6)), forges(id, next(9, 0)))
			}
			for _, id := range good {
				c = done(t, c, asks(id, next(2, 2-id%2)), syncs(id))
				checkAudit(t, "one by one, this or that", c)
			}
			c = done(t, impl.NewCluster(withF(house(), f), bad).Cluster, asksAll(next(2, 1)), asksAll(take(2, 1)), asksAll(next(2, 2)), asksAll(next(3, 6)))
			for _, id := range bad {
				c = done(t, c, forges(id, next(2, 2)), forges(id, next(3, 3)), forges(id, next(3, 6)))
			}
			if got := impl.SignedOf(c); !sameSaid(got, impl.SaidResult{Said: said(next(2, 1), next(3, 6))}) || !impl.ForkRight(c) {
				t.Errorf("bad %v: %+v", bad, got)
			}
			checkAudit(t, "two epochs", c)
		}
	}
	tied := impl.NewCluster(stair(1, 1, 2, 3, 2), nil).Cluster // one Next is named by two epochs
	tied = done(t, tied, asksAll(next(1, 1)), asksAll(take(1, 1)), asksAll(next(2, 2)))
	checkAudit(t, "a stair", tied)
}

func TestPolicyRightByHand(t *testing.T) { // form 1 has another one in each place, so that just that of the epoch allows it
	for f := int64(1); f <= 2; f++ {
		for _, bad := range badOnes(f) {
			fresh := impl.NewCluster(withF(house(), f), bad).Cluster
			for _, way := range waysInTheHouse() {
				c := way.walked(t, fresh)
				epoch := epochAt(way.place)
				c = done(t, c, asksAll(issue(epoch, 1, 1<<way.place)))
				for _, id := range bad { // what is signed by those who are bad alone is not signed
					c = done(t, c, forges(id, issue(epoch, 1, 128)), forges(id, issue(9, 4, 255)), forges(id, issue(1, 1, 1)), forges(id, issue(epoch, 4, 1)))
				}
				if got := impl.SignedOf(c); len(got.Said) != len(way.steps)+1 || got.Said[len(way.steps)] != issue(epoch, 1, 1<<way.place) {
					t.Errorf("bad %v, place %d: %+v", bad, way.place, got)
				}
				if !impl.PolicyRight(c) {
					t.Errorf("bad %v, place %d: PolicyRight of %s is false", bad, way.place, textOfCluster(c))
				}
				checkAudit(t, "a way", c)
			}
		}
	}
}

func TestStoodRightByAsFewAsMayBe(t *testing.T) { // with F who are bad among those who signed, one more than F is left
	for f := int64(1); f <= 2; f++ {
		for _, bad := range badOnes(f) {
			if int64(len(bad)) < f {
				continue
			}
			good := goodOf(f, bad...)
			for by := range good {
				c := impl.NewCluster(withF(house(), f), bad).Cluster
				for _, id := range bad {
					c = done(t, c, forges(id, issue(2, 2, 1)))
				}
				for _, id := range turned(good, by)[:f+1] {
					checkAudit(t, "not yet", c)
					c = done(t, c, asks(id, issue(2, 2, 1)), syncs(id))
				}
				if got := impl.StoodBy(c, issue(2, 2, 1)); got != (impl.IntResult{Value: f + 1}) || len(impl.SignedOf(c).Said) != 1 {
					t.Errorf("bad %v: %+v, %+v", bad, got, impl.SignedOf(c))
				}
				if !impl.StoodRight(c) {
					t.Errorf("bad %v: StoodRight of %s is false", bad, textOfCluster(c))
				}
				checkAudit(t, "just enough", c)
			}
		}
	}
}

// TestWhatIsNotRightHasAFault makes clusters by hand that no calls come to: all that would not be right is a fault already.
func TestWhatIsNotRightHasAFault(t *testing.T) { // P16
	for f := int64(1); f <= 2; f++ {
		members := listOfSet(1<<(3*f+1) - 1)
		cases := []struct {
			name string
			list []impl.Statement
		}{
			{"two forms of a class", said(issue(2, 2, 1), issue(2, 3, 1))},
			{"two forms of a class for one of many", said(issue(2, 3, 6), issue(2, 2, 4))},
			{"two steps of an epoch", said(next(2, 1), next(2, 2))},
			{"what is not allowed", said(issue(2, 1, 2))},
			{"a form that there is not", said(issue(2, 4, 1))},
			{"an epoch that is not reached", said(issue(3, 2, 1))},
			{"an epoch that no configuration has", said(issue(9, 2, 1))},
			{"a step from an epoch that is not reached", said(next(3, 3))},
			{"a step to no place", said(next(2, 7))},
			{"a step over an epoch", said(next(2, 3))},
		}
		for _, k := range cases {
			for _, signers := range groupsOf(3*f + 1) {
				if int64(len(signers)) <= 2*f {
					continue
				}
				fresh := impl.NewCluster(withF(house(), f), nil).Cluster
				fresh.Shares = signedBy(signers, k.list...)
				checkUnaudited(t, k.name+", that nobody said", fresh, impl.ErrSign)
				all := copyCluster(fresh)
				for place := range all.Replicas {
					all.Replicas[place].Said, all.Replicas[place].Sure = k.list, int64(len(k.list))
				}
				checkUnaudited(t, k.name+", that all said", all, impl.ErrState)
				some := impl.NewCluster(withF(house(), f), members[:f]).Cluster
				some.Shares = fresh.Shares
				checkUnaudited(t, k.name+", with some who are bad", some, impl.ErrSign)
			}
		}
	}
}

func TestAuditsOneNumberAway(t *testing.T) { // all is right just where there is no fault
	codes := map[int64]int{}
	for f := int64(1); f <= 2; f++ {
		base := township(t, f)
		c := copyCluster(base)
		for _, number := range numbersOfCluster(&c) {
			kept := *number
			for _, by := range []int64{1, -1} {
				*number = kept + by
				fault := wantClusterFault(c)
				codes[fault]++
				if fault == impl.OK {
					checkAudit(t, "one number away", c)
				} else {
					checkUnaudited(t, "one number away", c, fault)
				}
			}
			*number = kept
		}
	}
	checkCodes(t, "an audit", codes, impl.OK, impl.ErrForm, impl.ErrRange, impl.ErrSign, impl.ErrState)
}

// realm has drawn configurations: places of which each has classes of its own, or drawn rules and forms as well.
func (d *dice) realm() []impl.Config {
	if d.below(3) == 0 {
		return d.relyGround().configs
	}
	var configs []impl.Config
	for place, epoch := range []int64{2, 3, 3, 4, 4, 5} {
		configs = append(configs, storey(int64(place)%3, epoch, d.classes()...))
	}
	return withF(configs, d.below(2)+1)
}

func (d *dice) anyBad(f int64) []int64 {
	all := badOnes(f)
	return all[d.below(int64(len(all)))]
}

// stepFrom leads to a place of the epoch behind, if there is one, in most draws.
func (d *dice) stepFrom(configs []impl.Config, epoch int64) impl.Statement {
	var places []int64
	for place, config := range configs {
		if config.Epoch == epoch+1 {
			places = append(places, int64(place))
		}
	}
	if len(places) == 0 || d.below(8) == 0 {
		return next(epoch, d.below(8))
	}
	return next(epoch, places[d.below(int64(len(places)))])
}

// claim is of an epoch that is reached in most draws, of the last one more often than of others.
func (d *dice) claim(configs []impl.Config, reach []int64) impl.Statement {
	last := configs[reach[len(reach)-1]]
	switch d.below(14) {
	case 0:
		return d.stepFrom(configs, last.Epoch)
	case 1:
		x := d.issued(last)
		return revoke(x.Epoch, x.Form, x.Set)
	case 2:
		return d.statement()
	case 3:
		return d.issued(configs[d.below(int64(len(configs)))])
	case 4, 5:
		return d.issued(configs[reach[d.below(int64(len(reach)))]])
	}
	return d.issued(last)
}

// livelier goes on by a round: some are asked x, and some of them are sure of it, those who are bad sign most of what
// they hear, one crashes now and then, and what is signed is taken.
func (d *dice) livelier(c impl.Cluster, x impl.Statement) impl.Cluster {
	try := func(d deed) {
		if result := d.call(c); result.Code == impl.OK {
			c = result.Cluster
		}
	}
	if d.below(4) == 0 {
		try(asksAll(x))
	}
	for _, r := range c.Replicas {
		if d.below(3) > 0 {
			try(asks(r.Id, x))
		}
		if d.below(3) > 0 {
			try(syncs(r.Id))
		}
		if d.below(12) == 0 {
			try(crashes(r.Id, d.below(3)))
		}
	}
	for _, id := range c.Bad {
		if d.below(4) > 0 {
			try(forges(id, x))
		}
	}
	for _, y := range impl.SignedOf(c).Said {
		if y.Kind == impl.SayNext && d.below(2) == 0 {
			try(asksAll(take(y.Epoch, y.Next)))
		}
	}
	return c
}

// checkNobodyHasTooMuch tells how many two of what was signed by anybody go against each other.
func checkNobodyHasTooMuch(t *testing.T, c impl.Cluster) int {
	t.Helper()
	f, clashes := c.Configs[0].F, 0
	var list []impl.Statement
	for _, s := range c.Shares {
		if !slices.Contains(list, s.Statement) {
			list = append(list, s.Statement)
		}
	}
	for place, x := range list {
		at := impl.ConfigIn(c, x.Epoch)
		isSigned := impl.IsSigned(c.Shares, f, x)
		if isSigned && (at.Code != impl.OK || x.Kind == impl.SayIssue && !impl.AllowsIn(c.Configs[at.Value], x.Form, x.Set)) {
			t.Fatalf("%+v is signed, and not allowed: %s", x, textOfCluster(c))
		}
		for _, y := range list[:place] {
			if x.Epoch != y.Epoch || at.Code != impl.OK || !impl.ClashStatements(c.Configs[at.Value].Classes, x, y) {
				continue
			}
			clashes++
			if isSigned && impl.IsSigned(c.Shares, f, y) {
				t.Fatalf("%+v and %+v are signed: %s", x, y, textOfCluster(c))
			}
		}
	}
	for _, x := range impl.SignedOf(c).Said {
		if got := impl.StoodBy(c, x); got.Code != impl.OK || got.Value <= f {
			t.Fatalf("%+v is signed, and stood by %+v: %s", x, got, textOfCluster(c))
		}
	}
	return clashes
}

func TestNobodyHasTooMuchWhateverIsDone(t *testing.T) { // P16, P14
	clashes, epochs, signed := 0, 0, map[int64]int{}
	for seed := range int64(70) {
		d := dice(seed + 1600)
		configs := d.realm()
		c := impl.NewCluster(configs, d.anyBad(configs[0].F)).Cluster
		for round := range 30 {
			c = d.livelier(c, d.claim(configs, wantReach(configs, c.Shares).List))
			if got := verdictsOf(c); got != allRight {
				t.Fatalf("the rights of %s are %v", textOfCluster(c), got)
			}
			if round%6 == 5 {
				checkAudit(t, "a life", c)
				clashes += checkNobodyHasTooMuch(t, c)
			}
		}
		if t.Failed() {
			return
		}
		for _, x := range impl.SignedOf(c).Said {
			signed[x.Kind]++
		}
		epochs += len(wantReach(configs, c.Shares).List) - 1
	}
	checkCodes(t, "by kind", signed, impl.SayIssue, impl.SayRevoke, impl.SayNext)
	if clashes < 1000 || epochs < 50 || signed[impl.SayIssue] < 150 {
		t.Errorf("%d clashes, %d epochs, signed %v", clashes, epochs, signed)
	}
}

// handMade is put together of drawn replicas and shares, by no calls: some of them have a fault, and most have none.
func (d *dice) handMade() impl.Cluster {
	configs := d.realm()
	f, first := configs[0].F, configs[0].Epoch
	c := impl.Cluster{Configs: configs, Bad: d.anyBad(f)}
	step := d.stepFrom(configs, first)
	ahead, behind := said(d.issued(configs[0]), d.issued(configs[0]), d.issued(configs[0])), said(d.stepFrom(configs, first+1))
	if int(step.Next) < len(configs) {
		behind = append(behind, d.issued(configs[step.Next]), d.issued(configs[step.Next]))
	}
	for _, id := range goodOf(f, c.Bad...) {
		m := newTeller(configs)
		for range d.below(6) {
			m.say(ahead[d.below(3)])
		}
		if d.below(8) > 0 {
			m.say(step)
		}
		if d.below(3) > 0 {
			m.say(take(step.Epoch, step.Next))
		}
		for range d.below(6) {
			m.say(behind[d.below(int64(len(behind)))])
		}
		r := m.replica(id, int64(len(m.said))-d.below(int64(len(m.said))+1)*(d.below(4)/3))
		c.Replicas = append(c.Replicas, r)
		for _, x := range r.Said[:r.Sure] {
			if x.Kind != impl.SayTake && d.below(12) > 0 {
				c.Shares = append(c.Shares, share(id, x))
			}
		}
	}
	for _, id := range c.Bad {
		for _, x := range slices.Concat(said(step), ahead, behind) {
			if s := share(id, x); !slices.Contains(c.Shares, s) && d.below(6) > 0 {
				c.Shares = append(c.Shares, s)
			}
		}
	}
	if by := d.below(int64(len(c.Shares)) + 1); d.below(2) == 0 {
		c.Shares = slices.Concat(c.Shares[by:], c.Shares[:by])
	}
	return c
}

func TestNobodyHasTooMuchByHand(t *testing.T) { // P16: in each cluster without a fault, be it one that calls come to or not
	codes, signed, clashes, taken := map[int64]int{}, map[int64]int{}, 0, 0
	d := dice(1700)
	for range 800 {
		c := d.handMade()
		a := auditedOf(c)
		codes[a.fault]++
		a.check(t, "by hand", askedOf(c)...)
		if a.fault == impl.OK {
			clashes += checkNobodyHasTooMuch(t, c)
			for _, x := range a.signed {
				signed[x.Kind]++
				if x.Kind == impl.SayIssue && x.Epoch > c.Configs[0].Epoch {
					taken++
				}
			}
		}
		if t.Failed() {
			return
		}
	}
	checkCodes(t, "a cluster", codes, impl.OK, impl.ErrSign)
	if codes[impl.OK] < 400 || clashes < 200 || taken < 20 || signed[impl.SayIssue] < 100 || signed[impl.SayNext] < 100 {
		t.Errorf("codes %v, signed %v, %d of them behind a step, %d clashes", codes, signed, taken, clashes)
	}
}

// staysIn tells whether all of the list stand in the other one as well, in the same order.
func staysIn(list []impl.Statement, other []impl.Statement) bool {
	left := slices.DeleteFunc(slices.Clone(other), func(x impl.Statement) bool { return !slices.Contains(list, x) })
	return slices.Equal(left, list)
}

// checkOnwards asks what each kind of deed (as anyDeed numbers them) leaves of what is signed and stood by.
func checkOnwards(t *testing.T, kind int64, before impl.Cluster, behind impl.Cluster) {
	t.Helper()
	a, b := impl.SignedOf(before), impl.SignedOf(behind)
	if a.Code != impl.OK || b.Code != impl.OK || !staysIn(a.Said, b.Said) {
		t.Fatalf("%+v is signed, and then %+v: %s", a, b, textOfCluster(behind))
	}
	if (kind == 0 || kind == 2) && !sameSaid(a, b) { // who is asked or crashes signs nothing
		t.Fatalf("%+v is signed, and without a share more %+v: %s", a, b, textOfCluster(behind))
	}
	for _, x := range askedOf(behind) {
		one, two := impl.StoodBy(before, x), impl.StoodBy(behind, x)
		if one.Code != two.Code || two.Value < one.Value || kind == 0 && two != one || kind == 3 && two != one {
			t.Fatalf("kind %d: %+v is stood by %+v, and then %+v: %s", kind, x, one, two, textOfCluster(behind))
		}
		if (kind == 1 || kind == 2) && two.Value > one.Value+1 { // it is one alone who is synced or crashes
			t.Fatalf("kind %d: %+v is stood by %+v, and then %+v: %s", kind, x, one, two, textOfCluster(behind))
		}
	}
	if kind == 3 && len(behind.Shares) > len(before.Shares) && !slices.Contains(behind.Bad, behind.Shares[len(before.Shares)].Replica) {
		t.Fatalf("a share was forged of one who is not bad: %s", textOfCluster(behind))
	}
	for epoch := int64(1); epoch <= 9; epoch++ { // what counts in an epoch stays
		if one := impl.ConfigIn(before, epoch); one.Code == impl.OK && one != impl.ConfigIn(behind, epoch) {
			t.Fatalf("epoch %d: %+v, and then %+v: %s", epoch, one, impl.ConfigIn(behind, epoch), textOfCluster(behind))
		}
	}
}

// checkStandsBehindACrash asks it of one that is asked and synced, and who is sure of x then.
func checkStandsBehindACrash(t *testing.T, c impl.Cluster, id int64, x impl.Statement) int {
	t.Helper()
	synced := impl.SyncCluster(impl.AskCluster(c, id, x).Cluster, id)
	if synced.Code != impl.OK {
		return 0
	}
	crashed := impl.CrashCluster(synced.Cluster, id, 0)
	one, two := impl.StoodBy(synced.Cluster, x), impl.StoodBy(crashed.Cluster, x)
	if one != two || one.Value < 1 || one.Value < impl.StoodBy(c, x).Value || !sameSaid(impl.SignedOf(synced.Cluster), impl.SignedOf(crashed.Cluster)) {
		t.Fatalf("%d said %+v, stood by %+v, and behind the crash by %+v: %s", id, x, one, two, textOfCluster(c))
	}
	return 1
}

func TestWhatIsSignedStaysWhateverIsDone(t *testing.T) { // P14
	kinds, stood := map[int64]int{}, 0
	for seed := range int64(24) {
		d := dice(seed + 1800)
		f := seed%2 + 1
		w := newWorld(withF(house(), f), d.anyBad(f)...)
		c := impl.NewCluster(w.configs, w.bad).Cluster
		for range 60 {
			kind, deed := d.anyDeed(w, seed%6 == 0)
			result := deed.call(c)
			if result.Code != impl.OK {
				continue
			}
			if code := deed.work(w); code != impl.OK {
				t.Fatalf("%s of %s has code %d, and none", deed.name, textOfCluster(c), code)
			}
			kinds[kind]++
			checkOnwards(t, kind, c, result.Cluster)
			stood += checkStandsBehindACrash(t, c, w.ids[d.below(int64(len(w.ids)))], d.word(w))
			c = result.Cluster
		}
		checkAudit(t, "in the end", c)
	}
	checkCodes(t, "by kind", kinds, 0, 1, 2, 3, 4)
	if stood < 100 {
		t.Errorf("%d stood by it behind a crash", stood)
	}
}

func TestWhatIsAskedOfAllIsStoodByAll(t *testing.T) { // P14: where nobody is bad, and nothing goes against it
	signed := map[int64]int{}
	for seed := range int64(40) {
		d := dice(seed + 1900)
		configs := d.realm()
		f := configs[0].F
		c := impl.NewCluster(configs, nil).Cluster
		m := newTeller(configs) // all are as this one
		for range 16 {
			x := d.claim(configs, wantReach(configs, c.Shares).List)
			if len(c.Shares) > 120-int(3*f+1) || x.Kind == impl.SayTake {
				break
			}
			may, before := m.say(x), impl.SignedOf(c).Said
			c = impl.AskAll(c, x).Cluster
			got := impl.SignedOf(c)
			if may != impl.OK {
				if !slices.Equal(got.Said, before) {
					t.Fatalf("%+v has code %d, and signed is %+v: %s", x, may, got, textOfCluster(c))
				}
				continue
			}
			signed[x.Kind]++
			if !slices.Contains(got.Said, x) || !staysIn(before, got.Said) || impl.StoodBy(c, x) != (impl.IntResult{Value: 3*f + 1}) {
				t.Fatalf("%+v was asked of all, and signed is %+v: %s", x, got, textOfCluster(c))
			}
			if x.Kind == impl.SayNext {
				m.say(take(x.Epoch, x.Next))
				c = impl.AskAll(c, take(x.Epoch, x.Next)).Cluster
			}
		}
		checkAudit(t, "asked of all", c)
	}
	checkCodes(t, "by kind", signed, impl.SayIssue, impl.SayRevoke, impl.SayNext)
}

type auditAnswers struct {
	signed impl.SaidResult
	stood  [2]impl.IntResult
	places [2]impl.IntResult
	rights verdicts
}

func (k clusterCase) audit() auditAnswers {
	return auditAnswers{
		impl.SignedOf(k.c), [2]impl.IntResult{impl.StoodBy(k.c, k.x), impl.StoodBy(k.c, next(2, 1))},
		[2]impl.IntResult{impl.ConfigIn(k.c, k.x.Epoch), impl.ConfigIn(k.c, k.id+2)}, verdictsOf(k.c),
	}
}

func TestAuditedClustersAreUnchanged(t *testing.T) { // P1: be there a code or not
	for _, k := range clustersToKeep(t) {
		for _, given := range []clusterCase{k, k.copied()} {
			before := given.whole()
			given.audit()
			if behind := given.whole(); behind != before {
				t.Fatalf("%.900s was changed to %.900s", before, behind)
			}
		}
	}
}

func TestSameAuditsSameAnswers(t *testing.T) { // P1: nothing is kept from call to call
	var first []string
	for _, k := range clustersToKeep(t) {
		first = append(first, fmt.Sprint(k.audit()))
	}
	for i, k := range slices.Backward(clustersToKeep(t)) {
		for range 2 {
			if again := fmt.Sprint(k.copied().audit()); again != first[i] {
				t.Fatalf("%s: first %s, then %s", textOfCluster(k.c), first[i], again)
			}
		}
	}
}

func TestAuditsShareNoMemory(t *testing.T) { // P1
	signed := 0
	for _, k := range clustersToKeep(t) {
		given := k.copied()
		var all clusterLists
		all.add(given.c)
		for range 3 {
			one := given.audit().signed.Said
			signed += len(one)
			all.said = append(all.said, one)
		}
		if !all.haveOwnMemory() {
			t.Fatalf("answers of %s share memory, or an answer and what was handed in", textOfCluster(k.c))
		}
	}
	if signed < 100 {
		t.Errorf("%d are signed", signed)
	}
}

func TestAuditsStayBehindWhatIsHandedIn(t *testing.T) { // P1
	for _, k := range clustersToKeep(t) {
		given := k.copied()
		one, two := given.audit(), given.audit()
		want := fmt.Sprint(one)
		before := given.whole()
		spoil(two.signed.Said, impl.Statement{Kind: -7})
		if got := given.whole(); got != before {
			t.Fatalf("what was handed in changes with the answer for %s", textOfCluster(k.c))
		}
		for _, r := range given.c.Replicas {
			spoil(r.Said, impl.Statement{Kind: -7})
		}
		spoil(given.c.Shares, share(-7, impl.Statement{}))
		if got := fmt.Sprint(one); got != want {
			t.Fatalf("what was answered for %s changes with what was handed in, or with another answer", textOfCluster(k.c))
		}
	}
}

func TestEmptyListsOfAuditsAreTheSameAsNil(t *testing.T) { // P1
	for f := int64(1); f <= 2; f++ {
		none := impl.Cluster{Configs: stair(f, 2, 3)}
		empty := impl.Cluster{Configs: stair(f, 2, 3), Bad: []int64{}, Shares: []impl.Share{}}
		for place := range empty.Configs {
			empty.Configs[place].Rules, empty.Configs[place].Forms, empty.Configs[place].Classes = []impl.Rule{}, []impl.Form{}, []int64{}
		}
		for id := range 3*f + 1 {
			none.Replicas = append(none.Replicas, impl.Replica{Id: id + 1})
			empty.Replicas = append(empty.Replicas, impl.Replica{Id: id + 1, Said: []impl.Statement{}, Locks: []impl.Lock{}})
		}
		for _, x := range said(revoke(2, 1, 1), next(2, 1), impl.Statement{}) {
			a, b := clusterCase{c: none, x: x}, clusterCase{c: empty, x: x}
			if fmt.Sprint(a.audit()) != fmt.Sprint(b.audit()) {
				t.Errorf("%+v and %+v", a.audit(), b.audit())
			}
		}
		checkAudit(t, "nil", none)
		checkAudit(t, "empty", empty)
	}
	checkUnaudited(t, "nil", impl.Cluster{}, impl.ErrMany)
	checkUnaudited(t, "empty", impl.Cluster{Configs: []impl.Config{}, Bad: []int64{}, Replicas: []impl.Replica{}, Shares: []impl.Share{}}, impl.ErrMany)
}

func TestAnswersOfAuditsBesideACodeAreZero(t *testing.T) { // P1
	var codes [3]map[int64]int
	for number := range codes {
		codes[number] = map[int64]int{}
	}
	for _, k := range clustersToKeep(t) {
		a := k.audit()
		codes[0][a.signed.Code]++
		if a.signed.Code != impl.OK && (len(a.signed.Said) > 0 || a.rights != verdicts{}) {
			t.Errorf("%s: %+v", textOfCluster(k.c), a)
		}
		for number, list := range [2][2]impl.IntResult{a.stood, a.places} {
			for _, result := range list {
				codes[number+1][result.Code]++
				if result.Code != impl.OK && result.Value != 0 {
					t.Errorf("%s: %+v", textOfCluster(k.c), a)
				}
			}
		}
	}
	faults := []int64{impl.OK, impl.ErrForm, impl.ErrMany, impl.ErrRange, impl.ErrTaken, impl.ErrSign, impl.ErrState}
	checkCodes(t, "SignedOf", codes[0], faults...)
	checkCodes(t, "StoodBy", codes[1], faults...)
	checkCodes(t, "ConfigIn", codes[2], append(faults, impl.ErrNone)...)
}
