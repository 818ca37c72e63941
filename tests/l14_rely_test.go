package tests

import (
	"fmt"
	"math"
	"slices"
	"testing"

	"loop.example/g00338/impl"
)

// relyCase is what one is handed who relies on a wallet: RevokedBy is asked by its f, its x and what the wallet shows.
type relyCase struct {
	configs []impl.Config
	shares  []impl.Share
	f       int64
	w       impl.Wallet
	x       impl.Statement
}

// market is the house, where the signers signed all of list.
func market(f int64, signers []int64, list ...impl.Statement) relyCase {
	return relyCase{configs: withF(house(), f), shares: signedBy(signers, list...), f: f}
}

// shows gives a case a wallet that the same signers stand for, and asks for what was issued.
func (c relyCase) shows(signers []int64, chain []impl.Statement, x impl.Statement, revoked ...impl.Statement) relyCase {
	c.w = impl.Wallet{Chain: certsBy(signers, chain...), Issued: certsBy(signers, x)[0], Revoked: certsBy(signers, revoked...)}
	c.x = x
	return c
}

func (c relyCase) text() string {
	return fmt.Sprintf("%.500s, %.900s, f %d, wallet %.900s, x %+v", fmt.Sprint(c.configs), fmt.Sprint(c.shares), c.f, fmt.Sprint(c.w), c.x)
}

func wantAllowed(c impl.Config, form int64, set int64) bool {
	if form < 1 || int(form) > len(c.Forms) {
		return false
	}
	parts := c.Forms[form-1].Parts
	return splitterOf(c.Rules, parts).has(int64(len(parts))-1, set)
}

// wantRevoked goes by a map of all that is revoked by what is right.
func wantRevoked(shares []impl.Share, f int64, x impl.Statement, list []impl.Cert) bool {
	if wantSharesFault(shares, f) != impl.OK || wantStatementFault(x) != impl.OK || len(list) >= 11 {
		return false
	}
	gone := map[[3]int64]bool{}
	for _, c := range list {
		if y := c.Statement; wantVerified(shares, f, c) == impl.OK && y.Kind == impl.SayRevoke {
			gone[[3]int64{y.Epoch, y.Form, y.Set}] = true
		}
	}
	return gone[[3]int64{x.Epoch, x.Form, x.Set}]
}

func wantAccepted(configs []impl.Config, shares []impl.Share, w impl.Wallet) int64 {
	chain := wantChain(configs, shares, w.Chain)
	if chain.Code != impl.OK {
		return chain.Code
	}
	last, x := configs[chain.Places[len(chain.Places)-1]], w.Issued.Statement
	verified := wantVerified(shares, last.F, w.Issued)
	switch {
	case len(w.Revoked) >= 11:
		return impl.ErrMany
	case verified != impl.OK:
		return verified
	case x.Kind != impl.SayIssue:
		return impl.ErrForm
	case x.Epoch != last.Epoch:
		return impl.ErrState
	case !wantAllowed(last, x.Form, x.Set):
		return impl.ErrPolicy
	case wantRevoked(shares, last.F, x, w.Revoked):
		return impl.ErrOld
	}
	return impl.OK
}

// wantMade goes along what was reached until it stands at the epoch of x.
func wantMade(configs []impl.Config, shares []impl.Share, x impl.Statement) impl.WalletResult {
	reach := wantReach(configs, shares)
	fault := wantStatementFault(x)
	switch {
	case reach.Code != impl.OK:
		return impl.WalletResult{Code: reach.Code}
	case fault != impl.OK:
		return impl.WalletResult{Code: fault}
	case x.Kind != impl.SayIssue:
		return impl.WalletResult{Code: impl.ErrForm}
	}
	f, epoch := configs[0].F, configs[0].Epoch
	var w impl.Wallet
	for _, to := range reach.List[1:] {
		if epoch >= x.Epoch {
			break
		}
		w.Chain = append(w.Chain, wantCombined(shares, f, next(epoch, to)).Cert)
		epoch = configs[to].Epoch
	}
	if epoch != x.Epoch {
		return impl.WalletResult{Code: impl.ErrState}
	}
	issued := wantCombined(shares, f, x)
	if issued.Code != impl.OK {
		return impl.WalletResult{Code: issued.Code}
	}
	w.Issued = issued.Cert
	if gone := wantCombined(shares, f, revoke(x.Epoch, x.Form, x.Set)); gone.Code == impl.OK {
		w.Revoked = append(w.Revoked, gone.Cert)
	}
	return impl.WalletResult{Wallet: w}
}

func wantWho(w impl.Wallet) impl.IntsResult {
	x := w.Issued.Statement
	fault := wantStatementFault(x)
	switch {
	case len(w.Issued.Signers) >= 21:
		return impl.IntsResult{Code: impl.ErrMany}
	case fault != impl.OK:
		return impl.IntsResult{Code: fault}
	case x.Kind != impl.SayIssue:
		return impl.IntsResult{Code: impl.ErrForm}
	}
	return impl.IntsResult{List: listOfSet(int(x.Set))}
}

func sameCertLists(a []impl.Cert, b []impl.Cert) bool {
	return slices.EqualFunc(a, b, func(c impl.Cert, d impl.Cert) bool {
		return sameCerts(impl.CertResult{Cert: c}, impl.CertResult{Cert: d})
	})
}

func sameWallets(a impl.WalletResult, b impl.WalletResult) bool {
	one, two := a.Wallet, b.Wallet
	return a.Code == b.Code && sameCertLists(one.Chain, two.Chain) && sameCertLists([]impl.Cert{one.Issued}, []impl.Cert{two.Issued}) && sameCertLists(one.Revoked, two.Revoked)
}

// checkRevoked asks for the answer as well as for what is worked out, so that neither can be wrong alone.
func checkRevoked(t *testing.T, name string, c relyCase, revoked bool) {
	t.Helper()
	if want := wantRevoked(c.shares, c.f, c.x, c.w.Revoked); want != revoked {
		t.Errorf("%s: RevokedBy of %s is worked out as %v", name, c.text(), want)
	}
	if got := impl.RevokedBy(c.shares, c.f, c.x, c.w.Revoked); got != revoked {
		t.Errorf("%s: RevokedBy of %s = %v", name, c.text(), got)
	}
}

func checkAccepted(t *testing.T, name string, c relyCase, code int64) {
	t.Helper()
	if want := wantAccepted(c.configs, c.shares, c.w); want != code {
		t.Errorf("%s: AcceptWallet of %s is worked out as %d, not %d", name, c.text(), want, code)
	}
	if got := impl.AcceptWallet(c.configs, c.shares, c.w); got != code {
		t.Errorf("%s: AcceptWallet of %s = %d, want %d", name, c.text(), got, code)
	}
}

func checkMade(t *testing.T, name string, c relyCase, code int64) impl.Wallet {
	t.Helper()
	want, got := wantMade(c.configs, c.shares, c.x), impl.MakeWallet(c.configs, c.shares, c.x)
	if want.Code != code {
		t.Errorf("%s: MakeWallet of %s is worked out as %d, not %d", name, c.text(), want.Code, code)
	}
	if !sameWallets(got, want) {
		t.Errorf("%s: MakeWallet of %s = %+v, want %+v", name, c.text(), got, want)
	}
	return got.Wallet
}

func checkWho(t *testing.T, name string, x impl.Statement, signers []int64, want impl.IntsResult) {
	t.Helper()
	w := impl.Wallet{Issued: cert(x, signers...)}
	if out := wantWho(w); !sameLists(out, want) {
		t.Errorf("%s: WhoIn %+v is worked out as %+v", name, w, out)
	}
	others := []impl.Wallet{w, {Chain: make([]impl.Cert, 9), Issued: w.Issued, Revoked: certsBy(nil, revoke(1, 1, 1), next(0, 9))}}
	for _, other := range others { // nothing is asked of what stands beside Issued
		if got := impl.WhoIn(other); !sameLists(got, want) {
			t.Errorf("%s: WhoIn %.400s = %+v, want %+v", name, fmt.Sprint(other), got, want)
		}
	}
}

func codeWhere(holds bool, code int64) int64 {
	if holds {
		return code
	}
	return impl.OK
}

// badSigners cannot stand for what enough(f) signed, and nobody else.
func badSigners(f int64) [][]int64 {
	good := enough(f)
	falling := slices.Clone(good)
	slices.Reverse(falling)
	last := len(good) - 1
	return [][]int64{
		nil, {}, good[:last], good[1:], falling, append([]int64{1}, good...), append(slices.Clone(good), 2*f+1), append([]int64{0}, good...),
		append(slices.Clone(good), 3*f+2), append(slices.Clone(good), 3*f+1), append(slices.Clone(good[:last]), 3*f+1), append(slices.Clone(good), math.MaxInt64),
		append([]int64{math.MinInt64}, good...), repeated(1, int(2*f)+1), repeated(1, 21),
	}
}

func TestRevokedByByHand(t *testing.T) {
	others := said(revoke(3, 1, 1), revoke(2, 2, 1), revoke(2, 1, 3), revoke(2, 1, 2), issue(2, 1, 1), next(2, 1), take(2, 1))
	gone := revoke(2, 1, 1)
	for f := int64(1); f <= 2; f++ {
		c := market(f, enough(f), append(slices.Clone(others), gone)...)
		show := func(name string, revoked bool, list ...impl.Statement) {
			t.Helper()
			checkRevoked(t, name, c.shows(enough(f), nil, issue(2, 1, 1), list...), revoked)
		}
		show("nothing", false)
		show("it alone", true, gone)
		show("it twice", true, gone, gone)
		show("all others", false, others...)
		show("not signed", false, revoke(2, 1, 4))
		for place := range len(others) + 1 {
			show(fmt.Sprint("it at ", place), true, slices.Insert(slices.Clone(others), place, gone)...)
		}
		for _, other := range others {
			show("another one", false, other)
			show("another one ahead", true, other, gone)
			show("another one behind", true, gone, other)
		}
		c.x, c.w.Revoked = issue(2, 1, 1), []impl.Cert{}
		checkRevoked(t, "an empty list", c, false)
	}
}

func TestRevokedByWhatIsNotRight(t *testing.T) {
	for f := int64(1); f <= 2; f++ {
		c := market(f, enough(f), revoke(2, 1, 1), revoke(2, 1, 2)).shows(enough(f), nil, issue(2, 1, 1), revoke(2, 1, 1))
		right := c.w.Revoked[0]
		for _, signers := range badSigners(f) {
			wrong := cert(revoke(2, 1, 1), signers...)
			for _, list := range [][]impl.Cert{{wrong}, {wrong, wrong}, {wrong, {}, cert(revoke(2, 1, 2), enough(f)...)}} {
				c.w.Revoked = list
				checkRevoked(t, fmt.Sprint("signers ", signers), c, false)
			}
			for _, list := range [][]impl.Cert{{wrong, right}, {right, wrong}, {{}, wrong, right, wrong}} {
				c.w.Revoked = list
				checkRevoked(t, fmt.Sprint("signers ", signers, ", beside a right one"), c, true)
			}
		}
		for _, k := range wrongStatements() {
			wrong := cert(k.x, enough(f)...)
			c.w.Revoked = []impl.Cert{wrong}
			checkRevoked(t, k.name, c, false)
			c.w.Revoked = []impl.Cert{wrong, right}
			checkRevoked(t, k.name+", beside a right one", c, true)
		}
		for place := range numbersOfStatement(&impl.Statement{}) {
			for _, by := range []int64{-1, 1, 2, 1 << 32} {
				away := cert(revoke(2, 1, 1), enough(f)...)
				*numbersOfStatement(&away.Statement)[place] += by
				c.w.Revoked = []impl.Cert{away}
				checkRevoked(t, fmt.Sprint("number ", place, " by ", by), c, false)
			}
		}
	}
}

func TestRevokedByOfHowMany(t *testing.T) {
	for f := int64(1); f <= 2; f++ {
		c := market(f, enough(f), revoke(2, 1, 1), revoke(2, 1, 2)).shows(enough(f), nil, issue(2, 1, 1), revoke(2, 1, 1), revoke(2, 1, 2))
		right, other := c.w.Revoked[0], c.w.Revoked[1]
		for _, count := range []int{1, 2, 9, 10, 11, 12, 20, 100, 100000} {
			for _, filler := range []impl.Cert{other, {}, right} {
				c.w.Revoked = append([]impl.Cert{right}, slices.Repeat([]impl.Cert{filler}, count-1)...)
				checkRevoked(t, fmt.Sprint("the first of ", count), c, count <= 10)
				slices.Reverse(c.w.Revoked)
				checkRevoked(t, fmt.Sprint("the last of ", count), c, count <= 10)
			}
		}
	}
}

func TestRevokedByOfSharesWithAFault(t *testing.T) {
	for f := int64(1); f <= 2; f++ {
		base := market(f, enough(f), revoke(3, 1, 1)).shows(enough(f), nil, issue(3, 1, 1), revoke(3, 1, 1))
		checkRevoked(t, "no fault", base, true)
		good := base.shares
		lists := [][]impl.Share{
			append(slices.Clone(good), good[0]), append(good[:1:1], good...), append(slices.Clone(good), share(0, next(1, 1))),
			append([]impl.Share{share(3*f+2, next(1, 1))}, good...), append(slices.Clone(good), make([]impl.Share, 121)...), append(distinctShares(121-len(good)), good...),
		}
		for _, k := range wrongStatements() {
			lists = append(lists, append(slices.Clone(good), share(1, k.x)), append([]impl.Share{share(3*f+1, k.x)}, good...))
		}
		for _, shares := range lists {
			if wantSharesFault(shares, f) == impl.OK {
				t.Fatalf("%.400s has no fault", fmt.Sprint(shares))
			}
			c := base
			c.shares = shares
			checkRevoked(t, "shares", c, false)
		}
		full := base
		full.shares = append(distinctShares(120-len(good)), good...)
		checkRevoked(t, "120 shares", full, true)
		for _, number := range noBadCounts {
			c := base
			c.f = number
			checkRevoked(t, "f", c, false)
		}
	}
	three, five := market(1, enough(1), revoke(2, 1, 1)), market(2, enough(2), revoke(2, 1, 1))
	three.f, five.f = 2, 1
	checkRevoked(t, "three of seven", three.shows(enough(1), nil, issue(2, 1, 1), revoke(2, 1, 1)), false)
	checkRevoked(t, "a fifth of four", five.shows(enough(1), nil, issue(2, 1, 1), revoke(2, 1, 1)), false)
}

func TestRevokedByOfAnXWithAFault(t *testing.T) {
	for f := int64(1); f <= 2; f++ {
		c := market(f, enough(f), revoke(2, 1, 1), next(2, 1)).shows(enough(f), nil, issue(2, 1, 1), revoke(2, 1, 1), next(2, 1))
		for _, kind := range []int64{0, 5, -1, impl.SayNext, impl.SayTake, math.MaxInt64} {
			c.x = impl.Statement{Kind: kind, Epoch: 2, Form: 1, Set: 1}
			checkRevoked(t, fmt.Sprint("kind ", kind), c, false)
		}
		for _, number := range []int64{1, -1, 7, math.MinInt64} {
			for _, kind := range []int64{impl.SayIssue, impl.SayRevoke} {
				c.x = impl.Statement{Kind: kind, Epoch: 2, Form: 1, Set: 1, Next: number}
				checkRevoked(t, fmt.Sprint("next ", number), c, false)
			}
		}
		for _, k := range wrongStatements() {
			list := []impl.Cert{cert(k.x, enough(f)...), cert(revoke(k.x.Epoch, k.x.Form, k.x.Set), enough(f)...)}
			c.x, c.w.Revoked = k.x, list
			checkRevoked(t, k.name, c, false)
			c.w.Revoked = append(list, cert(revoke(2, 1, 1), enough(f)...))
			checkRevoked(t, k.name, c, false)
		}
	}
}

func TestRevokedByOfNoIssue(t *testing.T) { // what has an Epoch, a Form and a Set is revoked by them; a next and a take have no Form
	list := said(revoke(2, 1, 1), next(2, 1), take(2, 1), next(2, 0), take(2, 0), issue(2, 1, 2))
	for f := int64(1); f <= 2; f++ {
		c := market(f, enough(f), list...)
		for _, x := range said(next(2, 1), take(2, 1), next(2, 0), take(2, 0), next(1, 1), revoke(2, 1, 2), revoke(3, 1, 1), issue(2, 1, 2)) {
			checkRevoked(t, fmt.Sprint(x), c.shows(enough(f), nil, x, list...), false)
		}
		checkRevoked(t, "a revoke", c.shows(enough(f), nil, revoke(2, 1, 1), list...), true)
		checkRevoked(t, "a revoke of what is issued alone", c.shows(enough(f), nil, revoke(2, 1, 2), issue(2, 1, 2)), false)
	}
}

func TestRevokedByOfEachGroupOfRevokes(t *testing.T) {
	var gone []impl.Statement
	for number := range int64(8) {
		gone = append(gone, revoke(number/4+2, number/2%2+1, number%2+1))
	}
	c := market(1, []int64{4, 2, 1}, gone...)
	for _, group := range groupsOf(8) {
		var list []impl.Statement
		for _, place := range group {
			list = append(list, gone[place-1])
		}
		for place, x := range gone {
			x.Kind = impl.SayIssue
			checkRevoked(t, fmt.Sprint("group ", group), c.shows([]int64{1, 2, 4}, nil, x, list...), slices.Contains(group, int64(place)+1))
		}
	}
}

// wayTo has steps of the house, and the place that counts behind them.
type wayTo struct {
	steps []impl.Statement
	place int64
}

func waysInTheHouse() []wayTo {
	return []wayTo{
		{nil, 0}, {said(next(2, 1)), 1}, {said(next(2, 2)), 2}, {said(next(2, 1), next(3, 3)), 3}, {said(next(2, 2), next(3, 6)), 6},
		{said(next(2, 1), next(3, 6), next(4, 5)), 5}, {said(next(2, 2), next(3, 3), next(4, 5)), 5},
	}
}

// epochAt is that of a place of the house.
func epochAt(place int64) int64 {
	return []int64{2, 3, 3, 4, 2, 5, 4}[place]
}

// someSets are of few principals and of many.
func someSets() []int64 {
	return []int64{1, 2, 3, 4, 5, 6, 7, 8, 9, 12, 15, 16, 24, 32, 33, 64, 96, 127, 128, 254, 255}
}

func TestWhatIsAllowedIsAccepted(t *testing.T) { // P15: just what the configuration that counts behind the chain allows, be it told elsewhere or not
	codes := map[int64]int{}
	for f := int64(1); f <= 2; f++ {
		for _, way := range waysInTheHouse() {
			for form := int64(1); form <= 4; form++ {
				for _, set := range someSets() {
					x := issue(epochAt(way.place), form, set)
					allowed := form == 1 && set == 1<<way.place || form == 2 && (set == 1 || set == 2 || set == 4) || form == 3 && set <= 7
					code := codeWhere(!allowed, impl.ErrPolicy)
					codes[code]++
					c := market(f, enough(f), append(slices.Clone(way.steps), x)...).shows(enough(f), way.steps, x)
					checkAccepted(t, fmt.Sprint("form ", form, ", set ", set, " at place ", way.place), c, code)
				}
			}
		}
	}
	checkCodes(t, "AcceptWallet", codes, impl.OK, impl.ErrPolicy)
}

func TestWhoSignedWallets(t *testing.T) { // enough of all, and each certificate by another group of them
	for f := int64(1); f <= 2; f++ {
		all := listOfSet(1<<(3*f+1) - 1)
		steps := said(next(2, 1), next(3, 6))
		x, other := issue(4, 2, 4), revoke(4, 2, 2)
		c := market(f, turned(all, 2), append(slices.Clone(steps), x, other)...)
		for i, group := range groupsOf(3*f + 1) {
			if f == 2 && i%3 != 1 {
				continue
			}
			code := codeWhere(int64(len(group)) <= 2*f, impl.ErrSign)
			show := func(name string, turn func(*impl.Wallet), code int64) {
				t.Helper()
				d := c.shows(enough(f), steps, x, other)
				turn(&d.w)
				checkAccepted(t, fmt.Sprint(name, " by ", group), d, code)
			}
			show("Issued", func(w *impl.Wallet) { w.Issued.Signers = group }, code)
			show("the first link", func(w *impl.Wallet) { w.Chain[0].Signers = group }, code)
			show("the second link", func(w *impl.Wallet) { w.Chain[1].Signers = group }, code)
			show("a revoke of something else", func(w *impl.Wallet) { w.Revoked[0].Signers = group }, impl.OK)
		}
	}
}

func TestWalletsWithoutAChain(t *testing.T) {
	for f := int64(1); f <= 2; f++ {
		c := market(f, enough(f), issue(2, 1, 1), next(2, 1)).shows(enough(f), nil, issue(2, 1, 1))
		for _, chain := range [][]impl.Cert{nil, {}} {
			for _, revoked := range [][]impl.Cert{nil, {}} {
				c.w.Chain, c.w.Revoked = chain, revoked
				checkAccepted(t, "no chain", c, impl.OK)
			}
		}
		c.configs = c.configs[:1]
		checkAccepted(t, "one configuration", c, impl.OK)
	}
	checkAccepted(t, "nothing", relyCase{}, impl.ErrMany)
	checkAccepted(t, "no wallet", market(1, nil), impl.ErrForm)
}

func TestWalletsOfAnotherEpoch(t *testing.T) { // P15: ahead of and behind the one that counts
	for f := int64(1); f <= 2; f++ {
		for _, way := range waysInTheHouse() {
			for epoch := int64(1); epoch <= 9; epoch++ {
				code := codeWhere(epoch != epochAt(way.place), impl.ErrState)
				x, gone, none := issue(epoch, 2, 2), revoke(epoch, 2, 2), issue(epoch, 4, 200)
				c := market(f, enough(f), append(slices.Clone(way.steps), x, gone, none)...)
				checkAccepted(t, fmt.Sprint("epoch ", epoch), c.shows(enough(f), way.steps, x), code)
				if code != impl.OK {
					checkAccepted(t, fmt.Sprint("epoch ", epoch, ", revoked"), c.shows(enough(f), way.steps, x, gone), code)
					checkAccepted(t, fmt.Sprint("epoch ", epoch, ", not allowed"), c.shows(enough(f), way.steps, none), code)
				}
			}
		}
	}
}

func TestCertificatesOfSomethingElse(t *testing.T) { // P15: where Issued, a link or one of Revoked is asked
	steps := said(next(2, 1), next(3, 6))
	x := issue(4, 1, 64)
	notIssued := said(revoke(4, 1, 64), take(4, 5), next(4, 5), take(2, 1), next(2, 1), revoke(2, 1, 1), take(9, 7), next(9, 7))
	notLinks := said(take(3, 6), issue(3, 1, 2), revoke(3, 1, 2), x, revoke(4, 1, 64), take(2, 1))
	notRevokes := said(x, next(4, 5), take(4, 5), next(2, 1))
	var all []impl.Statement
	for _, y := range slices.Concat(steps, said(x), notIssued, notLinks, notRevokes) {
		if !slices.Contains(all, y) {
			all = append(all, y)
		}
	}
	for f := int64(1); f <= 2; f++ {
		c := market(f, enough(f), all...)
		checkAccepted(t, "right", c.shows(enough(f), steps, x), impl.OK)
		for _, y := range notIssued {
			checkAccepted(t, "Issued", c.shows(enough(f), steps, y), impl.ErrForm)
			checkAccepted(t, "Issued, without a chain", c.shows(enough(f), nil, y), impl.ErrForm)
			checkAccepted(t, "Issued, revoked", c.shows(enough(f), steps, y, y, revoke(4, 1, 64)), impl.ErrForm)
		}
		for _, y := range notLinks {
			checkAccepted(t, "the first link", c.shows(enough(f), said(y, steps[1]), x), impl.ErrForm)
			checkAccepted(t, "the second link", c.shows(enough(f), said(steps[0], y), x), impl.ErrForm)
			checkAccepted(t, "a third link", c.shows(enough(f), said(steps[0], steps[1], y), x), impl.ErrForm)
		}
		for _, y := range notRevokes {
			checkAccepted(t, "Revoked", c.shows(enough(f), steps, x, y), impl.OK)
			checkAccepted(t, "Revoked, ahead of the right one", c.shows(enough(f), steps, x, y, revoke(4, 1, 64)), impl.ErrOld)
			checkAccepted(t, "Revoked, behind the right one", c.shows(enough(f), steps, x, revoke(4, 1, 64), y), impl.ErrOld)
		}
	}
}

func TestVerifyCertOfIssued(t *testing.T) { // each code of it, ahead of what Issued says
	codes := map[int64]int{}
	list := said(issue(3, 1, 2), issue(3, 4, 99), issue(2, 1, 1), next(3, 3), take(3, 3), revoke(3, 1, 2))
	for f := int64(1); f <= 2; f++ {
		c := market(f, enough(f), append(said(next(2, 1)), list...)...)
		for _, x := range list {
			for _, signers := range badSigners(f) {
				d := c.shows(enough(f), said(next(2, 1)), x, revoke(3, 1, 2))
				d.w.Issued.Signers = signers
				code := wantVerified(d.shares, f, d.w.Issued)
				codes[code]++
				checkAccepted(t, fmt.Sprint("signers ", signers), d, code)
			}
		}
		for _, k := range wrongStatements() {
			checkAccepted(t, k.name, c.shows(enough(f), said(next(2, 1)), k.x), k.want)
			checkAccepted(t, k.name+" of signers who fall", c.shows([]int64{2, 1}, nil, k.x), k.want)
		}
		checkAccepted(t, "not signed", c.shows(enough(f), said(next(2, 1)), issue(3, 2, 4)), impl.ErrSign)
	}
	if codes[impl.OK] != 0 || codes[impl.ErrForm] < 5 || codes[impl.ErrRange] < 5 || codes[impl.ErrSign] < 5 {
		t.Errorf("the codes are %v", codes)
	}
}

func TestHowManyAreRevoked(t *testing.T) { // behind the chain, ahead of all that Issued is asked
	for f := int64(1); f <= 2; f++ {
		steps, x := said(next(2, 1)), issue(3, 1, 2)
		c := market(f, enough(f), next(2, 1), x, revoke(3, 1, 2), revoke(3, 1, 1)).shows(enough(f), steps, x, revoke(3, 1, 1), revoke(3, 1, 2))
		other, right := c.w.Revoked[0], c.w.Revoked[1]
		for _, count := range []int{0, 1, 2, 9, 10, 11, 12, 21, 100, 100000} {
			code, gone, nothing := int64(impl.OK), int64(impl.ErrOld), int64(impl.ErrForm)
			if count > 10 {
				code, gone, nothing = impl.ErrMany, impl.ErrMany, impl.ErrMany
			}
			for _, filler := range []impl.Cert{other, {}} {
				c.w.Revoked = slices.Repeat([]impl.Cert{filler}, count)
				checkAccepted(t, fmt.Sprint(count), c, code)
				wrong := c
				wrong.w.Issued = impl.Cert{}
				checkAccepted(t, fmt.Sprint(count, ", and nothing issued"), wrong, nothing)
				wrong.w.Chain = certsBy(enough(f), take(2, 1))
				checkAccepted(t, fmt.Sprint(count, ", and a wrong chain"), wrong, impl.ErrSign)
				if count > 0 {
					c.w.Revoked[0] = right
					checkAccepted(t, fmt.Sprint("the first of ", count), c, gone)
					c.w.Revoked[0], c.w.Revoked[count-1] = filler, right
					checkAccepted(t, fmt.Sprint("the last of ", count), c, gone)
				}
			}
		}
	}
}

func TestRevokedWallets(t *testing.T) { // P15: by a certificate that is right, of its epoch, form and set, and by no other one
	steps := said(next(2, 1))
	x, gone := issue(3, 2, 2), revoke(3, 2, 2)
	elsewhere := said(revoke(2, 2, 2), revoke(4, 2, 2), revoke(3, 1, 2), revoke(3, 3, 2), revoke(3, 2, 1), revoke(3, 2, 4), revoke(3, 2, 3), revoke(3, 2, 254))
	for f := int64(1); f <= 2; f++ {
		c := market(f, enough(f), slices.Concat(steps, said(x, gone), elsewhere)...)
		checkAccepted(t, "not shown", c.shows(enough(f), steps, x), impl.OK)
		checkAccepted(t, "shown", c.shows(enough(f), steps, x, gone), impl.ErrOld)
		checkAccepted(t, "all elsewhere", c.shows(enough(f), steps, x, elsewhere...), impl.OK)
		for place, other := range elsewhere {
			checkAccepted(t, "elsewhere", c.shows(enough(f), steps, x, other), impl.OK)
			checkAccepted(t, fmt.Sprint("at ", place), c.shows(enough(f), steps, x, slices.Insert(slices.Clone(elsewhere), place, gone)...), impl.ErrOld)
			y := other
			y.Kind = impl.SayIssue // that one is not revoked by what revokes x
			c.shares = append(c.shares, sharesOf(y, enough(f)...)...)
			if wantAllowed(c.configs[1], y.Form, y.Set) && y.Epoch == 3 {
				checkAccepted(t, "what is issued elsewhere", c.shows(enough(f), steps, y, gone), impl.OK)
				checkAccepted(t, "what is issued elsewhere, revoked", c.shows(enough(f), steps, y, gone, other), impl.ErrOld)
			}
		}
		for _, signers := range badSigners(f) {
			d := c.shows(enough(f), steps, x, gone)
			d.w.Revoked[0].Signers = signers
			checkAccepted(t, fmt.Sprint("revoked by ", signers), d, impl.OK)
			d.w.Revoked = append(d.w.Revoked, cert(gone, enough(f)...))
			checkAccepted(t, fmt.Sprint("revoked by ", signers, ", and rightly"), d, impl.ErrOld)
		}
		for _, k := range wrongStatements() {
			checkAccepted(t, k.name, c.shows(enough(f), steps, x, k.x), impl.OK)
			checkAccepted(t, k.name, c.shows(enough(f), steps, x, k.x, gone), impl.ErrOld)
		}
	}
}

type relyFlaw struct {
	name string
	code int64
	turn func(*relyCase)
}

// groundFlaws are of what a chain leads through: they are told ahead of all else.
func groundFlaws() []relyFlaw {
	return []relyFlaw{
		{"no configs", impl.ErrMany, func(c *relyCase) { c.configs = nil }},
		{"a config", impl.ErrRange, func(c *relyCase) { c.configs[4].Epoch = 0 }},
		{"another F", impl.ErrForm, func(c *relyCase) { c.configs[6].F = 3 - c.f }},
		{"too many shares", impl.ErrMany, func(c *relyCase) { c.shares = append(c.shares, make([]impl.Share, 121)...) }},
		{"a share of no member", impl.ErrRange, func(c *relyCase) { c.shares[1].Replica = 3*c.f + 2 }},
		{"a share twice", impl.ErrTaken, func(c *relyCase) { c.shares = append(c.shares, c.shares[0]) }},
	}
}

// walletFlaws stand in the order in which they are told, and go together, as each one changes something else of a wallet.
func walletFlaws() []relyFlaw {
	last := func(c *relyCase) *int64 { return &c.w.Issued.Signers[len(c.w.Issued.Signers)-1] }
	return []relyFlaw{
		{"9 links", impl.ErrMany, func(c *relyCase) { c.w.Chain = append(c.w.Chain, make([]impl.Cert, 6)...) }},
		{"a link whose signers fall", impl.ErrForm, func(c *relyCase) { slices.Reverse(c.w.Chain[0].Signers) }},
		{"a link that too few signed", impl.ErrSign, func(c *relyCase) { c.w.Chain[1].Signers = []int64{1, 2} }},
		{"a take as a link", impl.ErrForm, func(c *relyCase) { c.w.Chain[1].Statement.Kind = impl.SayTake }},
		{"a link of another epoch", impl.ErrState, func(c *relyCase) { c.w.Chain[2].Statement.Epoch = 3 }},
		{"a link to no place", impl.ErrRange, func(c *relyCase) { c.w.Chain[2].Statement.Next = 7 }},
		{"a link to an epoch that does not follow", impl.ErrState, func(c *relyCase) { c.w.Chain[2].Statement.Next = 4 }},
		{"11 revoked", impl.ErrMany, func(c *relyCase) { c.w.Revoked = append(c.w.Revoked, make([]impl.Cert, 11)...) }},
		{"an issued with a next", impl.ErrForm, func(c *relyCase) { c.w.Issued.Statement.Next = 1 }},
		{"an issued whose signers fall", impl.ErrForm, func(c *relyCase) { slices.Reverse(c.w.Issued.Signers) }},
		{"an issued of no member", impl.ErrRange, func(c *relyCase) { *last(c) = 3*c.f + 2 }},
		{"an issued that too few signed", impl.ErrSign, func(c *relyCase) { c.w.Issued.Signers = []int64{1, 2} }},
		{"an issued that one did not sign", impl.ErrSign, func(c *relyCase) { *last(c) = 3*c.f + 1 }},
		{"a revoke as what is issued", impl.ErrForm, func(c *relyCase) { c.w.Issued.Statement.Kind = impl.SayRevoke }},
		{"an issued of another epoch", impl.ErrState, func(c *relyCase) { c.w.Issued.Statement.Epoch = 4 }},
		{"an issued that is not allowed", impl.ErrPolicy, func(c *relyCase) { c.w.Issued.Statement.Set = 64 }},
		{"revoked", impl.ErrOld, func(c *relyCase) {
			c.w.Revoked = certsBy(enough(c.f), revoke(5, 1, 32), revoke(5, 1, 64), revoke(4, 1, 32), revoke(4, 1, 64))
		}},
	}
}

// longWay is a wallet behind three steps, beside shares of all that the flaws make of it.
func longWay(f int64) relyCase {
	steps := said(next(2, 1), next(3, 6), next(4, 5))
	turns := said(take(3, 6), next(3, 5), next(3, 7), next(3, 4), next(4, 7), next(4, 4))
	for _, epoch := range []int64{5, 4} {
		for _, set := range []int64{32, 64} {
			turns = append(turns, issue(epoch, 1, set), revoke(epoch, 1, set))
		}
	}
	return market(f, enough(f), append(slices.Clone(steps), turns...)...).shows(enough(f), steps, issue(5, 1, 32), revoke(4, 1, 32))
}

func TestWalletCodesInTheirOrder(t *testing.T) {
	flaws := append(groundFlaws(), walletFlaws()...)
	for f := int64(1); f <= 2; f++ {
		checkAccepted(t, "right", longWay(f), impl.OK)
		for i, one := range flaws {
			c := longWay(f)
			one.turn(&c)
			checkAccepted(t, one.name, c, one.code)
			for j, two := range flaws[i+1:] {
				c := longWay(f)
				two.turn(&c) // the other way about there may be no list left to turn
				one.turn(&c)
				checkAccepted(t, one.name+", and "+two.name, c, one.code)
				for _, three := range flaws[i+1:][j+1:] {
					c := longWay(f)
					three.turn(&c)
					two.turn(&c)
					one.turn(&c)
					if got := impl.AcceptWallet(c.configs, c.shares, c.w); got != one.code {
						t.Errorf("%s, %s and %s: %d, want %d", one.name, two.name, three.name, got, one.code)
					}
				}
			}
		}
	}
}

func TestGroundOfWallets(t *testing.T) { // the codes of VerifyChain and ReachOf, whatever wallet is shown and whatever x is asked for
	for f := int64(1); f <= 2; f++ {
		var grounds []relyCase
		for _, flaw := range groundFlaws() {
			c := longWay(f)
			flaw.turn(&c)
			grounds = append(grounds, c)
		}
		for i, k := range wrongConfigs() {
			if i%3 == int(f) {
				c := longWay(f)
				c.configs = append(c.configs, k.config)
				grounds = append(grounds, c)
			}
		}
		for _, k := range wrongStatements() {
			c := longWay(f)
			c.shares = append(c.shares, share(2, k.x))
			grounds = append(grounds, c)
		}
		for _, c := range grounds {
			code := wantGround(c.configs, c.shares)
			if code == impl.OK {
				t.Fatalf("%s has no fault", c.text())
			}
			for _, w := range []impl.Wallet{c.w, {}, {Chain: make([]impl.Cert, 9)}, {Chain: c.w.Chain, Issued: c.w.Issued, Revoked: make([]impl.Cert, 11)}} {
				c.w = w
				checkAccepted(t, "ground", c, code)
			}
			for _, x := range said(c.x, issue(2, 1, 1), issue(9, 1, 1), revoke(5, 1, 32), next(2, 1), issue(0, 1, 1), impl.Statement{}) {
				c.x = x
				checkMade(t, "ground", c, code)
			}
		}
	}
}

func numbersOfWallet(w *impl.Wallet) []*int64 {
	var all []*int64
	add := func(c *impl.Cert) {
		all = append(all, numbersOfStatement(&c.Statement)...)
		for i := range c.Signers {
			all = append(all, &c.Signers[i])
		}
	}
	for i := range w.Chain {
		add(&w.Chain[i])
	}
	add(&w.Issued)
	for i := range w.Revoked {
		add(&w.Revoked[i])
	}
	return all
}

func TestWalletsOneNumberAway(t *testing.T) {
	codes := map[int64]int{}
	for f := int64(1); f <= 2; f++ {
		for _, base := range []relyCase{longWay(f), market(f, enough(f), issue(2, 1, 1), revoke(2, 1, 1), revoke(2, 2, 1)).shows(enough(f), nil, issue(2, 1, 1), revoke(2, 1, 1), revoke(2, 2, 1))} {
			c := base.copied()
			numbers := append(numbersOfWallet(&c.w), numbersOfConfig(&c.configs[0])...)
			for i := range c.shares[:min(len(c.shares), 30)] {
				numbers = append(append(numbers, &c.shares[i].Replica), numbersOfStatement(&c.shares[i].Statement)...)
			}
			for place, number := range numbers {
				kept := *number
				for _, by := range []int64{1, -1, 2, 1 << 40} {
					*number = kept + by
					want := wantAccepted(c.configs, c.shares, c.w)
					checkAccepted(t, fmt.Sprint("number ", place, " by ", by), c, want)
					codes[want]++
				}
				*number = kept
			}
		}
	}
	checkCodes(t, "AcceptWallet", codes, impl.OK, impl.ErrForm, impl.ErrRange, impl.ErrTaken, impl.ErrSign, impl.ErrOld)
}

func TestMakeWalletByHand(t *testing.T) {
	all := said(
		next(2, 1), next(2, 2), next(3, 6), next(4, 5), issue(2, 1, 1), issue(3, 1, 2), issue(4, 1, 64), issue(5, 1, 32), issue(3, 1, 4),
		revoke(3, 1, 2), revoke(4, 1, 32), revoke(5, 2, 32), revoke(2, 1, 2), revoke(3, 1, 8),
	)
	for f := int64(1); f <= 2; f++ {
		signers := enough(f)
		made := func(x impl.Statement, chain []impl.Statement, revoked ...impl.Statement) {
			t.Helper()
			c := market(f, turned(signers, 2), all...).shows(signers, chain, x, revoked...)
			if got := checkMade(t, "made", c, impl.OK); !sameWallets(impl.WalletResult{Wallet: got}, impl.WalletResult{Wallet: c.w}) {
				t.Errorf("MakeWallet of %+v = %+v, want %+v", x, got, c.w)
			}
		}
		made(issue(2, 1, 1), nil)
		made(issue(3, 1, 2), said(next(2, 1)), revoke(3, 1, 2))
		made(issue(3, 1, 4), said(next(2, 1)))
		made(issue(4, 1, 64), said(next(2, 1), next(3, 6)))
		made(issue(5, 1, 32), said(next(2, 1), next(3, 6), next(4, 5)))
	}
}

// TestMadeWalletsOfEachEpoch has shares that lead on to epoch 5, up to some place of it: further on there is nothing of them in the chain.
func TestMadeWalletsOfEachEpoch(t *testing.T) { // P15
	for f := int64(1); f <= 2; f++ {
		for _, way := range waysInTheHouse() {
			for length := range len(way.steps) + 1 {
				place := int64(0)
				if length > 0 {
					place = way.steps[length-1].Next
				}
				for epoch := int64(1); epoch <= 9; epoch++ {
					x := issue(epoch, 2, 2)
					c := market(f, enough(f), append(slices.Clone(way.steps[:length]), x)...)
					c.x = x
					if at := epoch - 2; at >= 0 && at <= int64(length) {
						w := checkMade(t, fmt.Sprint("epoch ", epoch), c, impl.OK)
						if !sameCertLists(w.Chain, certsBy(enough(f), way.steps[:at]...)) || len(w.Revoked) != 0 {
							t.Errorf("epoch %d of %v: %+v", epoch, way.steps, w)
						}
						c.w = w
						checkAccepted(t, fmt.Sprint("epoch ", epoch), c, impl.OK)
						continue
					}
					checkMade(t, fmt.Sprint("epoch ", epoch, " where place ", place, " is the last one"), c, impl.ErrState)
				}
			}
		}
	}
}

func TestMadeWalletsOfTheTower(t *testing.T) { // P15: the longest way
	list := climb(1, 7)
	for epoch := int64(1); epoch <= 9; epoch++ {
		x := issue(epoch, 1, 255)
		c := relyCase{configs: tower(), shares: signedBy(listOfSet(127), append(slices.Clone(list), x, revoke(epoch, 2, 255))...), f: 2, x: x}
		if epoch == 9 {
			checkMade(t, "behind the last one", c, impl.ErrState)
			continue
		}
		c.w = checkMade(t, fmt.Sprint("epoch ", epoch), c, impl.OK)
		if len(c.w.Chain) != int(epoch)-1 || len(c.w.Revoked) != 0 {
			t.Errorf("epoch %d: %+v", epoch, c.w)
		}
		checkAccepted(t, fmt.Sprint("epoch ", epoch), c, impl.OK)
	}
}

func TestMakeWalletOfNoIssue(t *testing.T) { // each code of StatementFault, then what is no issue, ahead of its epoch and its signers
	for f := int64(1); f <= 2; f++ {
		list := said(next(2, 1), take(2, 1), revoke(2, 1, 1), revoke(3, 1, 1), issue(2, 1, 1))
		for _, c := range []relyCase{market(f, enough(f), list...), market(f, nil), market(f, enough(f)[1:], list...)} {
			for _, k := range wrongStatements() {
				c.x = k.x
				checkMade(t, k.name, c, k.want)
			}
			for _, x := range append(list[:4:4], next(9, 7), take(1, 0), revoke(9, 4, 255), revoke(1, 1, 1)) {
				c.x = x
				checkMade(t, "no issue", c, impl.ErrForm)
			}
		}
	}
}

func TestMakeWalletByWhoSigned(t *testing.T) { // P15: enough or too few, of x, of a step and of a revoke
	for f := int64(1); f <= 2; f++ {
		x, gone := issue(3, 1, 2), revoke(3, 1, 2)
		for i, group := range groupsOf(3*f + 1) {
			some, most := turned(group, i), enough(f)
			several := int64(len(group)) > 2*f
			first := group[:min(len(group), int(2*f)+1)]
			ground := func(steps []int64, issued []int64, revoked []int64) relyCase {
				return relyCase{configs: withF(house(), f), shares: slices.Concat(sharesOf(gone, revoked...), sharesOf(x, issued...), sharesOf(next(2, 1), steps...)), f: f, x: x}
			}
			issued := checkMade(t, fmt.Sprint("issued by ", group), ground(most, some, nil), codeWhere(!several, impl.ErrSign))
			step := checkMade(t, fmt.Sprint("a step by ", group), ground(some, most, nil), codeWhere(!several, impl.ErrState))
			revoked := checkMade(t, fmt.Sprint("revoked by ", group), ground(most, most, some), impl.OK)
			if several && (!slices.Equal(issued.Issued.Signers, first) || !sameCertLists(step.Chain, certsBy(first, next(2, 1))) || !sameCertLists(revoked.Revoked, certsBy(first, gone))) {
				t.Errorf("group %v: %+v, %+v and %+v", group, issued, step, revoked)
			}
			if !several && len(revoked.Revoked) != 0 {
				t.Errorf("group %v: %+v", group, revoked)
			}
			c := ground(most, most, some)
			c.w = revoked
			checkAccepted(t, fmt.Sprint("revoked by ", group), c, codeWhere(several, impl.ErrOld))
		}
	}
}

func TestMadeWalletsLeaveOutWhatIsRevokedElsewhere(t *testing.T) {
	x, gone := issue(3, 2, 2), revoke(3, 2, 2)
	elsewhere := said(revoke(2, 2, 2), revoke(4, 2, 2), revoke(3, 1, 2), revoke(3, 3, 2), revoke(3, 2, 1), revoke(3, 2, 3), revoke(3, 2, 4), take(3, 3), next(3, 3), issue(3, 2, 1))
	for f := int64(1); f <= 2; f++ {
		for _, other := range elsewhere {
			c := market(f, enough(f), next(2, 1), other, x)
			c.x = x
			c.w = checkMade(t, fmt.Sprint(other), c, impl.OK)
			if len(c.w.Revoked) != 0 {
				t.Errorf("%+v: %+v", other, c.w)
			}
			checkAccepted(t, fmt.Sprint(other), c, impl.OK)
		}
		for place := range len(elsewhere) + 1 {
			c := market(f, enough(f), append(slices.Insert(slices.Clone(elsewhere), place, gone), x, next(2, 1))...)
			c.x = x
			c.w = checkMade(t, fmt.Sprint("at ", place), c, impl.OK)
			if !sameCertLists(c.w.Revoked, certsBy(enough(f), gone)) {
				t.Errorf("at %d: %+v", place, c.w)
			}
			checkAccepted(t, fmt.Sprint("at ", place), c, impl.ErrOld)
		}
	}
}

func TestMakeWalletCodesInTheirOrder(t *testing.T) {
	flaws := append(groundFlaws(),
		relyFlaw{"a statement", impl.ErrForm, func(c *relyCase) { c.x.Next = 1 }},
		relyFlaw{"no set", impl.ErrRange, func(c *relyCase) { c.x.Set = 256 }},
		relyFlaw{"a revoke", impl.ErrForm, func(c *relyCase) { c.x.Kind = impl.SayRevoke }},
		relyFlaw{"an epoch that is not reached", impl.ErrState, func(c *relyCase) { c.x.Epoch = 6 }},
		relyFlaw{"not signed", impl.ErrSign, func(c *relyCase) { c.x.Form = 2 }},
	)
	for f := int64(1); f <= 2; f++ {
		checkMade(t, "right", longWay(f), impl.OK)
		for i, one := range flaws {
			c := longWay(f)
			one.turn(&c)
			checkMade(t, one.name, c, one.code)
			for _, two := range flaws[i+1:] {
				c := longWay(f)
				two.turn(&c)
				one.turn(&c)
				checkMade(t, one.name+", and "+two.name, c, one.code)
			}
		}
		ahead := longWay(f)
		ahead.x = issue(1, 1, 1)
		ahead.shares = append(ahead.shares, sharesOf(ahead.x, enough(f)...)...)
		checkMade(t, "signed, of an epoch ahead of the first one", ahead, impl.ErrState)
		ahead.x = issue(1, 1, 2)
		checkMade(t, "not signed, of an epoch ahead of the first one", ahead, impl.ErrState)
		ahead.x = issue(6, 1, 1)
		ahead.shares = append(ahead.shares, sharesOf(ahead.x, enough(f)...)...)
		checkMade(t, "signed, of an epoch behind the last one", ahead, impl.ErrState)
	}
}

func TestMadeWalletsOfWhatIsNotAllowed(t *testing.T) { // P15: it is made, and not accepted, also where it is revoked
	for f := int64(1); f <= 2; f++ {
		for _, x := range said(issue(3, 1, 4), issue(3, 4, 1), issue(3, 2, 3), issue(3, 3, 8), issue(3, 1, 255)) {
			gone := revoke(x.Epoch, x.Form, x.Set)
			for _, list := range [][]impl.Statement{said(next(2, 1), x), said(next(2, 1), x, gone)} {
				c := market(f, enough(f), list...)
				c.x = x
				c.w = checkMade(t, "not allowed", c, impl.OK)
				if len(c.w.Revoked) != len(list)-2 {
					t.Errorf("%+v: %+v", list, c.w)
				}
				checkAccepted(t, "not allowed", c, impl.ErrPolicy)
			}
		}
	}
}

func TestWalletsAreMadeByTheFirstPlaceOfAnEpoch(t *testing.T) { // where two steps are signed, the first one leads on; a wallet may show the other one
	for f := int64(1); f <= 2; f++ {
		one, two := issue(3, 1, 2), issue(3, 1, 4)
		c := market(f, enough(f), next(2, 2), next(2, 1), one, two)
		for _, x := range said(one, two) {
			c.x = x
			c.w = checkMade(t, "made", c, impl.OK)
			if !sameCertLists(c.w.Chain, certsBy(enough(f), next(2, 1))) {
				t.Errorf("%+v: %+v", x, c.w)
			}
			checkAccepted(t, "by the first place", c, codeWhere(x == two, impl.ErrPolicy))
			checkAccepted(t, "by the other place", c.shows(enough(f), said(next(2, 2)), x), codeWhere(x == one, impl.ErrPolicy))
		}
	}
}

func TestWalletsOfClusters(t *testing.T) { // P15: issued, revoked and gone on with by replicas, beside one who is bad
	for f := int64(1); f <= 2; f++ {
		x, gone := issue(2, 2, 1), revoke(2, 2, 1)
		c := after(t, impl.NewCluster(withF(house(), f), []int64{2}).Cluster, forges(2, issue(2, 1, 8)), forges(2, gone), asksAll(x))
		rely := relyCase{configs: c.Configs, shares: c.Shares, f: f, x: x}
		rely.w = checkMade(t, "issued", rely, impl.OK)
		checkAccepted(t, "issued", rely, impl.OK)
		old := rely
		rely.x = issue(2, 1, 8)
		checkMade(t, "forged", rely, impl.ErrSign)
		c = after(t, c, asksAll(gone), asksAll(next(2, 2)))
		rely.x, rely.shares = x, c.Shares
		rely.w = checkMade(t, "revoked", rely, impl.OK)
		checkAccepted(t, "revoked", rely, impl.ErrOld)
		old.shares = c.Shares
		checkAccepted(t, "revoked, and not shown", old, impl.OK)
		c = after(t, c, asksAll(take(2, 2)), asksAll(issue(3, 1, 4)))
		rely.x, rely.shares = issue(3, 1, 4), c.Shares
		rely.w = checkMade(t, "an epoch on", rely, impl.OK)
		checkAccepted(t, "an epoch on", rely, impl.OK)
		if len(rely.w.Chain) != 1 || rely.w.Chain[0].Statement != next(2, 2) || !slices.Equal(impl.WhoIn(rely.w).List, []int64{3}) {
			t.Errorf("an epoch on: %+v", rely.w)
		}
		old.shares = c.Shares
		checkAccepted(t, "an epoch on, the old one", old, impl.OK)
		old.w.Chain = rely.w.Chain
		checkAccepted(t, "an epoch on, the old one behind the step", old, impl.ErrState)
	}
}

func TestWhoIn(t *testing.T) {
	for set := 1; set < allSets; set++ {
		for epoch := int64(1); epoch <= 9; epoch += 4 {
			checkWho(t, "a set", issue(epoch, epoch%4+1, int64(set)), []int64{3, 1}, impl.IntsResult{List: listOfSet(set)})
		}
	}
	checkWho(t, "by hand", issue(1, 1, 1), nil, impl.IntsResult{List: []int64{1}})
	checkWho(t, "by hand", issue(1, 1, 5), []int64{}, impl.IntsResult{List: []int64{1, 3}})
	checkWho(t, "by hand", issue(9, 4, 128), []int64{9, 9}, impl.IntsResult{List: []int64{8}})
	checkWho(t, "by hand", issue(9, 4, 255), []int64{0}, impl.IntsResult{List: []int64{1, 2, 3, 4, 5, 6, 7, 8}})
	for _, count := range []int{0, 1, 19, 20, 21, 22, 40, 100000} {
		for _, signer := range []int64{1, 0, math.MaxInt64} { // nothing is asked of the signers but how many they are
			signers := repeated(signer, count)
			want := func(r impl.IntsResult) impl.IntsResult {
				if count > 20 {
					return impl.IntsResult{Code: impl.ErrMany}
				}
				return r
			}
			checkWho(t, fmt.Sprint(count), issue(1, 1, 6), signers, want(impl.IntsResult{List: []int64{2, 3}}))
			for _, k := range wrongStatements() {
				checkWho(t, k.name, k.x, signers, want(impl.IntsResult{Code: k.want}))
			}
			for _, x := range said(revoke(1, 1, 6), next(1, 6), take(1, 6), next(9, 0)) {
				checkWho(t, "no issue", x, signers, want(impl.IntsResult{Code: impl.ErrForm}))
			}
		}
	}
}

func TestReasonText(t *testing.T) {
	texts := []string{"accepted", "malformed", "too many", "out of range", "none", "unreadable", "taken", "not signed", "not allowed", "revoked", "wrong epoch"}
	for code, text := range texts {
		if got := impl.ReasonText(int64(code)); got != (impl.TextResult{Text: text}) {
			t.Errorf("ReasonText(%d) = %+v, want %q", code, got, text)
		}
	}
	for _, code := range []int64{-1, 11, -2, 12, -11, 255, 1 << 32, 1<<32 + 1, -1 << 32, math.MinInt64, math.MinInt64 + 1, math.MaxInt64 - 1, math.MaxInt64} {
		if got := impl.ReasonText(code); got != (impl.TextResult{Code: impl.ErrRange}) {
			t.Errorf("ReasonText(%d) = %+v", code, got)
		}
	}
	named := map[int64]string{impl.OK: "accepted", impl.ErrMany: "too many", impl.ErrSign: "not signed", impl.ErrPolicy: "not allowed", impl.ErrOld: "revoked", impl.ErrState: "wrong epoch"}
	for code, text := range named {
		if got := impl.ReasonText(code).Text; got != text {
			t.Errorf("ReasonText(%d) is %q, want %q", code, got, text)
		}
	}
}

// configOf allows something by one of its forms in most draws.
func (d *dice) configOf(epoch int64, f int64) impl.Config {
	var c impl.Config
	for range 4 {
		c = d.config()
		c.Epoch, c.F = epoch, f
		if len(c.Forms) > 0 && impl.LeastOf(c.Rules, c.Forms[0].Parts).Value > 0 {
			break
		}
	}
	return c
}

// relyGround has drawn configurations without a fault, and shares that lead on through some of them; of what is issued
// most is allowed somewhere, and some is revoked.
func (d *dice) relyGround() relyCase {
	f, epoch := d.below(2)+1, d.below(4)+1
	c := relyCase{f: f}
	for place := range d.below(8) + 1 {
		if place > 0 && d.below(3) > 0 {
			epoch = min(9, epoch+1)
		}
		c.configs = append(c.configs, d.configOf(epoch, f))
	}
	if count := int64(len(c.configs)); count > 2 && d.below(5) == 0 {
		one, two := d.below(count-1)+1, d.below(count-1)+1
		c.configs[one], c.configs[two] = c.configs[two], c.configs[one]
	}
	for place, config := range c.configs {
		if config.Epoch > 1 && d.below(10) > 0 {
			c.sign(d, next(config.Epoch-1, int64(place)))
		}
	}
	reach := wantReach(c.configs, c.shares).List
	for range d.below(8) + 3 {
		place := d.below(int64(len(c.configs)))
		if d.below(5) > 0 {
			place = reach[d.below(int64(len(reach)))]
		}
		x := d.issued(c.configs[place])
		c.sign(d, x)
		if d.below(3) == 0 {
			c.sign(d, revoke(x.Epoch, x.Form, x.Set))
		}
	}
	return c
}

// issued is allowed by the configuration, if that allows anything, in most draws.
func (d *dice) issued(c impl.Config) impl.Statement {
	form := d.below(int64(len(c.Forms))+1) + 1
	if int(form) <= len(c.Forms) && d.below(5) > 0 {
		if sets := impl.SetsOf(c.Rules, c.Forms[form-1].Parts).Sets; len(sets) > 0 {
			if set := sets[d.below(int64(len(sets)))]; set > 0 {
				return issue(c.Epoch, form, set)
			}
		}
	}
	return issue(c.Epoch, min(form, 4), d.below(255)+1)
}

// sign leaves out what was signed already, and what there is no room for.
func (c *relyCase) sign(d *dice, x impl.Statement) {
	if len(c.shares) <= 120-7 && !slices.ContainsFunc(c.shares, func(s impl.Share) bool { return s.Statement == x }) {
		c.shares = append(c.shares, sharesOf(x, d.signersOfMost(c.f)...)...)
	}
}

// signedOf has each statement of the kind that enough signed, once.
func (c relyCase) signedOf(kind int64) []impl.Statement {
	var list []impl.Statement
	for _, s := range c.shares {
		if x := s.Statement; x.Kind == kind && !slices.Contains(list, x) && int64(len(wantSigners(c.shares, x))) > 2*c.f {
			list = append(list, x)
		}
	}
	return list
}

func (d *dice) certOf(c relyCase, list []impl.Statement) impl.Cert {
	if len(list) == 0 {
		return cert(issue(d.below(9)+1, 1, 1), d.signers(c.f)...)
	}
	x := list[d.below(int64(len(list)))]
	return cert(x, wantSigners(c.shares, x)...)
}

// wallet is one that is right in most of its parts: its chain is, and what is issued is of the epoch behind it where there is one.
func (d *dice) wallet(c relyCase) impl.Wallet {
	w := impl.Wallet{Chain: d.rightChain(chainCase{configs: c.configs, shares: c.shares})}
	issues, revokes := c.signedOf(impl.SayIssue), c.signedOf(impl.SayRevoke)
	epoch := c.configs[0].Epoch + int64(len(w.Chain))
	if own := slices.DeleteFunc(slices.Clone(issues), func(x impl.Statement) bool { return x.Epoch != epoch }); d.below(6) > 0 && len(own) > 0 {
		issues = own
	}
	w.Issued = d.certOf(c, issues)
	for range d.below(4) {
		w.Revoked = append(w.Revoked, d.certOf(c, revokes))
	}
	return w
}

// turnWallet changes something of it, which may or may not make it a wrong one.
func (d *dice) turnWallet(c *relyCase) {
	numbers := numbersOfWallet(&c.w)
	switch d.below(14) {
	case 0, 1:
		*numbers[d.below(int64(len(numbers)))] += d.below(3) - 1
	case 2:
		c.w.Issued = d.certOf(*c, c.signedOf(d.below(4)+1))
	case 3:
		c.w.Chain = append(c.w.Chain, d.certOf(*c, c.signedOf(d.below(4)+1)))
	case 4:
		if len(c.w.Chain) > 0 {
			c.w.Chain = c.w.Chain[1:]
		}
	case 5:
		c.w.Revoked = append(c.w.Revoked, c.w.Issued, d.certOf(*c, c.signedOf(d.below(4)+1)))
	case 6:
		x := c.w.Issued.Statement
		c.w.Revoked = append(c.w.Revoked, cert(revoke(x.Epoch, x.Form, x.Set), wantSigners(c.shares, revoke(x.Epoch, x.Form, x.Set))...))
	case 7:
		c.w.Revoked = append(c.w.Revoked, slices.Repeat([]impl.Cert{d.certOf(*c, c.signedOf(impl.SayRevoke))}, int(d.below(13)))...)
	case 8:
		if count := int64(len(c.w.Issued.Signers)); count > 0 {
			c.w.Issued.Signers = c.w.Issued.Signers[:d.below(count)]
		}
	case 9:
		c.w.Issued.Signers = append(slices.Clone(c.w.Issued.Signers), d.below(10))
	case 10:
		switch d.below(4) {
		case 0:
			c.shares = append(c.shares, share(d.below(9), d.statement()))
		case 1:
			c.shares = append(c.shares, c.shares[d.below(int64(len(c.shares)))])
		}
	case 11:
		if d.below(2) == 0 {
			c.configs[d.below(int64(len(c.configs)))].Epoch = d.below(11)
		}
	case 12:
		if d.below(3) == 0 {
			c.w.Chain = append(c.w.Chain, make([]impl.Cert, d.below(10))...)
		}
	}
}

// checkPromised asks of a wallet that is accepted what is promised of it.
func checkPromised(t *testing.T, c relyCase) {
	t.Helper()
	x, chain := c.w.Issued.Statement, impl.VerifyChain(c.configs, c.shares, c.w.Chain)
	if chain.Code != impl.OK {
		t.Fatalf("%s is accepted, and its chain has code %d", c.text(), chain.Code)
	}
	last := c.configs[chain.Places[len(chain.Places)-1]]
	switch {
	case !impl.IsSigned(c.shares, last.F, x) || int64(len(wantSigners(c.shares, x))) <= 2*last.F:
		t.Fatalf("%s is accepted, and not signed", c.text())
	case x.Kind != impl.SayIssue || x.Epoch != last.Epoch || x.Epoch != c.configs[0].Epoch+int64(len(c.w.Chain)):
		t.Fatalf("%s is accepted, and no issue of the epoch that counts", c.text())
	case !impl.AllowsIn(last, x.Form, x.Set) || !wantAllowed(last, x.Form, x.Set):
		t.Fatalf("%s is accepted, and not allowed", c.text())
	case impl.RevokedBy(c.shares, last.F, x, c.w.Revoked) || wantRevoked(c.shares, last.F, x, c.w.Revoked):
		t.Fatalf("%s is accepted, and revoked", c.text())
	}
}

func TestManyWallets(t *testing.T) { // P15: also of those that are not accepted, as worked out
	d := dice(141)
	codes, revoked, lengths := map[int64]int{}, map[int64]int{}, map[int64]int{}
	for range 5000 {
		c := d.relyGround()
		c.w = d.wallet(c)
		for range d.below(4) {
			d.turnWallet(&c)
		}
		c.x = c.w.Issued.Statement
		code := wantAccepted(c.configs, c.shares, c.w)
		checkAccepted(t, "dice", c, code)
		codes[code]++
		if code == impl.OK {
			checkPromised(t, c)
			lengths[int64(len(c.w.Chain))]++
		}
		gone := wantRevoked(c.shares, c.f, c.x, c.w.Revoked)
		checkRevoked(t, "dice", c, gone)
		if gone {
			revoked[c.x.Kind]++
		}
		if got, want := impl.WhoIn(c.w), wantWho(c.w); !sameLists(got, want) {
			t.Fatalf("WhoIn %+v = %+v, want %+v", c.w, got, want)
		}
		if t.Failed() {
			t.FailNow()
		}
	}
	checkCodes(t, "AcceptWallet", codes, impl.OK, impl.ErrForm, impl.ErrMany, impl.ErrRange, impl.ErrTaken, impl.ErrSign, impl.ErrPolicy, impl.ErrOld, impl.ErrState)
	checkCodes(t, "how long chains are", lengths, 0, 1, 2, 3)
	checkCodes(t, "what is revoked", revoked, impl.SayIssue, impl.SayRevoke)
}

func TestManyMadeWallets(t *testing.T) { // P15: what is made is accepted, but for what is not allowed or revoked
	d := dice(142)
	made, accepted, lengths := map[int64]int{}, map[int64]int{}, map[int64]int{}
	for range 1200 {
		c := d.relyGround()
		reach := impl.ReachOf(c.configs, c.shares).List
		asked := said(d.statement(), issue(d.below(10), d.below(5), d.below(257)), c.shares[d.below(int64(len(c.shares)))].Statement)
		for _, x := range append(c.signedOf(impl.SayIssue), asked...) {
			c.x = x
			want := wantMade(c.configs, c.shares, x)
			c.w = checkMade(t, "dice", c, want.Code)
			made[want.Code]++
			at := slices.IndexFunc(reach, func(place int64) bool { return c.configs[place].Epoch == x.Epoch })
			signed := impl.IsSigned(c.shares, c.f, x)
			if may := x.Kind == impl.SayIssue && signed && at >= 0; may != (want.Code == impl.OK) {
				t.Fatalf("MakeWallet of %s has code %d", c.text(), want.Code)
			}
			if t.Failed() {
				t.FailNow()
			}
			if want.Code != impl.OK {
				continue
			}
			code := int64(impl.OK)
			switch {
			case !impl.AllowsIn(c.configs[reach[at]], x.Form, x.Set):
				code = impl.ErrPolicy
			case impl.IsSigned(c.shares, c.f, revoke(x.Epoch, x.Form, x.Set)):
				code = impl.ErrOld
			}
			checkAccepted(t, "dice", c, code)
			accepted[code]++
			lengths[int64(len(c.w.Chain))]++
			places := impl.VerifyChain(c.configs, c.shares, c.w.Chain).Places
			if !slices.Equal(places, reach[:at+1]) || c.w.Issued.Statement != x {
				t.Fatalf("MakeWallet of %s leads through %v, where %v are reached", c.text(), places, reach)
			}
			if code == impl.OK {
				checkPromised(t, c)
			}
		}
	}
	checkCodes(t, "MakeWallet", made, impl.OK, impl.ErrForm, impl.ErrRange, impl.ErrSign, impl.ErrState)
	checkCodes(t, "AcceptWallet of what is made", accepted, impl.OK, impl.ErrPolicy, impl.ErrOld)
	checkCodes(t, "how long chains are", lengths, 0, 1, 2, 3, 4)
}

// sharedWallet has lists that are handed in several times.
func sharedWallet() relyCase {
	c := market(1, enough(1), next(2, 1), issue(3, 1, 2), revoke(3, 1, 2), revoke(2, 1, 1))
	signers := enough(1)
	list := []impl.Cert{{Statement: next(2, 1), Signers: signers}}
	c.w = impl.Wallet{Chain: list, Issued: cert(issue(3, 1, 2), signers...), Revoked: list}
	c.w.Issued.Signers = signers
	c.configs[1].Rules = c.configs[2].Rules
	c.x = issue(3, 1, 2)
	return c
}

// walletsToKeep have each code in some of them.
func walletsToKeep() []relyCase {
	all := []relyCase{{}, sharedWallet(), market(1, nil), market(2, enough(2), issue(2, 1, 1)).shows(enough(2), nil, issue(2, 1, 1))}
	for f := int64(1); f <= 2; f++ {
		all = append(all, longWay(f))
		for _, flaw := range append(groundFlaws(), walletFlaws()...) {
			c := longWay(f)
			flaw.turn(&c)
			c.x = c.w.Issued.Statement
			all = append(all, c)
		}
		for _, k := range wrongStatements()[:5] {
			c := longWay(f)
			c.x = k.x
			all = append(all, c)
		}
	}
	many := longWay(1)
	many.w.Issued.Signers = repeated(2, 21)
	rest := longWay(2)
	rest.x = issue(4, 1, 32)
	none := longWay(1)
	none.x = issue(5, 2, 1)
	far := longWay(2)
	far.x = issue(9, 2, 1)
	all = append(all, many, rest, none, far)
	d := dice(143)
	for range 150 {
		c := d.relyGround()
		c.w = d.wallet(c)
		d.turnWallet(&c)
		c.x = c.w.Issued.Statement
		all = append(all, c)
	}
	return all
}

func copyCerts(list []impl.Cert) []impl.Cert {
	copied := []impl.Cert{}
	for _, c := range list {
		copied = append(copied, impl.Cert{Statement: c.Statement, Signers: append(slices.Clone(c.Signers), 77)[:len(c.Signers)]})
	}
	return append(copied, cert(impl.Statement{Kind: 77}, 77, 78))[:len(list)]
}

func (c relyCase) copied() relyCase {
	w := impl.Wallet{Chain: copyCerts(c.w.Chain), Issued: copyCerts([]impl.Cert{c.w.Issued})[0], Revoked: copyCerts(c.w.Revoked)}
	return relyCase{
		configs: copyConfigs(c.configs), shares: append(slices.Clone(c.shares), share(77, impl.Statement{Kind: 77}))[:len(c.shares)],
		f: c.f, w: w, x: c.x,
	}
}

// whole tells all that is in the memory of what is handed in, also behind the ends of lists.
func (c relyCase) whole() string {
	text := wholeConfigs(c.configs) + fmt.Sprint(len(c.shares), c.shares[:cap(c.shares)], c.f, c.x, len(c.w.Chain), len(c.w.Revoked))
	for _, one := range slices.Concat(c.w.Chain[:cap(c.w.Chain)], []impl.Cert{c.w.Issued}, c.w.Revoked[:cap(c.w.Revoked)]) {
		text += fmt.Sprint(one.Statement, len(one.Signers), one.Signers[:cap(one.Signers)])
	}
	return text
}

func (c relyCase) spoil() {
	for _, one := range slices.Concat(c.w.Chain, []impl.Cert{c.w.Issued}, c.w.Revoked) {
		spoil(one.Signers, -7)
	}
	spoil(c.w.Chain, impl.Cert{})
	spoil(c.w.Revoked, impl.Cert{})
	spoil(c.shares, share(-7, impl.Statement{}))
	replicaCase{configs: c.configs}.spoil()
}

type relyAnswers struct {
	accepted int64
	made     impl.WalletResult
	revoked  bool
	reason   impl.TextResult
	who      impl.IntsResult
}

func (c relyCase) answers() relyAnswers {
	code := impl.AcceptWallet(c.configs, c.shares, c.w)
	return relyAnswers{
		accepted: code, made: impl.MakeWallet(c.configs, c.shares, c.x), revoked: impl.RevokedBy(c.shares, c.f, c.x, c.w.Revoked),
		reason: impl.ReasonText(code), who: impl.WhoIn(c.w),
	}
}

// relyLists are all lists of wallets and of who is in them.
type relyLists struct {
	certs   [][]impl.Cert
	numbers [][]int64
}

func (l *relyLists) addWallet(w impl.Wallet) {
	l.certs = append(l.certs, w.Chain, w.Revoked)
	for _, one := range slices.Concat(w.Chain[:cap(w.Chain)], []impl.Cert{w.Issued}, w.Revoked[:cap(w.Revoked)]) {
		l.numbers = append(l.numbers, one.Signers)
	}
}

func (l *relyLists) add(a relyAnswers) {
	l.addWallet(a.made.Wallet)
	l.numbers = append(l.numbers, a.who.List)
}

func (l *relyLists) haveOwnMemory() bool {
	return haveOwnMemory(l.certs) && haveOwnMemory(l.numbers)
}

func TestWalletsToKeepHaveEachCode(t *testing.T) {
	accepted, made, who, revoked := map[int64]int{}, map[int64]int{}, map[int64]int{}, 0
	for _, c := range walletsToKeep() {
		a := c.answers()
		accepted[a.accepted]++
		made[a.made.Code]++
		who[a.who.Code]++
		if a.revoked {
			revoked++
		}
	}
	for _, code := range []int64{impl.OK, impl.ErrForm, impl.ErrMany, impl.ErrRange, impl.ErrTaken, impl.ErrSign, impl.ErrPolicy, impl.ErrOld, impl.ErrState} {
		if accepted[code] == 0 || made[code] == 0 && code != impl.ErrPolicy && code != impl.ErrOld {
			t.Errorf("code %d is told by %d and %d", code, accepted[code], made[code])
		}
	}
	if who[impl.OK] == 0 || who[impl.ErrMany] == 0 || who[impl.ErrForm] == 0 || revoked == 0 {
		t.Errorf("%v and %d", who, revoked)
	}
}

func TestWalletsHandedInAreUnchanged(t *testing.T) { // P1
	for _, c := range walletsToKeep() {
		for _, given := range []relyCase{c, c.copied()} {
			before := given.whole()
			given.answers()
			if behind := given.whole(); behind != before {
				t.Fatalf("%.900s was changed to %.900s", before, behind)
			}
		}
	}
}

func TestSameWalletsSameAnswers(t *testing.T) { // P1: nothing is kept from call to call
	var first []string
	for _, c := range walletsToKeep() {
		first = append(first, fmt.Sprint(c.answers()))
	}
	for i, c := range slices.Backward(walletsToKeep()) {
		for range 3 {
			if again := fmt.Sprint(c.copied().answers()); again != first[i] {
				t.Fatalf("%s: first %.600s, then %.600s", c.text(), first[i], again)
			}
		}
	}
}

func TestWalletsShareNoMemory(t *testing.T) { // P1
	for _, c := range walletsToKeep() {
		var own relyLists
		own.add(c.answers())
		if !own.haveOwnMemory() {
			t.Fatalf("lists of an answer of %s share memory", c.text())
		}
		given := c.copied()
		var all relyLists
		all.addWallet(given.w)
		for _, config := range given.configs {
			all.numbers = append(all.numbers, config.Classes)
		}
		for range 3 {
			all.add(given.answers())
		}
		if !all.haveOwnMemory() {
			t.Fatalf("answers of %s share memory, or an answer and what was handed in", c.text())
		}
	}
}

func TestAnswersOfWalletsStayBehindWhatIsHandedIn(t *testing.T) { // P1
	for _, c := range walletsToKeep() {
		given := c.copied()
		one, two := given.answers(), given.answers()
		want := fmt.Sprint(one)
		for _, link := range slices.Concat(two.made.Wallet.Chain, []impl.Cert{two.made.Wallet.Issued}, two.made.Wallet.Revoked) {
			spoil(link.Signers, -8)
		}
		spoil(two.made.Wallet.Chain, impl.Cert{})
		spoil(two.made.Wallet.Revoked, impl.Cert{})
		spoil(two.who.List, -8)
		if fmt.Sprint(one) != want || fmt.Sprint(given.answers()) != want {
			t.Fatalf("what is answered for %s changes with another answer", c.text())
		}
		given.spoil()
		if fmt.Sprint(one) != want {
			t.Fatalf("what was answered for %s changes with what was handed in", c.text())
		}
	}
}

func TestEmptyListsOfWalletsAreTheSameAsNil(t *testing.T) { // P1
	for _, configs := range [][]impl.Config{nil, house(), stair(1, 2), stair(2, 0)} {
		for _, x := range said(issue(2, 1, 1), revoke(2, 1, 1), next(2, 1), impl.Statement{}) {
			none := relyCase{configs: configs, f: 1, w: impl.Wallet{Issued: impl.Cert{Statement: x}}, x: x}
			empty := relyCase{
				configs: append([]impl.Config{}, configs...), shares: []impl.Share{}, f: 1,
				w: impl.Wallet{Chain: []impl.Cert{}, Issued: impl.Cert{Statement: x, Signers: []int64{}}, Revoked: []impl.Cert{}}, x: x,
			}
			if a, b := fmt.Sprint(none.answers()), fmt.Sprint(empty.answers()); a != b {
				t.Errorf("%s and %s", a, b)
			}
		}
	}
}

func TestAnswersOfWalletsBesideACodeAreZero(t *testing.T) { // P1
	for _, c := range walletsToKeep() {
		a := c.answers()
		if a.made.Code != impl.OK && !sameWallets(a.made, impl.WalletResult{Code: a.made.Code}) {
			t.Errorf("%s: %+v", c.text(), a.made)
		}
		if a.who.Code != impl.OK && len(a.who.List) != 0 {
			t.Errorf("%s: %+v", c.text(), a.who)
		}
	}
}
