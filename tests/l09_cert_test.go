package tests

import (
	"fmt"
	"math"
	"slices"
	"testing"

	"loop.example/g00338/impl"
)

func share(replica int64, x impl.Statement) impl.Share {
	return impl.Share{Replica: replica, Statement: x}
}

func sharesOf(x impl.Statement, replicas ...int64) []impl.Share {
	var all []impl.Share
	for _, replica := range replicas {
		all = append(all, share(replica, x))
	}
	return all
}

func cert(x impl.Statement, signers ...int64) impl.Cert {
	return impl.Cert{Statement: x, Signers: signers}
}

// distinctShares are of replicas 1 to 4, so that they are right with either f.
func distinctShares(count int) []impl.Share {
	var all []impl.Share
	for i := range int64(count) {
		all = append(all, share(i%4+1, revoke(2, i/4/255+1, i/4%255+1)))
	}
	return all
}

func wantSharesFault(shares []impl.Share, f int64) int64 {
	if f < 1 || f > 2 {
		return impl.ErrRange
	}
	if len(shares) > 120 {
		return impl.ErrMany
	}
	there := map[impl.Share]bool{}
	for _, s := range shares {
		if s.Replica < 1 || s.Replica > 3*f+1 {
			return impl.ErrRange
		}
		if fault := wantStatementFault(s.Statement); fault != impl.OK {
			return fault
		}
		if there[s] {
			return impl.ErrTaken
		}
		there[s] = true
	}
	return impl.OK
}

// wantSigners tells who signed x; it is asked where there are no more than 120 shares and x has no fault.
func wantSigners(shares []impl.Share, x impl.Statement) []int64 {
	var all []int64
	for _, s := range shares {
		if s.Statement == x {
			all = append(all, s.Replica)
		}
	}
	slices.Sort(all)
	return slices.Compact(all)
}

func wantCombined(shares []impl.Share, f int64, x impl.Statement) impl.CertResult {
	for _, fault := range []int64{wantSharesFault(shares, f), wantStatementFault(x)} {
		if fault != impl.OK {
			return impl.CertResult{Code: fault}
		}
	}
	signers := wantSigners(shares, x)
	if int64(len(signers)) <= 2*f {
		return impl.CertResult{Code: impl.ErrSign}
	}
	return impl.CertResult{Cert: cert(x, signers[:2*f+1]...)}
}

func wantVerified(shares []impl.Share, f int64, c impl.Cert) int64 {
	for _, fault := range []int64{wantSharesFault(shares, f), wantStatementFault(c.Statement)} {
		if fault != impl.OK {
			return fault
		}
	}
	sorted := slices.Clone(c.Signers)
	slices.Sort(sorted)
	if !slices.Equal(slices.Compact(sorted), c.Signers) {
		return impl.ErrForm
	}
	if len(c.Signers) > 0 && (c.Signers[0] < 1 || c.Signers[len(c.Signers)-1] > 3*f+1) {
		return impl.ErrRange
	}
	signed := wantSigners(shares, c.Statement)
	if int64(len(c.Signers)) <= 2*f || !slices.Equal(slices.DeleteFunc(sorted, func(s int64) bool { return !slices.Contains(signed, s) }), c.Signers) {
		return impl.ErrSign
	}
	return impl.OK
}

// wantCommon counts who is among the signers of b ahead of going through those of a.
func wantCommon(a []int64, b []int64) []int64 {
	among := map[int64]int{}
	for _, s := range b {
		among[s]++
	}
	var common []int64
	for _, s := range a {
		if among[s] > 0 {
			common = append(common, s)
		}
	}
	return common
}

func sameCerts(a impl.CertResult, b impl.CertResult) bool {
	return a.Code == b.Code && a.Cert.Statement == b.Cert.Statement && slices.Equal(a.Cert.Signers, b.Cert.Signers)
}

func sameLists(a impl.IntsResult, b impl.IntsResult) bool {
	return a.Code == b.Code && slices.Equal(a.List, b.List)
}

func checkSigners(t *testing.T, name string, shares []impl.Share, x impl.Statement, want impl.IntsResult) {
	t.Helper()
	if got := impl.SignersOf(shares, x); !sameLists(got, want) {
		t.Errorf("%s: SignersOf(%.400s, %+v) = %+v, want %+v", name, fmt.Sprint(shares), x, got, want)
	}
}

// checkCombined asks IsSigned too: it is so just where there is a certificate.
func checkCombined(t *testing.T, name string, shares []impl.Share, f int64, x impl.Statement, want impl.CertResult) {
	t.Helper()
	if got := impl.Combine(shares, f, x); !sameCerts(got, want) {
		t.Errorf("%s: Combine(%.400s, %d, %+v) = %+v, want %+v", name, fmt.Sprint(shares), f, x, got, want)
	}
	if got := impl.IsSigned(shares, f, x); got != (want.Code == impl.OK) {
		t.Errorf("%s: IsSigned(%.400s, %d, %+v) = %v", name, fmt.Sprint(shares), f, x, got)
	}
}

func checkVerified(t *testing.T, name string, shares []impl.Share, f int64, c impl.Cert, want int64) {
	t.Helper()
	if got := impl.VerifyCert(shares, f, c); got != want {
		t.Errorf("%s: VerifyCert(%.400s, %d, %.400s) = %d, want %d", name, fmt.Sprint(shares), f, fmt.Sprint(c), got, want)
	}
}

// checkShares asks all that lean on the SharesFault, also by what has codes of its own behind it.
func checkShares(t *testing.T, name string, shares []impl.Share, f int64, want int64) {
	t.Helper()
	if got := impl.SharesFault(shares, f); got != want {
		t.Errorf("%s: SharesFault(%.400s, %d) = %d, want %d", name, fmt.Sprint(shares), f, got, want)
	}
	if want == impl.OK {
		return
	}
	asked := said(issue(1, 1, 1), revoke(2, 1, 1), next(1, 0), take(9, 7), issue(0, 1, 1), impl.Statement{})
	if len(shares) > 0 {
		asked = append(asked, shares[0].Statement, shares[len(shares)-1].Statement)
	}
	for _, x := range asked {
		checkCombined(t, name, shares, f, x, impl.CertResult{Code: want})
		for _, signers := range [][]int64{nil, {1, 2, 3}, {1, 2, 3, 4, 5}, {3, 2, 1}, {0, 1, 9}, {1}} {
			checkVerified(t, name, shares, f, cert(x, signers...), want)
		}
	}
}

func TestCertConstants(t *testing.T) {
	if impl.MaxShares != 120 {
		t.Errorf("MaxShares is %d", impl.MaxShares)
	}
}

func TestSharesOfNoBadCount(t *testing.T) { // the code of NeedOf is ahead of all others
	x := issue(1, 1, 2)
	lists := [][]impl.Share{nil, {}, sharesOf(x, 1), sharesOf(x, 1, 2, 3, 4), sharesOf(x, 1, 1), sharesOf(x, 0), sharesOf(impl.Statement{}, 1), distinctShares(120), distinctShares(121), make([]impl.Share, 121)}
	for _, shares := range lists {
		for _, f := range noBadCounts {
			checkShares(t, "f", shares, f, impl.ErrRange)
		}
	}
}

func TestHowManyShares(t *testing.T) {
	for f := int64(1); f <= 2; f++ {
		for _, count := range []int{0, 1, 2, 7, 8, 119, 120, 121, 122, 240, 1000} {
			want := int64(impl.OK)
			if count > 120 {
				want = impl.ErrMany
			}
			checkShares(t, fmt.Sprint(count), distinctShares(count), f, want)
			if count > 120 {
				checkShares(t, "all wrong", make([]impl.Share, count), f, impl.ErrMany)
				checkShares(t, "all the same", slices.Repeat(sharesOf(issue(1, 1, 1), 1), count), f, impl.ErrMany)
				checkShares(t, "the first one wrong", append(sharesOf(issue(1, 1, 1), 0), distinctShares(count-1)...), f, impl.ErrMany)
			}
		}
		checkShares(t, "nil", nil, f, impl.OK)
		checkShares(t, "empty", []impl.Share{}, f, impl.OK)
		checkShares(t, "100000", make([]impl.Share, 100000), f, impl.ErrMany)
		checkShares(t, "120 and the last one wrong", append(distinctShares(119), share(8, issue(1, 1, 1))), f, impl.ErrRange)
		checkShares(t, "120 and the last one none", append(distinctShares(119), share(1, impl.Statement{})), f, impl.ErrForm)
		checkShares(t, "120 and the last one is the first one", append(distinctShares(119), distinctShares(1)...), f, impl.ErrTaken)
	}
}

func TestReplicasOfSharesAtTheirBounds(t *testing.T) {
	for f := int64(1); f <= 2; f++ {
		for replica := int64(-2); replica <= 10; replica++ {
			want := int64(impl.ErrRange)
			if replica >= 1 && replica <= 3*f+1 {
				want = impl.OK
			}
			checkShares(t, "alone", sharesOf(issue(1, 1, 1), replica), f, want)
			checkShares(t, "behind others", append(distinctShares(9), share(replica, next(1, 1))), f, want)
			checkShares(t, "ahead of others", append(sharesOf(next(1, 1), replica), distinctShares(9)...), f, want)
		}
		for _, replica := range noIds {
			checkShares(t, "a great replica", sharesOf(issue(1, 1, 1), replica), f, impl.ErrRange)
		}
	}
}

func TestStatementsOfShares(t *testing.T) {
	for f := int64(1); f <= 2; f++ {
		for _, c := range wrongStatements() {
			for place := range 6 {
				shares := slices.Insert(distinctShares(5), place, share(2, c.x))
				checkShares(t, fmt.Sprint(c.name, " at ", place), shares, f, c.want)
			}
			checkShares(t, "a wrong replica as well", sharesOf(c.x, 0), f, impl.ErrRange)
			checkShares(t, "a wrong replica as well", sharesOf(c.x, 3*f+2), f, impl.ErrRange)
			checkShares(t, "twice", sharesOf(c.x, 1, 1), f, c.want)
		}
		for _, x := range someStatements() {
			checkShares(t, "each kind", sharesOf(x, 1, 3*f+1), f, impl.OK)
		}
	}
}

func TestSharesThatAreThereTwice(t *testing.T) {
	for f := int64(1); f <= 2; f++ {
		good := append(distinctShares(8), share(3*f+1, take(9, 7)), share(1, next(3, 0)))
		for place, twice := range good {
			for behind := place + 1; behind <= len(good); behind++ {
				checkShares(t, fmt.Sprint(place, " again at ", behind), slices.Insert(slices.Clone(good), behind, twice), f, impl.ErrTaken)
			}
		}
		for _, x := range someStatements() {
			checkShares(t, "the same", sharesOf(x, 2, 2), f, impl.ErrTaken)
			for replica := int64(1); replica <= 3*f+1; replica++ {
				want := int64(impl.OK)
				if replica == 2 {
					want = impl.ErrTaken
				}
				checkShares(t, "of another replica", sharesOf(x, 2, replica), f, want)
			}
			for place := range numbersOfStatement(&impl.Statement{}) {
				other := x
				*numbersOfStatement(&other)[place]++
				if wantStatementFault(other) == impl.OK {
					checkShares(t, "another statement", []impl.Share{share(2, x), share(2, other)}, f, impl.OK)
				}
			}
		}
	}
}

func TestSharesInTheirOrder(t *testing.T) { // share by share: what stands ahead is told
	type flaw struct {
		code  int64
		wrong impl.Share
	}
	flaws := []flaw{
		{impl.ErrRange, share(0, issue(1, 1, 1))},
		{impl.ErrRange, share(8, impl.Statement{})},
		{impl.ErrForm, share(1, impl.Statement{Kind: 5})},
		{impl.ErrRange, share(1, issue(1, 1, 0))},
		{impl.ErrTaken, distinctShares(1)[0]},
	}
	for _, one := range flaws {
		for _, two := range flaws {
			for place := 1; place < 7; place++ {
				for behind := place + 1; behind < 8; behind++ {
					shares := slices.Insert(distinctShares(6), place, one.wrong)
					shares = slices.Insert(shares, behind, two.wrong)
					checkShares(t, fmt.Sprint("places ", place, " and ", behind), shares, 2, one.code)
				}
			}
		}
	}
}

func TestSignersOfByHand(t *testing.T) {
	x, y := issue(1, 1, 2), issue(1, 1, 3)
	far := []int64{math.MaxInt64, 0, -1, 8, math.MinInt64, 1 << 32}
	cases := []struct {
		name   string
		shares []impl.Share
		x      impl.Statement
		want   impl.IntsResult
	}{
		{"nil", nil, x, impl.IntsResult{}},
		{"empty", []impl.Share{}, x, impl.IntsResult{}},
		{"one", sharesOf(x, 3), x, impl.IntsResult{List: []int64{3}}},
		{"in order", sharesOf(x, 1, 2, 3), x, impl.IntsResult{List: []int64{1, 2, 3}}},
		{"falling", sharesOf(x, 7, 4, 2, 1), x, impl.IntsResult{List: []int64{1, 2, 4, 7}}},
		{"out of order", sharesOf(x, 4, 1, 3, 2), x, impl.IntsResult{List: []int64{1, 2, 3, 4}}},
		{"there twice", sharesOf(x, 2, 2), x, impl.IntsResult{List: []int64{2}}},
		{"each of them several times", sharesOf(x, 4, 2, 4, 1, 2, 4, 1), x, impl.IntsResult{List: []int64{1, 2, 4}}},
		{"another statement alone", sharesOf(y, 1, 2, 3), x, impl.IntsResult{}},
		{"another statement as well", append(sharesOf(y, 1, 2, 3), sharesOf(x, 4, 2)...), x, impl.IntsResult{List: []int64{2, 4}}},
		{"no replicas", sharesOf(x, far...), x, impl.IntsResult{List: []int64{math.MinInt64, -1, 0, 8, 1 << 32, math.MaxInt64}}},
		{"no replicas, twice", append(sharesOf(x, far...), sharesOf(x, far...)...), x, impl.IntsResult{List: []int64{math.MinInt64, -1, 0, 8, 1 << 32, math.MaxInt64}}},
		{"shares of no statement", append(sharesOf(impl.Statement{}, 1, 2, 3), sharesOf(x, 1)...), x, impl.IntsResult{List: []int64{1}}},
		{"no statement", sharesOf(x, 1), impl.Statement{}, impl.IntsResult{Code: impl.ErrForm}},
		{"no statement that was signed", sharesOf(impl.Statement{}, 1, 2, 3), impl.Statement{}, impl.IntsResult{Code: impl.ErrForm}},
		{"a statement out of bounds", sharesOf(issue(1, 1, 0), 1, 2, 3), issue(1, 1, 0), impl.IntsResult{Code: impl.ErrRange}},
		{"120", slices.Repeat(sharesOf(x, 9, 5), 60), x, impl.IntsResult{List: []int64{5, 9}}},
		{"121", slices.Repeat(sharesOf(x, 9), 121), x, impl.IntsResult{Code: impl.ErrMany}},
		{"121 of other statements", distinctShares(121), x, impl.IntsResult{Code: impl.ErrMany}},
		{"121, and no statement", distinctShares(121), impl.Statement{}, impl.IntsResult{Code: impl.ErrMany}},
		{"120, and no statement", distinctShares(120), impl.Statement{}, impl.IntsResult{Code: impl.ErrForm}},
		{"100000", make([]impl.Share, 100000), x, impl.IntsResult{Code: impl.ErrMany}},
	}
	for _, c := range cases {
		checkSigners(t, c.name, c.shares, c.x, c.want)
	}
}

func TestAHundredAndTwentySigners(t *testing.T) { // no bound of replicas is asked, so all may be different
	x := next(2, 3)
	for _, step := range []int64{1, -1, 37, 1 << 50} {
		var shares []impl.Share
		for i := range int64(120) {
			shares = append(shares, share(i*37%120*step, x))
		}
		want := wantSigners(shares, x)
		if len(want) != 120 {
			t.Fatalf("there are %d signers", len(want))
		}
		checkSigners(t, fmt.Sprint("step ", step), shares, x, impl.IntsResult{List: want})
	}
}

func TestWrongStatementsHaveNoSigners(t *testing.T) {
	for _, c := range wrongStatements() {
		for _, shares := range [][]impl.Share{nil, sharesOf(c.x, 1, 2, 3), distinctShares(120), sharesOf(issue(1, 1, 1), 0, 0)} {
			checkSigners(t, c.name, shares, c.x, impl.IntsResult{Code: c.want})
		}
		checkSigners(t, c.name, append(distinctShares(120), share(1, c.x)), c.x, impl.IntsResult{Code: impl.ErrMany})
		for f := int64(1); f <= 2; f++ {
			shares := append(distinctShares(9), sharesOf(issue(1, 1, 1), 1, 2, 3, 4)...)
			checkCombined(t, c.name, shares, f, c.x, impl.CertResult{Code: c.want})
			for _, signers := range [][]int64{nil, {1, 2, 3}, {1, 2, 3, 4}, {2, 1}, {0}, {1}} {
				checkVerified(t, c.name, shares, f, cert(c.x, signers...), c.want)
			}
		}
	}
}

func TestSharesOfAStatementOneNumberAway(t *testing.T) { // they do not count, be it by one number alone
	for _, x := range someStatements() {
		for place := range numbersOfStatement(&impl.Statement{}) {
			for _, by := range []int64{-1, 1, 1 << 32} {
				other := x
				*numbersOfStatement(&other)[place] += by
				checkSigners(t, "one number away", append(sharesOf(other, 1, 2, 3), share(4, x)), x, impl.IntsResult{List: []int64{4}})
				if wantStatementFault(other) != impl.OK {
					continue
				}
				shares := append(sharesOf(other, 3, 4), sharesOf(x, 1, 2)...)
				checkCombined(t, "one number away", shares, 1, x, impl.CertResult{Code: impl.ErrSign})
				checkVerified(t, "one number away", shares, 1, cert(x, 1, 2, 3), impl.ErrSign)
				checkVerified(t, "one number away", append(shares, share(3, x)), 1, cert(x, 1, 2, 3), impl.OK)
			}
		}
	}
}

func TestCombineByHand(t *testing.T) { // P10
	x, y := issue(1, 1, 2), next(1, 2)
	cases := []struct {
		name   string
		shares []impl.Share
		f      int64
		want   impl.CertResult
	}{
		{"nil", nil, 1, impl.CertResult{Code: impl.ErrSign}},
		{"none of x", sharesOf(y, 1, 2, 3, 4), 1, impl.CertResult{Code: impl.ErrSign}},
		{"one fewer, f 1", sharesOf(x, 4, 1), 1, impl.CertResult{Code: impl.ErrSign}},
		{"one fewer, f 1, and others", append(sharesOf(y, 1, 2, 3, 4), sharesOf(x, 4, 1)...), 1, impl.CertResult{Code: impl.ErrSign}},
		{"just enough, f 1", sharesOf(x, 4, 1, 2), 1, impl.CertResult{Cert: cert(x, 1, 2, 4)}},
		{"just enough, f 1, and others", append(sharesOf(y, 3), sharesOf(x, 4, 3, 2)...), 1, impl.CertResult{Cert: cert(x, 2, 3, 4)}},
		{"all, f 1", sharesOf(x, 4, 3, 2, 1), 1, impl.CertResult{Cert: cert(x, 1, 2, 3)}},
		{"one fewer, f 2", sharesOf(x, 7, 6, 5, 4), 2, impl.CertResult{Code: impl.ErrSign}},
		{"just enough, f 2", sharesOf(x, 7, 6, 5, 4, 3), 2, impl.CertResult{Cert: cert(x, 3, 4, 5, 6, 7)}},
		{"one more, f 2", sharesOf(x, 7, 1, 5, 4, 3, 2), 2, impl.CertResult{Cert: cert(x, 1, 2, 3, 4, 5)}},
		{"all, f 2", sharesOf(x, 7, 6, 5, 4, 3, 2, 1), 2, impl.CertResult{Cert: cert(x, 1, 2, 3, 4, 5)}},
		{"enough with f 1 alone", sharesOf(x, 1, 2, 3), 2, impl.CertResult{Code: impl.ErrSign}},
		{"enough, and one twice", sharesOf(x, 1, 2, 3, 3), 1, impl.CertResult{Code: impl.ErrTaken}},
		{"enough, if one counted twice", sharesOf(x, 1, 2, 2), 1, impl.CertResult{Code: impl.ErrTaken}},
		{"enough, and one of no replica", sharesOf(x, 1, 2, 3, 5), 1, impl.CertResult{Code: impl.ErrRange}},
		{"enough, and one of no statement", append(sharesOf(x, 1, 2, 3), share(1, impl.Statement{})), 1, impl.CertResult{Code: impl.ErrForm}},
		{"enough, among 120", append(distinctShares(117), sharesOf(x, 4, 2, 1)...), 1, impl.CertResult{Cert: cert(x, 1, 2, 4)}},
		{"enough, among 121", append(distinctShares(118), sharesOf(x, 4, 2, 1)...), 1, impl.CertResult{Code: impl.ErrMany}},
	}
	for _, c := range cases {
		checkCombined(t, c.name, c.shares, c.f, x, c.want)
	}
}

// groupsOf has each group of the members 1 to count, as the list of it, rising.
func groupsOf(count int64) [][]int64 {
	var all [][]int64
	for set := range 1 << count {
		all = append(all, listOfSet(set))
	}
	return all
}

// turned is list from its place by on, then what is ahead of that.
func turned(list []int64, by int) []int64 {
	if len(list) == 0 {
		return nil
	}
	by %= len(list)
	return slices.Concat(list[by:], list[:by])
}

func TestWhatEnoughHaveSignedIsACertificate(t *testing.T) { // P10
	x, y := issue(3, 2, 7), issue(3, 2, 6)
	for f := int64(1); f <= 2; f++ {
		for i, group := range groupsOf(3*f + 1) {
			falling := slices.Clone(group)
			slices.Reverse(falling)
			for _, order := range [][]int64{group, falling, turned(group, i), turned(falling, i/2)} {
				shares := slices.Concat(sharesOf(y, turned(group, 1)...), sharesOf(x, order...), sharesOf(next(3, 1), 1, 2, 3, 4))
				want := impl.CertResult{Code: impl.ErrSign}
				if int64(len(group)) >= 2*f+1 {
					want = impl.CertResult{Cert: cert(x, group[:2*f+1]...)}
				}
				checkCombined(t, "a group", shares, f, x, want)
				if want.Code == impl.OK {
					checkVerified(t, "what was combined", shares, f, impl.Combine(shares, f, x).Cert, impl.OK)
				}
			}
		}
	}
}

func TestWhatIsACertificateEnoughHaveSigned(t *testing.T) { // P10: all groups of signers by the shares of all groups
	x, y := issue(3, 2, 7), revoke(3, 2, 7)
	for f := int64(1); f <= 2; f++ {
		right := 0
		for _, group := range groupsOf(3*f + 1) {
			shares := append(sharesOf(x, turned(group, 2)...), sharesOf(y, 1, 2, 3, 4)...)
			for _, signers := range groupsOf(3*f + 1) {
				want := int64(impl.OK)
				if int64(len(signers)) < 2*f+1 || slices.ContainsFunc(signers, func(s int64) bool { return !slices.Contains(group, s) }) {
					want = impl.ErrSign
				} else {
					right++
				}
				checkVerified(t, "a group", shares, f, cert(x, signers...), want)
			}
		}
		if want := []int{4*1 + 1*5, 21*1 + 7*7 + 1*29}[f-1]; right != want {
			t.Errorf("%d certificates are right with f %d, want %d", right, f, want)
		}
	}
}

func TestTwoCertificatesHaveMoreInCommonThanMayBeBad(t *testing.T) { // P10: be they of one statement or of two
	for f := int64(1); f <= 2; f++ {
		var shares []impl.Share
		var right []impl.Cert
		for _, x := range said(issue(1, 1, 1), issue(1, 2, 1), next(1, 1), take(2, 2)) {
			for replica := 3*f + 1; replica >= 1; replica-- {
				shares = append(shares, share(replica, x))
			}
		}
		for _, x := range said(issue(1, 1, 1), issue(1, 2, 1), next(1, 1), take(2, 2)) {
			for _, signers := range groupsOf(3*f + 1) {
				if impl.VerifyCert(shares, f, cert(x, signers...)) == impl.OK {
					right = append(right, cert(x, signers...))
				}
			}
		}
		if want := []int{4 * 5, 4 * 29}[f-1]; len(right) != want {
			t.Errorf("%d certificates are right with f %d, want %d", len(right), f, want)
		}
		for _, a := range right {
			for _, b := range right {
				got := impl.CommonOf(a, b)
				if got.Code != impl.OK || int64(len(got.List)) <= f || !slices.Equal(got.List, wantCommon(a.Signers, b.Signers)) {
					t.Fatalf("CommonOf(%+v, %+v) = %+v, f is %d", a, b, got, f)
				}
			}
		}
	}
}

func TestCombinedOfTwoStatementsHaveMoreInCommonThanMayBeBad(t *testing.T) { // P10
	x, y := issue(1, 1, 1), issue(1, 2, 1)
	for f := int64(1); f <= 2; f++ {
		for _, one := range groupsOf(3*f + 1) {
			for _, two := range groupsOf(3*f + 1) {
				shares := append(sharesOf(x, one...), sharesOf(y, two...)...)
				a, b := impl.Combine(shares, f, x), impl.Combine(shares, f, y)
				if a.Code != impl.OK || b.Code != impl.OK {
					continue
				}
				if got := impl.CommonOf(a.Cert, b.Cert); got.Code != impl.OK || int64(len(got.List)) <= f {
					t.Fatalf("CommonOf(%+v, %+v) = %+v, f is %d", a, b, got, f)
				}
			}
		}
	}
}

type verifyCase struct {
	name   string
	shares []impl.Share
	f      int64
	c      impl.Cert
	want   int64
}

// signedCases are of certificates that could be right: enough of the signers have their shares, or not.
func signedCases() []verifyCase {
	x, y := issue(1, 1, 2), next(1, 2)
	all4, all7 := sharesOf(x, 3, 1, 4, 2), sharesOf(x, 7, 1, 6, 2, 5, 3, 4)
	return []verifyCase{
		{"just enough", all4, 1, cert(x, 1, 2, 3), impl.OK},
		{"just enough, others", all4, 1, cert(x, 2, 3, 4), impl.OK},
		{"all", all4, 1, cert(x, 1, 2, 3, 4), impl.OK},
		{"just enough, f 2", all7, 2, cert(x, 1, 3, 5, 6, 7), impl.OK},
		{"one more, f 2", all7, 2, cert(x, 1, 2, 3, 5, 6, 7), impl.OK},
		{"all, f 2", all7, 2, cert(x, 1, 2, 3, 4, 5, 6, 7), impl.OK},
		{"no signers", all4, 1, cert(x), impl.ErrSign},
		{"no signers, no shares", nil, 1, cert(x), impl.ErrSign},
		{"one", all4, 1, cert(x, 1), impl.ErrSign},
		{"one fewer", all4, 1, cert(x, 1, 4), impl.ErrSign},
		{"one fewer, f 2", all7, 2, cert(x, 1, 2, 3, 7), impl.ErrSign},
		{"enough with f 1 alone", all7, 2, cert(x, 1, 2, 3), impl.ErrSign},
		{"no shares", nil, 1, cert(x, 1, 2, 3), impl.ErrSign},
		{"the first one has none", sharesOf(x, 2, 3, 4), 1, cert(x, 1, 2, 3), impl.ErrSign},
		{"the last one has none", sharesOf(x, 1, 2, 4), 1, cert(x, 1, 2, 3), impl.ErrSign},
		{"one more than needed has none", sharesOf(x, 1, 2, 3), 1, cert(x, 1, 2, 3, 4), impl.ErrSign},
		{"one signed something else", append(sharesOf(x, 1, 2), share(3, y)), 1, cert(x, 1, 2, 3), impl.ErrSign},
		{"all signed something else", sharesOf(y, 1, 2, 3, 4), 1, cert(x, 1, 2, 3), impl.ErrSign},
		{"one signed something else too", append(sharesOf(x, 1, 2, 3), share(3, y)), 1, cert(x, 1, 2, 3), impl.OK},
	}
}

// wrongCerts has each other code, and which one comes first where several would do; some beside them are right.
func wrongCerts() []verifyCase {
	x := issue(1, 1, 2)
	all4, all7 := sharesOf(x, 3, 1, 4, 2), sharesOf(x, 7, 1, 6, 2, 5, 3, 4)
	return []verifyCase{
		{"the same twice", all4, 1, cert(x, 1, 2, 2, 3), impl.ErrForm},
		{"the same twice, else too few", all4, 1, cert(x, 1, 2, 2), impl.ErrForm},
		{"the same twice alone", all4, 1, cert(x, 1, 1), impl.ErrForm},
		{"the last one twice", all4, 1, cert(x, 1, 2, 3, 3), impl.ErrForm},
		{"falling", all4, 1, cert(x, 3, 2, 1), impl.ErrForm},
		{"the last two fall", all4, 1, cert(x, 1, 2, 4, 3), impl.ErrForm},
		{"the first two fall", all4, 1, cert(x, 2, 1, 3), impl.ErrForm},
		{"falling, and none a replica", all4, 1, cert(x, 9, 8, 0), impl.ErrForm},
		{"no replica ahead of what falls", all4, 1, cert(x, 0, 2, 1), impl.ErrForm},
		{"no replica behind what falls", all4, 1, cert(x, 2, 1, 9), impl.ErrForm},
		{"falling, and no shares", nil, 1, cert(x, 2, 1), impl.ErrForm},
		{"0 twice", all4, 1, cert(x, 0, 0), impl.ErrForm},
		{"0", all4, 1, cert(x, 0, 1, 2, 3), impl.ErrRange},
		{"5 of 4", all4, 1, cert(x, 1, 2, 3, 5), impl.ErrRange},
		{"5 of 4, else just enough", all4, 1, cert(x, 1, 2, 5), impl.ErrRange},
		{"5 of 7", all7, 2, cert(x, 1, 2, 3, 4, 5), impl.OK},
		{"7 of 7", all7, 2, cert(x, 3, 4, 5, 6, 7), impl.OK},
		{"8 of 7", all7, 2, cert(x, 4, 5, 6, 7, 8), impl.ErrRange},
		{"0 of 7", all7, 2, cert(x, 0, 1, 2, 3, 4, 5), impl.ErrRange},
		{"-1 alone", all4, 1, cert(x, -1), impl.ErrRange},
		{"the least number and the greatest", all4, 1, cert(x, math.MinInt64, math.MaxInt64), impl.ErrRange},
		{"the greatest number and the least", all4, 1, cert(x, math.MaxInt64, math.MinInt64), impl.ErrForm},
		{"no replica, and too few", all4, 1, cert(x, 9), impl.ErrRange},
		{"no replica, and no shares", nil, 1, cert(x, 1, 2, 9), impl.ErrRange},
		{"no statement", all4, 1, cert(impl.Statement{}, 1, 2, 3), impl.ErrForm},
		{"a statement out of bounds that falls", all4, 1, cert(issue(1, 1, 0), 3, 2, 1), impl.ErrRange},
		{"a statement out of bounds that none signed", all4, 1, cert(next(1, 8)), impl.ErrRange},
		{"a share twice, and no statement", sharesOf(x, 1, 1), 1, cert(impl.Statement{}), impl.ErrTaken},
		{"a share twice, and all right else", sharesOf(x, 1, 2, 3, 4, 1), 1, cert(x, 1, 2, 3), impl.ErrTaken},
		{"121 shares, and signers that fall", distinctShares(121), 1, cert(x, 2, 1), impl.ErrMany},
		{"f 0, and all right else", all4, 0, cert(x, 1, 2, 3), impl.ErrRange},
		{"f 3, and signers that fall", all4, 3, cert(x, 2, 1), impl.ErrRange},
		{"among 120 shares", append(distinctShares(117), sharesOf(x, 4, 2, 1)...), 1, cert(x, 1, 2, 4), impl.OK},
	}
}

func TestVerifyCertByHand(t *testing.T) {
	for _, c := range append(signedCases(), wrongCerts()...) {
		checkVerified(t, c.name, c.shares, c.f, c.c, c.want)
		if got := wantVerified(c.shares, c.f, c.c); got != c.want {
			t.Errorf("%s: worked out as %d, want %d", c.name, got, c.want)
		}
	}
}

func TestSignersAtTheirBounds(t *testing.T) {
	x := issue(1, 1, 2)
	for f := int64(1); f <= 2; f++ {
		shares := sharesOf(x, listOfSet(1<<(3*f+1)-1)...)
		for signer := int64(-2); signer <= 10; signer++ {
			signers := []int64{signer}
			for other := int64(1); other <= 3*f+1; other++ {
				if other != signer {
					signers = append(signers, other)
				}
			}
			slices.Sort(signers)
			want := int64(impl.ErrRange)
			if signer >= 1 && signer <= 3*f+1 {
				want = impl.OK
			}
			checkVerified(t, fmt.Sprint("signer ", signer, " of f ", f), shares, f, cert(x, signers...), want)
		}
		for _, signer := range noIds {
			checkVerified(t, "a great signer", shares, f, cert(x, signer), impl.ErrRange)
		}
	}
}

func TestSignersInAnyOrder(t *testing.T) { // all lists of up to 4 of the numbers 0 to 5
	x := take(1, 2)
	shares := sharesOf(x, 1, 2, 4)
	lists := [][]int64{nil}
	for first := 0; first < len(lists); first++ {
		checkVerified(t, "a list", shares, 1, cert(x, lists[first]...), wantVerified(shares, 1, cert(x, lists[first]...)))
		if len(lists[first]) == 4 {
			continue
		}
		for signer := range int64(6) {
			lists = append(lists, append(slices.Clone(lists[first]), signer))
		}
	}
	if len(lists) != 1+6+36+216+1296 {
		t.Errorf("there are %d lists", len(lists))
	}
}

func TestVeryManySigners(t *testing.T) {
	x := issue(1, 1, 2)
	rising := make([]int64, 100000)
	for i := range rising {
		rising[i] = int64(i) + 1
	}
	falling := slices.Clone(rising)
	slices.Reverse(falling)
	last := slices.Clone(rising)
	last[len(last)-1] = 1
	for f := int64(1); f <= 2; f++ {
		shares := sharesOf(x, listOfSet(1<<(3*f+1)-1)...)
		checkVerified(t, "rising", shares, f, cert(x, rising...), impl.ErrRange)
		checkVerified(t, "falling", shares, f, cert(x, falling...), impl.ErrForm)
		checkVerified(t, "the last two fall", shares, f, cert(x, last...), impl.ErrForm)
		checkVerified(t, "all the same", shares, f, cert(x, repeated(1, 100000)...), impl.ErrForm)
	}
	if got := impl.CommonOf(cert(x, rising...), cert(x, falling...)); !sameLists(got, impl.IntsResult{Code: impl.ErrMany}) {
		t.Errorf("%.200s", fmt.Sprint(got))
	}
}

func checkCommon(t *testing.T, name string, a []int64, b []int64, want impl.IntsResult) {
	t.Helper()
	statements := said(issue(1, 1, 2), next(1, 1), impl.Statement{}, issue(0, 9, -1))
	for _, x := range statements { // nothing is asked of the statements
		for _, y := range statements {
			if got := impl.CommonOf(cert(x, a...), cert(y, b...)); !sameLists(got, want) {
				t.Errorf("%s: CommonOf(%v, %v) = %+v, want %+v", name, a, b, got, want)
			}
		}
	}
}

func TestCommonOfByHand(t *testing.T) {
	cases := []struct {
		name string
		a, b []int64
		want []int64
	}{
		{"nil", nil, nil, nil},
		{"empty", []int64{}, []int64{}, nil},
		{"none of a", nil, []int64{1, 2, 3}, nil},
		{"none of b", []int64{1, 2, 3}, nil, nil},
		{"none in common", []int64{1, 2, 3}, []int64{4, 5, 6}, nil},
		{"one in common", []int64{1, 2, 3}, []int64{3, 4, 5}, []int64{3}},
		{"all in common", []int64{1, 2, 3}, []int64{1, 2, 3}, []int64{1, 2, 3}},
		{"all of a", []int64{2, 3}, []int64{1, 2, 3, 4}, []int64{2, 3}},
		{"all of b", []int64{1, 2, 3, 4}, []int64{2, 3}, []int64{2, 3}},
		{"in the order of a", []int64{4, 1, 3}, []int64{1, 3, 4}, []int64{4, 1, 3}},
		{"not in the order of b", []int64{1, 3, 4}, []int64{4, 1, 3}, []int64{1, 3, 4}},
		{"falling", []int64{7, 6, 5, 4}, []int64{3, 4, 5, 6}, []int64{6, 5, 4}},
		{"twice in a", []int64{2, 1, 2}, []int64{2, 3}, []int64{2, 2}},
		{"twice in b", []int64{1, 2, 3}, []int64{2, 2, 2}, []int64{2}},
		{"twice in both", []int64{2, 2, 1, 1}, []int64{1, 2, 1, 2}, []int64{2, 2, 1, 1}},
		{"no replicas", []int64{math.MinInt64, -1, 0, 8, math.MaxInt64}, []int64{math.MaxInt64, 0, 9, math.MinInt64}, []int64{math.MinInt64, 0, math.MaxInt64}},
		{"no replicas, none in common", []int64{0, -1}, []int64{1, 8}, nil},
	}
	for _, c := range cases {
		checkCommon(t, c.name, c.a, c.b, impl.IntsResult{List: c.want})
	}
}

func TestHowManySignersHaveSomeInCommon(t *testing.T) {
	for _, one := range []int{0, 1, 19, 20, 21, 22, 40} {
		for _, two := range []int{0, 1, 19, 20, 21, 22, 40} {
			var a, b []int64
			for i := range int64(one) {
				a = append(a, i+1)
			}
			for i := range int64(two) {
				b = append(b, 20-i)
			}
			want := impl.IntsResult{List: wantCommon(a, b)}
			if one > 20 || two > 20 {
				want = impl.IntsResult{Code: impl.ErrMany}
			}
			checkCommon(t, fmt.Sprint(one, " and ", two), a, b, want)
			same := impl.IntsResult{Code: want.Code}
			if want.Code == impl.OK && two > 0 {
				same.List = repeated(3, one)
			}
			checkCommon(t, "all the same", repeated(3, one), repeated(3, two), same)
		}
	}
}

func TestManyCommon(t *testing.T) {
	d := dice(93)
	lists := func() []int64 {
		var list []int64
		for range d.below(21) {
			list = append(list, d.below(15)-3)
		}
		return list
	}
	some := 0
	for range 20000 {
		a, b := lists(), lists()
		want := impl.IntsResult{List: wantCommon(a, b)}
		if got := impl.CommonOf(cert(next(1, 1), a...), cert(take(1, 1), b...)); !sameLists(got, want) {
			t.Fatalf("CommonOf(%v, %v) = %+v, want %+v", a, b, got, want)
		}
		if len(want.List) > 0 {
			some++
		}
	}
	if some < 10000 {
		t.Errorf("only %d have some in common", some)
	}
}

type certCase struct {
	shares []impl.Share
	f      int64
	c      impl.Cert
}

// shares takes few statements and replicas, so that enough signed some of them; a few of its shares have a fault.
func (d *dice) shares(f int64) []impl.Share {
	var all []impl.Share
	for range d.below(20) + d.below(2)*d.below(12) {
		one := share(d.below(3*f+1)+1, said(issue(1, 1, 1), issue(1, 1, 3), next(1, 1))[d.below(3)])
		if !slices.Contains(all, one) || d.below(60) == 0 {
			all = append(all, one)
		}
		switch d.below(150) {
		case 0:
			all = append(all, share(3*f+2, one.Statement))
		case 1:
			all = append(all, share(one.Replica, impl.Statement{Kind: d.below(6), Epoch: 1}))
		}
	}
	return all
}

// signers rise in most lists; some have one that is no replica, or one twice.
func (d *dice) signers(f int64) []int64 {
	all := listOfSet(int(d.below(1<<(3*f+1)) | d.below(1<<(3*f+1))))
	switch d.below(12) {
	case 0:
		all = append(all, d.below(10))
	case 1:
		all = append([]int64{d.below(3) - 1}, all...)
	}
	return all
}

func (d *dice) certCase() certCase {
	f := d.below(2) + 1
	x := said(issue(1, 1, 1), issue(1, 1, 1), issue(1, 1, 1), next(1, 1), next(1, 1), issue(1, 1, 3), take(1, 1), issue(1, 0, 1), impl.Statement{})[d.below(9)]
	c := certCase{d.shares(f), f, cert(x, d.signers(f)...)}
	if d.below(50) == 0 {
		c.f = d.below(5) - 1
	}
	return c
}

func TestManyCertificates(t *testing.T) { // P10
	d := dice(90)
	combined, verified := map[int64]int{}, map[int64]int{}
	for range 40000 {
		c := d.certCase()
		x := c.c.Statement
		if got, want := impl.SharesFault(c.shares, c.f), wantSharesFault(c.shares, c.f); got != want {
			t.Fatalf("SharesFault(%+v, %d) = %d, want %d", c.shares, c.f, got, want)
		}
		signers := impl.IntsResult{Code: wantStatementFault(x)}
		if signers.Code == impl.OK {
			signers.List = wantSigners(c.shares, x)
		}
		checkSigners(t, "dice", c.shares, x, signers)
		made := wantCombined(c.shares, c.f, x)
		checkCombined(t, "dice", c.shares, c.f, x, made)
		combined[made.Code]++
		want := wantVerified(c.shares, c.f, c.c)
		checkVerified(t, "dice", c.shares, c.f, c.c, want)
		verified[want]++
		if made.Code == impl.OK {
			checkVerified(t, "what was combined", c.shares, c.f, made.Cert, impl.OK)
		}
		if want == impl.OK && made.Code != impl.OK {
			t.Fatalf("%+v is right, and of its statement there is none", c.c)
		}
	}
	for _, code := range []int64{impl.OK, impl.ErrForm, impl.ErrRange, impl.ErrTaken, impl.ErrSign} {
		if combined[code] < 200 || verified[code] < 200 {
			t.Errorf("code %d came %d and %d times only", code, combined[code], verified[code])
		}
	}
}

// certsToKeep has no fault in most of them, and each code in some.
func certsToKeep() []certCase {
	x, y := issue(1, 1, 2), next(1, 2)
	all := []certCase{
		{},
		{nil, 1, cert(x)},
		{sharesOf(x, 4, 1), 1, cert(x, 1, 4)},
		{sharesOf(x, 4, 1, 2), 1, cert(x, 1, 2, 4)},
		{sharesOf(x, 4, 1, 2), 1, cert(x, 4, 2, 1)},
		{sharesOf(x, 4, 1, 2), 1, cert(x, 1, 2, 5)},
		{sharesOf(x, 4, 1, 2), 1, cert(impl.Statement{}, 1, 2, 4)},
		{sharesOf(x, 4, 1, 2, 3), 1, cert(x, 1, 2, 3, 4)},
		{sharesOf(x, 4, 1, 2, 4), 1, cert(x, 2, 2, 1)},
		{sharesOf(x, 4, 0, 2, 9), 1, cert(x, 0, 9)},
		{sharesOf(x, 4, 1, 2), 3, cert(x, 1, 2, 4)},
		{sharesOf(x, 7, 6, 5, 4, 3, 2, 1), 2, cert(x, 1, 2, 3, 4, 5, 6, 7)},
		{append(sharesOf(y, 7, 1), sharesOf(x, 7, 1, 6, 2, 5)...), 2, cert(x, 1, 2, 5, 6, 7)},
		{append(distinctShares(117), sharesOf(x, 4, 2, 1)...), 1, cert(x, 1, 2, 4)},
		{distinctShares(121), 1, cert(x, repeated(1, 21)...)},
		{distinctShares(120), 2, cert(distinctShares(1)[0].Statement, 1, 2, 3, 4)},
	}
	d := dice(91)
	for range 300 {
		all = append(all, d.certCase())
	}
	return all
}

func (c certCase) copied() certCase {
	shares := append(slices.Clone(c.shares), share(77, impl.Statement{Kind: 77}))[:len(c.shares)]
	signers := append(slices.Clone(c.c.Signers), 77)[:len(c.c.Signers)]
	return certCase{shares, c.f, cert(c.c.Statement, signers...)}
}

// whole tells all that is in the memory of the lists, also behind their ends.
func (c certCase) whole() string {
	return fmt.Sprint(len(c.shares), c.shares[:cap(c.shares)], c.f, c.c.Statement, len(c.c.Signers), c.c.Signers[:cap(c.c.Signers)])
}

// lists are those of all answers that have one.
func (c certCase) lists() [][]int64 {
	other := cert(next(1, 1), 7, 1, 2, 2, 4)
	return [][]int64{
		impl.SignersOf(c.shares, c.c.Statement).List, impl.Combine(c.shares, c.f, c.c.Statement).Cert.Signers,
		impl.CommonOf(c.c, other).List, impl.CommonOf(other, c.c).List, impl.CommonOf(c.c, c.c).List,
	}
}

func (c certCase) answers() string {
	return fmt.Sprint(c.lists(), impl.SharesFault(c.shares, c.f), impl.SignersOf(c.shares, c.c.Statement), impl.Combine(c.shares, c.f, c.c.Statement),
		impl.VerifyCert(c.shares, c.f, c.c), impl.CommonOf(c.c, c.c), impl.IsSigned(c.shares, c.f, c.c.Statement))
}

func TestSharesAndCertificatesHandedInAreUnchanged(t *testing.T) { // P1
	for _, c := range certsToKeep() {
		given := c.copied()
		before := given.whole()
		given.answers()
		if behind := given.whole(); behind != before {
			t.Errorf("%.400s was changed to %.400s", before, behind)
		}
	}
}

func TestSameCertificatesSameAnswers(t *testing.T) { // P1: nothing is kept, and no order of a map is to be seen
	var first []string
	for _, c := range certsToKeep() {
		first = append(first, c.answers())
	}
	for i, c := range slices.Backward(certsToKeep()) {
		for range 5 {
			if again := c.copied().answers(); again != first[i] {
				t.Fatalf("%.400s: first %s, then %s", c.whole(), first[i], again)
			}
		}
	}
}

func TestCertificatesShareNoMemory(t *testing.T) { // P1
	for _, c := range certsToKeep() {
		want := fmt.Sprint(c.lists())
		given := c.copied()
		one, two := given.lists(), given.lists()
		for _, list := range one {
			spoil(list[:cap(list)], -8)
		}
		if fmt.Sprint(two) != want || fmt.Sprint(given.lists()) != want {
			t.Fatalf("two answers of %.400s share memory, or an answer and what was handed in", c.whole())
		}
		spoil(given.shares, share(-7, impl.Statement{}))
		spoil(given.c.Signers, -7)
		if fmt.Sprint(two) != want {
			t.Fatalf("what was answered for %.400s changes with what was handed in", c.whole())
		}
	}
}

func TestNoSharesAndNoSignersAreTheSameAsNil(t *testing.T) { // P1
	for _, x := range said(issue(1, 1, 1), next(1, 2), impl.Statement{}) {
		for _, f := range []int64{0, 1, 2} {
			none, empty := certCase{nil, f, cert(x)}, certCase{[]impl.Share{}, f, impl.Cert{Statement: x, Signers: []int64{}}}
			if a, b := none.answers(), empty.answers(); a != b {
				t.Errorf("%+v: %s and %s", x, a, b)
			}
		}
	}
}

func TestAnswersOfCertificatesBesideACodeAreZero(t *testing.T) { // P1
	codes := map[int64]int{}
	for _, c := range certsToKeep() {
		signers, made, common := impl.SignersOf(c.shares, c.c.Statement), impl.Combine(c.shares, c.f, c.c.Statement), impl.CommonOf(c.c, c.c)
		if signers.Code != impl.OK && len(signers.List) != 0 || common.Code != impl.OK && len(common.List) != 0 {
			t.Errorf("%.400s: %+v and %+v", c.whole(), signers, common)
		}
		if made.Code != impl.OK && (made.Cert.Statement != impl.Statement{} || len(made.Cert.Signers) != 0) {
			t.Errorf("%.400s: %+v", c.whole(), made)
		}
		codes[made.Code]++
	}
	for _, code := range []int64{impl.OK, impl.ErrForm, impl.ErrMany, impl.ErrRange, impl.ErrTaken, impl.ErrSign} {
		if codes[code] == 0 {
			t.Errorf("code %d does not come", code)
		}
	}
}
