package tests

import (
	"fmt"
	"math"
	"slices"
	"testing"

	"loop.example/g00338/impl"
)

// stair has a configuration of each epoch, and nothing else in it.
func stair(f int64, epochs ...int64) []impl.Config {
	var configs []impl.Config
	for _, epoch := range epochs {
		configs = append(configs, impl.Config{Epoch: epoch, F: f})
	}
	return configs
}

// enough are as many replicas as have to sign.
func enough(f int64) []int64 {
	return listOfSet(1<<(2*f+1) - 1)
}

func signedBy(replicas []int64, list ...impl.Statement) []impl.Share {
	var shares []impl.Share
	for _, x := range list {
		shares = append(shares, sharesOf(x, replicas...)...)
	}
	return shares
}

func certsBy(signers []int64, list ...impl.Statement) []impl.Cert {
	var chain []impl.Cert
	for _, x := range list {
		chain = append(chain, cert(x, slices.Clone(signers)...))
	}
	return chain
}

// climb leads from place to place of configurations whose epochs rise by one.
func climb(first int64, count int64) []impl.Statement {
	var list []impl.Statement
	for step := range count {
		list = append(list, next(first+step, step+1))
	}
	return list
}

func wantConfigsFault(configs []impl.Config) int64 {
	if count := len(configs); count == 0 || count >= 9 {
		return impl.ErrMany
	}
	for _, c := range configs {
		if fault := impl.ConfigFault(c); fault != impl.OK {
			return fault
		}
		if c.F*configs[0].F == 2 {
			return impl.ErrForm
		}
	}
	return impl.OK
}

func wantGround(configs []impl.Config, shares []impl.Share) int64 {
	if fault := wantConfigsFault(configs); fault != impl.OK {
		return fault
	}
	return wantSharesFault(shares, configs[0].F)
}

// wantLink tells the code of one certificate behind the configuration at the place from.
func wantLink(configs []impl.Config, shares []impl.Share, from int64, c impl.Cert) int64 {
	x, epoch := c.Statement, configs[from].Epoch
	switch code := wantVerified(shares, configs[0].F, c); {
	case code != impl.OK:
		return code
	case x.Kind != impl.SayNext:
		return impl.ErrForm
	case x.Epoch != epoch:
		return impl.ErrState
	case int(x.Next) >= len(configs):
		return impl.ErrRange
	case configs[x.Next].Epoch-epoch != 1:
		return impl.ErrState
	}
	return impl.OK
}

func wantChain(configs []impl.Config, shares []impl.Share, chain []impl.Cert) impl.ChainResult {
	if fault := wantGround(configs, shares); fault != impl.OK {
		return impl.ChainResult{Code: fault}
	}
	if len(chain) >= 9 {
		return impl.ChainResult{Code: impl.ErrMany}
	}
	places := []int64{0}
	for at, c := range chain {
		if code := wantLink(configs, shares, places[at], c); code != impl.OK {
			return impl.ChainResult{Code: code}
		}
		places = append(places, c.Statement.Next)
	}
	return impl.ChainResult{Places: places}
}

func wantExtended(configs []impl.Config, shares []impl.Share, chain []impl.Cert, to int64) impl.CertResult {
	right := wantChain(configs, shares, chain)
	if right.Code != impl.OK {
		return impl.CertResult{Code: right.Code}
	}
	if to < 0 || to > int64(len(configs))-1 {
		return impl.CertResult{Code: impl.ErrRange}
	}
	epoch := configs[right.Places[len(right.Places)-1]].Epoch
	if configs[to].Epoch-epoch != 1 {
		return impl.CertResult{Code: impl.ErrState}
	}
	return wantCombined(shares, configs[0].F, next(epoch, to))
}

// wantReach finds first which place each epoch would be reached at, then how far they follow each other.
func wantReach(configs []impl.Config, shares []impl.Share) impl.IntsResult {
	if fault := wantGround(configs, shares); fault != impl.OK {
		return impl.IntsResult{Code: fault}
	}
	at := map[int64]int64{}
	for place, c := range slices.Backward(configs) {
		if int64(len(wantSigners(shares, next(c.Epoch-1, int64(place))))) > 2*c.F {
			at[c.Epoch] = int64(place)
		}
	}
	places := []int64{0}
	for epoch := configs[0].Epoch + 1; ; epoch++ {
		place, there := at[epoch]
		if !there {
			return impl.IntsResult{List: places}
		}
		places = append(places, place)
	}
}

func sameChains(a impl.ChainResult, b impl.ChainResult) bool {
	return a.Code == b.Code && slices.Equal(a.Places, b.Places)
}

type chainCase struct {
	configs []impl.Config
	shares  []impl.Share
	chain   []impl.Cert
	next    int64
}

func (c chainCase) text() string {
	return fmt.Sprintf("%.600s, %.900s, %.600s", fmt.Sprint(c.configs), fmt.Sprint(c.shares), fmt.Sprint(c.chain))
}

func checkChain(t *testing.T, name string, c chainCase, want impl.ChainResult) {
	t.Helper()
	if got := impl.VerifyChain(c.configs, c.shares, c.chain); !sameChains(got, want) {
		t.Errorf("%s: VerifyChain(%s) = %+v, want %+v", name, c.text(), got, want)
	}
}

// checkCode asks VerifyChain for a code, and ExtendChain, which tells it first, whatever is to come.
func checkCode(t *testing.T, name string, c chainCase, code int64) {
	t.Helper()
	checkChain(t, name, c, impl.ChainResult{Code: code})
	for _, to := range []int64{0, 1, 2, 7, 8, -1, math.MinInt64, math.MaxInt64} {
		c.next = to
		checkExtended(t, name, c, impl.CertResult{Code: code})
	}
}

func checkExtended(t *testing.T, name string, c chainCase, want impl.CertResult) {
	t.Helper()
	if got := impl.ExtendChain(c.configs, c.shares, c.chain, c.next); !sameCerts(got, want) {
		t.Errorf("%s: ExtendChain(%s, %d) = %+v, want %+v", name, c.text(), c.next, got, want)
	}
}

func checkReach(t *testing.T, name string, configs []impl.Config, shares []impl.Share, want impl.IntsResult) {
	t.Helper()
	if got := impl.ReachOf(configs, shares); !sameLists(got, want) {
		t.Errorf("%s: ReachOf(%s) = %+v, want %+v", name, chainCase{configs: configs, shares: shares}.text(), got, want)
	}
}

// checkGround asks all that lean on the configurations and shares for their code, also by chains that have codes of their own.
func checkGround(t *testing.T, name string, configs []impl.Config, shares []impl.Share, code int64) {
	t.Helper()
	checkReach(t, name, configs, shares, impl.IntsResult{Code: code})
	chains := [][]impl.Cert{nil, {}, certsBy(enough(2), climb(1, 7)...), {{}}, make([]impl.Cert, 8), make([]impl.Cert, 9), certsBy([]int64{3, 2, 1}, take(0, 9))}
	for _, chain := range chains {
		checkCode(t, name, chainCase{configs: configs, shares: shares, chain: chain}, code)
	}
}

// checkConfigs asks the fault of configurations alone and of all that lean on it, whatever the shares are.
func checkConfigs(t *testing.T, name string, configs []impl.Config, want int64) {
	t.Helper()
	if got := impl.ConfigsFault(configs); got != want {
		t.Errorf("%s: ConfigsFault(%.600s) = %d, want %d", name, fmt.Sprint(configs), got, want)
	}
	if got := impl.ReplicaFault(impl.Replica{Id: 1}, configs); got != want {
		t.Errorf("%s: a new replica has fault %d, want %d", name, got, want)
	}
	if want == impl.OK {
		return
	}
	for _, shares := range [][]impl.Share{nil, signedBy(enough(1), climb(1, 7)...), {{}}, sharesOf(next(1, 1), 1, 1), make([]impl.Share, 121)} {
		checkGround(t, name, configs, shares, want)
	}
}

func TestChainConstants(t *testing.T) {
	if impl.MaxChain != 8 {
		t.Errorf("MaxChain is %d", impl.MaxChain)
	}
}

func TestConfigsFaultOfHowMany(t *testing.T) {
	checkConfigs(t, "nil", nil, impl.ErrMany)
	checkConfigs(t, "empty", []impl.Config{}, impl.ErrMany)
	for count := 1; count <= 20; count++ {
		want := int64(impl.OK)
		if count > 8 {
			want = impl.ErrMany
		}
		for f := int64(1); f <= 2; f++ {
			checkConfigs(t, fmt.Sprint(count), slices.Repeat(stair(f, 4), count), want)
		}
	}
	checkConfigs(t, "1", house()[:1], impl.OK)
	checkConfigs(t, "7", house(), impl.OK)
	checkConfigs(t, "8", tower(), impl.OK)
	checkConfigs(t, "9", append(tower(), tower()[7]), impl.ErrMany)
	checkConfigs(t, "9 that are none", make([]impl.Config, 9), impl.ErrMany)
	checkConfigs(t, "8 that are none", make([]impl.Config, 8), impl.ErrRange)
	checkConfigs(t, "9, the first one wrong", append(stair(3, 1), tower()...), impl.ErrMany)
	checkConfigs(t, "100000 that are none", make([]impl.Config, 100000), impl.ErrMany)
}

func TestConfigsFaultOfEachConfig(t *testing.T) {
	for _, c := range wrongConfigs() {
		for _, count := range []int{1, 5, 8} {
			for place := range count {
				configs := tower()[:count]
				configs[place] = c.config
				if place == 0 || place == count/2 {
					checkConfigs(t, fmt.Sprint(c.name, " at ", place, " of ", count), configs, c.want)
				} else if got := impl.ConfigsFault(configs); got != c.want {
					t.Errorf("%s at %d of %d: %d, want %d", c.name, place, count, got, c.want)
				}
			}
		}
	}
}

func TestConfigsFaultOfAnotherF(t *testing.T) {
	for f := int64(1); f <= 2; f++ {
		for count := 2; count <= 8; count++ {
			for place := range count {
				configs := withF(tower()[:count], f)
				checkConfigs(t, "all the same", configs, impl.OK)
				configs[place].F = 3 - f
				checkConfigs(t, fmt.Sprint("another F at ", place, " of ", count), configs, impl.ErrForm)
			}
		}
	}
}

func TestConfigsFaultConfigByConfig(t *testing.T) { // what stands ahead is told, and of one place its ConfigFault ahead of its F
	type flaw struct {
		code int64
		turn func(*impl.Config)
	}
	flaws := []flaw{
		{impl.ErrForm, func(c *impl.Config) { c.F = 1 }},
		{impl.ErrRange, func(c *impl.Config) { c.Epoch = 10 }},
		{impl.ErrRange, func(c *impl.Config) { c.F = 0 }},
		{impl.ErrMany, func(c *impl.Config) { c.Forms = formsOf(c.Forms[0].Parts, nil) }},
		{impl.ErrTaken, func(c *impl.Config) { c.F, c.Rules = 1, append(c.Rules, c.Rules[0]) }},
		{impl.ErrMany, func(c *impl.Config) { c.F, c.Classes = 1, repeated(3, 5) }},
	}
	for _, one := range flaws {
		for _, two := range flaws {
			for place := 1; place < 8; place++ {
				for behind := place + 1; behind < 8; behind++ {
					configs := tower()
					one.turn(&configs[place])
					two.turn(&configs[behind])
					if got := impl.ConfigsFault(configs); got != one.code {
						t.Errorf("places %d and %d: %d, want %d", place, behind, got, one.code)
					}
				}
			}
		}
	}
	first := tower() // the first one is what the others are held against, whatever most are
	first[0].F, first[1].Epoch = 1, 0
	checkConfigs(t, "the first one has another F, the second one no epoch", first, impl.ErrRange)
	first = tower()
	first[0].F, first[2].Epoch = 1, 0
	checkConfigs(t, "the first one has another F, the third one no epoch", first, impl.ErrForm)
	first = tower()
	first[0].F, first[0].Epoch = 1, 0
	checkConfigs(t, "the first one has another F and no epoch", first, impl.ErrRange)
}

func TestConfigsOfAnyEpochsHaveNoFault(t *testing.T) { // nothing is asked of their order
	for _, epochs := range [][]int64{{9}, {1, 1, 1}, {9, 8, 7}, {5, 1, 9, 5, 2}, {9, 9, 9, 9, 9, 9, 9, 9}} {
		checkConfigs(t, "any epochs", stair(1, epochs...), impl.OK)
	}
}

func TestSharesOfChainsWithAFault(t *testing.T) {
	for f := int64(1); f <= 2; f++ {
		good := signedBy(enough(f), climb(1, 3)...)
		configs := stair(f, 1, 2, 3, 4)
		lists := [][]impl.Share{
			append(slices.Clone(good), good[0]), append(slices.Clone(good), good[len(good)-1]), append(good[:1:1], good...),
			distinctShares(121), make([]impl.Share, 121), make([]impl.Share, 100000), {{}}, sharesOf(next(1, 1), 0), sharesOf(next(1, 1), 3*f+2), sharesOf(next(1, 8), 1),
			append(distinctShares(120), share(1, next(1, 1))), append(distinctShares(119), share(9, next(1, 1))),
		}
		for _, c := range wrongStatements() {
			lists = append(lists, slices.Insert(slices.Clone(good), 4, share(2, c.x)))
		}
		codes := map[int64]int{}
		for _, shares := range lists {
			code := wantSharesFault(shares, f)
			codes[code]++
			checkGround(t, "shares", configs, shares, code)
		}
		if codes[impl.OK] != 0 || codes[impl.ErrTaken] < 3 || codes[impl.ErrMany] < 4 || codes[impl.ErrRange] < 4 || codes[impl.ErrForm] < 4 {
			t.Errorf("the codes are %v", codes)
		}
	}
}

func TestSharesByFOfTheFirstConfig(t *testing.T) {
	x := next(1, 1)
	five := sharesOf(x, 1, 2, 3, 4, 5)
	checkGround(t, "a fifth of four", stair(1, 1, 2), five, impl.ErrRange)
	checkChain(t, "a fifth of seven", chainCase{configs: stair(2, 1, 2), shares: five, chain: certsBy(enough(2), x)}, impl.ChainResult{Places: []int64{0, 1}})
	three := sharesOf(x, 1, 2, 3)
	checkChain(t, "three of four", chainCase{configs: stair(1, 1, 2), shares: three, chain: certsBy(enough(1), x)}, impl.ChainResult{Places: []int64{0, 1}})
	checkCode(t, "three of seven", chainCase{configs: stair(2, 1, 2), shares: three, chain: certsBy(enough(1), x)}, impl.ErrSign)
	checkReach(t, "three of four", stair(1, 1, 2), three, impl.IntsResult{List: []int64{0, 1}})
	checkReach(t, "three of seven", stair(2, 1, 2), three, impl.IntsResult{List: []int64{0}})
	checkReach(t, "four of seven", stair(2, 1, 2), five[1:], impl.IntsResult{List: []int64{0}})
	checkReach(t, "five of seven", stair(2, 1, 2), five, impl.IntsResult{List: []int64{0, 1}})
}

func TestChainsOfNone(t *testing.T) {
	for _, configs := range [][]impl.Config{house()[:1], house(), tower(), stair(1, 9), stair(2, 3, 3, 3)} {
		for _, shares := range [][]impl.Share{nil, {}, signedBy(enough(1), climb(1, 3)...), distinctShares(120)} {
			for _, chain := range [][]impl.Cert{nil, {}} {
				checkChain(t, "none", chainCase{configs: configs, shares: shares, chain: chain}, impl.ChainResult{Places: []int64{0}})
			}
		}
	}
}

func TestRightChainsOfEachLength(t *testing.T) { // P13
	for f := int64(1); f <= 2; f++ {
		for first := int64(1); first <= 2; first++ {
			var epochs []int64
			for step := range int64(8) {
				epochs = append(epochs, first+step)
			}
			list := climb(first, 7)
			shares := signedBy(enough(f), list...)
			for length := range 8 {
				want := impl.ChainResult{Places: []int64{0, 1, 2, 3, 4, 5, 6, 7}[:length+1]}
				checkChain(t, fmt.Sprint(length), chainCase{configs: stair(f, epochs...), shares: shares, chain: certsBy(enough(f), list[:length]...)}, want)
			}
			checkReach(t, "all", stair(f, epochs...), shares, impl.IntsResult{List: []int64{0, 1, 2, 3, 4, 5, 6, 7}})
		}
	}
	checkChain(t, "the tower", chainCase{configs: tower(), shares: signedBy(enough(2), climb(1, 7)...), chain: certsBy(enough(2), climb(1, 7)...)}, impl.ChainResult{Places: []int64{0, 1, 2, 3, 4, 5, 6, 7}})
}

func TestRightChainsOfTheHouse(t *testing.T) { // P13: places in any order, of each epoch another one
	all := said(next(2, 1), next(2, 2), next(3, 3), next(3, 6), next(4, 5))
	shares := signedBy([]int64{4, 2, 1}, all...)
	signers := []int64{1, 2, 4}
	for _, list := range [][]impl.Statement{
		all[:1], all[1:2], said(all[0], all[2]), said(all[0], all[3]), said(all[1], all[2]), said(all[1], all[3]),
		said(all[0], all[2], all[4]), said(all[1], all[2], all[4]), said(all[0], all[3], all[4]), said(all[1], all[3], all[4]),
	} {
		places := []int64{0}
		for _, x := range list {
			places = append(places, x.Next)
		}
		checkChain(t, "the house", chainCase{configs: house(), shares: shares, chain: certsBy(signers, list...)}, impl.ChainResult{Places: places})
	}
}

// stairCase has epochs 2, 3, 4, 3, 5, 2 and 1 at its places, and shares of all that could be said in it, right or not.
func stairCase(list ...impl.Statement) chainCase {
	all := said(
		next(2, 1), next(2, 3), next(3, 2), next(4, 4), // these lead on
		next(2, 0), next(2, 2), next(2, 4), next(2, 5), next(2, 6), next(2, 7), next(3, 1), next(3, 4), next(3, 7), next(1, 0), next(1, 7), next(9, 7), next(5, 1),
		take(2, 1), take(3, 2), take(9, 7), issue(2, 1, 1), revoke(2, 1, 1), issue(3, 1, 1), revoke(9, 1, 1),
	)
	return chainCase{configs: stair(1, 2, 3, 4, 3, 5, 2, 1), shares: signedBy(enough(1), all...), chain: certsBy(enough(1), list...)}
}

func TestVerifyChainByHand(t *testing.T) {
	cases := []struct {
		name  string
		chain []impl.Statement
		code  int64
	}{
		{"a take", said(take(2, 1)), impl.ErrForm},
		{"an issue", said(issue(2, 1, 1)), impl.ErrForm},
		{"a revoke", said(revoke(2, 1, 1)), impl.ErrForm},
		{"a take of another epoch", said(take(3, 2)), impl.ErrForm},
		{"a take of another epoch that leads nowhere", said(take(9, 7)), impl.ErrForm},
		{"an issue of another epoch", said(issue(3, 1, 1)), impl.ErrForm},
		{"a revoke of another epoch", said(revoke(9, 1, 1)), impl.ErrForm},
		{"an epoch ahead", said(next(1, 0)), impl.ErrState},
		{"an epoch behind", said(next(3, 2)), impl.ErrState},
		{"another epoch, and no place", said(next(3, 7)), impl.ErrState},
		{"an epoch ahead, and no place", said(next(1, 7)), impl.ErrState},
		{"epoch 9, and no place", said(next(9, 7)), impl.ErrState},
		{"no place", said(next(2, 7)), impl.ErrRange},
		{"to itself", said(next(2, 0)), impl.ErrState},
		{"to another one of its epoch", said(next(2, 5)), impl.ErrState},
		{"two epochs on", said(next(2, 2)), impl.ErrState},
		{"three epochs on", said(next(2, 4)), impl.ErrState},
		{"an epoch back", said(next(2, 6)), impl.ErrState},
		{"the first one again", said(next(2, 1), next(2, 1)), impl.ErrState},
		{"another one of the same epoch", said(next(2, 1), next(2, 3)), impl.ErrState},
		{"no place behind a step", said(next(2, 1), next(3, 7)), impl.ErrRange},
		{"to itself behind a step", said(next(2, 1), next(3, 1)), impl.ErrState},
		{"two epochs on behind a step", said(next(2, 1), next(3, 4)), impl.ErrState},
		{"a step left out", said(next(2, 1), next(4, 4)), impl.ErrState},
		{"an epoch back behind two steps", said(next(2, 1), next(3, 2), next(2, 1)), impl.ErrState},
		{"a take behind two steps", said(next(2, 1), next(3, 2), take(9, 7)), impl.ErrForm},
		{"past the last one", said(next(2, 1), next(3, 2), next(4, 4), next(5, 1)), impl.ErrState},
		{"not in order", said(next(3, 2), next(2, 1)), impl.ErrState},
		{"not signed", said(next(2, 1), next(4, 1)), impl.ErrSign},
		{"not signed, of no place and another epoch", said(next(2, 1), next(8, 7)), impl.ErrSign},
		{"a take that is not signed", said(next(2, 1), take(8, 7)), impl.ErrSign},
		{"no statement", said(next(2, 1), impl.Statement{}), impl.ErrForm},
		{"a next below 0", said(next(2, -1)), impl.ErrRange},
		{"next 8", said(next(2, 8)), impl.ErrRange},
		{"epoch 10", said(next(10, 1)), impl.ErrRange},
		{"a place of another epoch, then no statement", said(next(2, 2), impl.Statement{}), impl.ErrState},
		{"no place, then what is not signed", said(next(2, 7), next(8, 7)), impl.ErrRange},
		{"what is not signed, then no place", said(next(8, 7), next(2, 7)), impl.ErrSign},
		{"no statement, then epoch 10", said(impl.Statement{}, next(10, 1)), impl.ErrForm},
		{"epoch 10, then no statement", said(next(10, 1), impl.Statement{}), impl.ErrRange},
	}
	for _, k := range cases {
		c := stairCase(k.chain...)
		if want := wantChain(c.configs, c.shares, c.chain); want.Code != k.code {
			t.Errorf("%s: worked out as %+v", k.name, want)
		}
		checkCode(t, k.name, c, k.code)
	}
	checkChain(t, "right", stairCase(next(2, 1), next(3, 2), next(4, 4)), impl.ChainResult{Places: []int64{0, 1, 2, 4}})
	checkChain(t, "right by another one", stairCase(next(2, 3), next(3, 2), next(4, 4)), impl.ChainResult{Places: []int64{0, 3, 2, 4}})
}

func TestVerifyCertOfEachLink(t *testing.T) { // each code of VerifyCert, at each place, ahead of all else of that certificate
	wrong := [][]int64{nil, {1}, {1, 2}, {2, 1, 3}, {1, 1, 2}, {0, 1, 2}, {1, 2, 5}, {1, 2, 3, 4}, {1, 2, 4}, {math.MinInt64, math.MaxInt64}, {9, 8}}
	list := said(next(2, 1), next(3, 2), next(4, 4))
	codes := map[int64]int{}
	for place := range list {
		for _, signers := range wrong {
			for _, x := range said(list[place], take(2, 1), next(9, 7), next(2, 7), next(2, 2)) {
				c := stairCase(list...)
				c.chain[place] = cert(x, signers...)
				code := wantVerified(c.shares, 1, c.chain[place])
				codes[code]++
				checkCode(t, fmt.Sprint("signers ", signers, " at ", place), c, code)
			}
		}
		for _, k := range wrongStatements() {
			c := stairCase(list...)
			c.chain[place] = cert(k.x, 3, 2, 1)
			checkCode(t, fmt.Sprint(k.name, " at ", place), c, k.want)
		}
	}
	if codes[impl.OK] != 0 || codes[impl.ErrForm] == 0 || codes[impl.ErrRange] == 0 || codes[impl.ErrSign] == 0 {
		t.Errorf("the codes are %v", codes)
	}
}

func TestLinksOneByOne(t *testing.T) { // of two certificates with a code that of the first one is told, whatever the codes are
	type flaw struct {
		code  int64
		wrong func(epoch int64) impl.Cert
	}
	flaws := []flaw{
		{impl.ErrSign, func(epoch int64) impl.Cert { return cert(next(epoch, 1), 1, 2) }},
		{impl.ErrForm, func(epoch int64) impl.Cert { return cert(next(epoch, 1), 3, 2, 1) }},
		{impl.ErrRange, func(epoch int64) impl.Cert { return cert(next(epoch, 1), 1, 2, 3, 5) }},
		{impl.ErrForm, func(epoch int64) impl.Cert { return cert(take(2, 1), 1, 2, 3) }},
		{impl.ErrState, func(epoch int64) impl.Cert { return cert(next(9, 7), 1, 2, 3) }},
		{impl.ErrRange, func(epoch int64) impl.Cert { return cert(next(epoch, 7), 1, 2, 3) }},
		{impl.ErrState, func(epoch int64) impl.Cert { return cert(next(epoch, epoch+2), 1, 2, 3) }},
	}
	configs := stair(1, 1, 2, 3, 4, 5, 6, 7)
	var all []impl.Statement
	for epoch := int64(1); epoch <= 5; epoch++ {
		all = append(all, next(epoch, epoch), next(epoch, 7))
	}
	all = append(all, take(2, 1), next(9, 7))
	for epoch := int64(1); epoch <= 4; epoch++ {
		all = append(all, next(epoch, epoch+2))
	}
	shares := signedBy(enough(1), all...)
	for _, one := range flaws {
		for place := range int64(4) {
			chain := certsBy(enough(1), climb(1, 5)...)
			chain[place] = one.wrong(place + 1)
			checkCode(t, fmt.Sprint("one at ", place), chainCase{configs: configs, shares: shares, chain: chain}, one.code)
			for _, two := range flaws {
				for behind := place + 1; behind < 4; behind++ {
					both := slices.Clone(chain)
					both[behind] = two.wrong(behind + 1)
					checkChain(t, fmt.Sprint("two at ", place, " and ", behind), chainCase{configs: configs, shares: shares, chain: both}, impl.ChainResult{Code: one.code})
				}
			}
		}
	}
}

func TestHowManyLinks(t *testing.T) {
	configs, shares := tower(), append(signedBy(enough(2), climb(1, 7)...), signedBy(enough(2), next(8, 0), next(8, 7), take(8, 7), next(9, 1))...)
	seven := certsBy(enough(2), climb(1, 7)...)
	eighth := []struct {
		name string
		c    impl.Cert
		code int64
	}{
		{"signed, to the first one", cert(next(8, 0), enough(2)...), impl.ErrState},
		{"signed, to itself", cert(next(8, 7), enough(2)...), impl.ErrState},
		{"a take", cert(take(8, 7), enough(2)...), impl.ErrForm},
		{"of another epoch", cert(next(9, 1), enough(2)...), impl.ErrState},
		{"not signed", cert(next(8, 1), enough(2)...), impl.ErrSign},
		{"out of bounds", cert(next(8, 8), enough(2)...), impl.ErrRange},
		{"nothing", impl.Cert{}, impl.ErrForm},
		{"the last one again", seven[6], impl.ErrState},
	}
	for _, k := range eighth { // no chain of 8 is right, as no 9 configurations are: it has a code of its own, not that of too many
		eight := append(slices.Clone(seven), k.c)
		checkCode(t, k.name, chainCase{configs: configs, shares: shares, chain: eight}, k.code)
		checkCode(t, k.name+", and one more", chainCase{configs: configs, shares: shares, chain: append(eight, k.c)}, impl.ErrMany)
		front := append([]impl.Cert{k.c}, seven...)
		checkCode(t, k.name+" ahead", chainCase{configs: configs, shares: shares, chain: front}, k.code)
		checkCode(t, k.name+" ahead, and one more", chainCase{configs: configs, shares: shares, chain: append(front, k.c)}, impl.ErrMany)
	}
	for _, count := range []int{9, 10, 100, 100000} {
		checkChain(t, "very many", chainCase{configs: configs, shares: shares, chain: make([]impl.Cert, count)}, impl.ChainResult{Code: impl.ErrMany})
		checkChain(t, "very many of one", chainCase{configs: configs, shares: shares, chain: slices.Repeat(seven[:1], count)}, impl.ChainResult{Code: impl.ErrMany})
	}
	checkChain(t, "8 that are none", chainCase{configs: configs, shares: shares, chain: make([]impl.Cert, 8)}, impl.ChainResult{Code: impl.ErrForm})
}

func TestExtendChainByHand(t *testing.T) {
	ok := func(epoch int64, to int64, signers ...int64) impl.CertResult {
		return impl.CertResult{Cert: cert(next(epoch, to), signers...)}
	}
	code := func(code int64) impl.CertResult { return impl.CertResult{Code: code} }
	one, two := said(next(2, 1)), said(next(2, 1), next(3, 2))
	cases := []struct {
		name  string
		chain []impl.Statement
		to    int64
		want  impl.CertResult
	}{
		{"the first step", nil, 1, ok(2, 1, 1, 2, 3)},
		{"another first step", nil, 3, ok(2, 3, 1, 2, 3)},
		{"the second step", one, 2, ok(3, 2, 1, 2, 3)},
		{"the second step behind another one", said(next(2, 3)), 2, ok(3, 2, 1, 2, 3)},
		{"the third step", two, 4, ok(4, 4, 1, 2, 3)},
		{"below 0", nil, -1, code(impl.ErrRange)},
		{"far below 0", one, math.MinInt64, code(impl.ErrRange)},
		{"the last place", nil, 6, code(impl.ErrState)},
		{"behind the last place, though signed", nil, 7, code(impl.ErrRange)},
		{"behind the last place, though signed, behind a step", one, 7, code(impl.ErrRange)},
		{"far behind the last place", two, math.MaxInt64, code(impl.ErrRange)},
		{"2 to the 32th", nil, 1<<32 + 1, code(impl.ErrRange)},
		{"itself, though signed", nil, 0, code(impl.ErrState)},
		{"of the same epoch, though signed", nil, 5, code(impl.ErrState)},
		{"an epoch back, though signed", nil, 6, code(impl.ErrState)},
		{"two epochs on, though signed", nil, 2, code(impl.ErrState)},
		{"three epochs on, though signed", nil, 4, code(impl.ErrState)},
		{"itself behind a step, though signed", one, 1, code(impl.ErrState)},
		{"the first one behind a step", one, 0, code(impl.ErrState)},
		{"another one of that epoch behind a step", one, 3, code(impl.ErrState)},
		{"past the last epoch, though signed", said(next(2, 1), next(3, 2), next(4, 4)), 1, code(impl.ErrState)},
		{"a wrong chain, and a wrong next", said(take(2, 1)), -1, code(impl.ErrForm)},
		{"a wrong chain, and a right next", said(next(2, 7)), 1, code(impl.ErrRange)},
	}
	for _, k := range cases {
		c := stairCase(k.chain...)
		c.next = k.to
		checkExtended(t, k.name, c, k.want)
		if want := wantExtended(c.configs, c.shares, c.chain, c.next); !sameCerts(want, k.want) {
			t.Errorf("%s: worked out as %+v", k.name, want)
		}
	}
}

func TestExtendBySharesOfEachGroup(t *testing.T) { // P13: by what enough signed, and by nothing else
	for f := int64(1); f <= 2; f++ {
		configs := stair(f, 3, 4, 5, 5)
		for i, group := range groupsOf(3*f + 1) {
			shares := slices.Concat(signedBy(enough(f), next(3, 1)), sharesOf(next(4, 2), turned(group, i)...), signedBy(enough(f), next(4, 3), take(4, 2), next(5, 2), next(3, 2)))
			want := impl.CertResult{Code: impl.ErrSign}
			if int64(len(group)) > 2*f {
				want = impl.CertResult{Cert: cert(next(4, 2), group[:2*f+1]...)}
			}
			c := chainCase{configs: configs, shares: shares, chain: certsBy(enough(f), next(3, 1)), next: 2}
			checkExtended(t, fmt.Sprint("group ", group), c, want)
			c.chain = nil
			checkExtended(t, "no chain", c, impl.CertResult{Code: impl.ErrState})
		}
	}
}

func TestExtendAFullChain(t *testing.T) { // a right one has at most 7: nothing comes behind it, and one of 8 has the code of VerifyChain
	c := chainCase{configs: tower(), shares: append(signedBy(enough(2), climb(1, 7)...), signedBy(enough(2), next(8, 0), next(8, 7))...), chain: certsBy(enough(2), climb(1, 7)...)}
	for to := int64(-2); to <= 9; to++ {
		c.next = to
		want := impl.CertResult{Code: impl.ErrState}
		if to < 0 || to > 7 {
			want.Code = impl.ErrRange
		}
		checkExtended(t, fmt.Sprint("to ", to), c, want)
	}
	for last := range int64(8) {
		full := c
		full.chain = append(slices.Clone(c.chain), cert(next(8, last), enough(2)...))
		code := impl.VerifyChain(full.configs, full.shares, full.chain).Code
		if code != impl.ErrState && code != impl.ErrSign {
			t.Errorf("a chain of 8 has code %d", code)
		}
		checkCode(t, "8", full, code)
	}
}

func TestEpochNineIsTheLast(t *testing.T) {
	shares := signedBy(enough(1), next(8, 1), next(9, 0), next(9, 1), next(9, 2))
	configs := stair(1, 8, 9, 1)
	checkReach(t, "up to 9", configs, shares, impl.IntsResult{List: []int64{0, 1}})
	for to := range int64(3) {
		c := chainCase{configs: configs, shares: shares, chain: certsBy(enough(1), next(8, 1)), next: to}
		checkExtended(t, "behind 9", c, impl.CertResult{Code: impl.ErrState})
		c.chain = append(c.chain, cert(next(9, to), 1, 2, 3))
		checkCode(t, "behind 9", c, impl.ErrState)
	}
	checkReach(t, "from 9", stair(1, 9, 1, 9), shares, impl.IntsResult{List: []int64{0}})
}

func TestReachByHand(t *testing.T) {
	// epochs: place 0 is 2, 1 and 3 are 3, 2 and 5 are 4, 4 is 5, 6 is 2, 7 is 1
	configs := stair(1, 2, 3, 4, 3, 5, 4, 2, 1)
	cases := []struct {
		name string
		list []impl.Statement
		want []int64
	}{
		{"nothing signed", nil, []int64{0}},
		{"one step", said(next(2, 1)), []int64{0, 1}},
		{"one step to the later place", said(next(2, 3)), []int64{0, 3}},
		{"both, the first one ahead", said(next(2, 1), next(2, 3)), []int64{0, 1}},
		{"both, the later one ahead", said(next(2, 3), next(2, 1)), []int64{0, 1}},
		{"two steps", said(next(2, 1), next(3, 2)), []int64{0, 1, 2}},
		{"two steps, the later ones", said(next(2, 3), next(3, 5)), []int64{0, 3, 5}},
		{"two steps, of each both", said(next(3, 5), next(3, 2), next(2, 3), next(2, 1)), []int64{0, 1, 2}},
		{"a place ahead of the one that counts", said(next(2, 3), next(3, 2)), []int64{0, 3, 2}},
		{"three steps", said(next(2, 1), next(3, 2), next(4, 4)), []int64{0, 1, 2, 4}},
		{"three steps, signed in another order", said(next(4, 4), next(3, 5), next(2, 3)), []int64{0, 3, 5, 4}},
		{"a gap", said(next(2, 1), next(4, 4)), []int64{0, 1}},
		{"the first step missing", said(next(3, 2), next(4, 4)), []int64{0}},
		{"to itself", said(next(2, 0)), []int64{0}},
		{"to one of the same epoch", said(next(2, 6)), []int64{0}},
		{"two epochs on", said(next(2, 2), next(2, 4)), []int64{0}},
		{"an epoch back", said(next(2, 7)), []int64{0}},
		{"from an epoch ahead", said(next(1, 0), next(1, 6)), []int64{0}},
		{"takes", said(take(2, 1), take(3, 2)), []int64{0}},
		{"issues and revokes", said(issue(2, 1, 1), revoke(2, 1, 1)), []int64{0}},
		{"past the last one", said(next(2, 1), next(3, 2), next(4, 4), next(5, 1), next(5, 0)), []int64{0, 1, 2, 4}},
		{"the place of the next epoch, of another one's number", said(next(3, 1)), []int64{0}},
	}
	for _, k := range cases {
		shares := signedBy([]int64{4, 1, 2}, k.list...)
		checkReach(t, k.name, configs, shares, impl.IntsResult{List: k.want})
		if want := wantReach(configs, shares); !slices.Equal(want.List, k.want) {
			t.Errorf("%s: worked out as %+v", k.name, want)
		}
	}
	few := append(sharesOf(next(2, 1), 1, 2), sharesOf(next(2, 3), 1, 2, 4)...)
	checkReach(t, "the first place has too few, the later one enough", configs, few, impl.IntsResult{List: []int64{0, 3}})
	checkReach(t, "both have too few", configs, few[:4], impl.IntsResult{List: []int64{0}})
	checkReach(t, "one config", configs[:1], few, impl.IntsResult{List: []int64{0}})
	checkReach(t, "a place that is not there", configs[:3], few, impl.IntsResult{List: []int64{0}})
}

func TestReachFaultsInTheirOrder(t *testing.T) {
	wrong := [][]impl.Share{make([]impl.Share, 121), sharesOf(next(1, 1), 1, 1), sharesOf(next(1, 1), 8), {{Replica: 1}}}
	for _, shares := range wrong {
		code := wantSharesFault(shares, 1)
		checkReach(t, "the shares alone", stair(1, 1, 2), shares, impl.IntsResult{Code: code})
		checkReach(t, "no configs", nil, shares, impl.IntsResult{Code: impl.ErrMany})
		checkReach(t, "9 configs", slices.Repeat(stair(1, 1), 9), shares, impl.IntsResult{Code: impl.ErrMany})
		checkReach(t, "epoch 0", stair(1, 1, 0), shares, impl.IntsResult{Code: impl.ErrRange})
		checkReach(t, "F 3", stair(3, 1), shares, impl.IntsResult{Code: impl.ErrRange})
		checkReach(t, "another F", append(stair(1, 1), stair(2, 2)...), shares, impl.IntsResult{Code: impl.ErrForm})
	}
}

func TestReachOfEachGroup(t *testing.T) {
	for f := int64(1); f <= 2; f++ {
		for i, group := range groupsOf(3*f + 1) {
			for j, other := range groupsOf(3*f + 1) {
				if f == 2 && (i+j)%5 != 0 {
					continue
				}
				want := []int64{0}
				switch {
				case int64(len(group)) > 2*f:
					want = []int64{0, 1}
				case int64(len(other)) > 2*f:
					want = []int64{0, 2}
				}
				shares := append(sharesOf(next(6, 2), turned(other, i)...), sharesOf(next(6, 1), turned(group, j)...)...)
				checkReach(t, fmt.Sprint(group, " and ", other), stair(f, 6, 7, 7), shares, impl.IntsResult{List: want})
			}
		}
	}
}

func TestReachIsAChain(t *testing.T) { // P13: certificates of what it goes by are a right chain to the same places, extended no further by the first one
	d := dice(131)
	lengths := map[int64]int{}
	for range 3000 {
		c := d.rightGround()
		reach := impl.ReachOf(c.configs, c.shares)
		if want := wantReach(c.configs, c.shares); reach.Code != impl.OK || !sameLists(reach, want) {
			t.Fatalf("ReachOf(%s) = %+v, want %+v", c.text(), reach, want)
		}
		var chain []impl.Cert
		for _, to := range reach.List[1:] {
			made := impl.ExtendChain(c.configs, c.shares, chain, to)
			if made.Code != impl.OK {
				t.Fatalf("%s: step to %d has code %d", c.text(), to, made.Code)
			}
			chain = append(chain, made.Cert)
		}
		c.chain = chain
		checkChain(t, "reach", c, impl.ChainResult{Places: reach.List})
		for to := range int64(len(c.configs)) {
			if made := impl.ExtendChain(c.configs, c.shares, chain, to); made.Code == impl.OK {
				t.Fatalf("%s: reach %v goes on to %d", c.text(), reach.List, to)
			}
		}
		lengths[int64(len(reach.List))]++
	}
	checkCodes(t, "how far it reaches", lengths, 1, 2, 3, 4, 5, 6)
}

func TestIsPrefixByHand(t *testing.T) {
	cases := []struct {
		a    []int64
		b    []int64
		want bool
	}{
		{nil, nil, true},
		{nil, []int64{}, true},
		{[]int64{}, nil, true},
		{[]int64{}, []int64{}, true},
		{nil, []int64{0}, true},
		{[]int64{}, []int64{5, 6}, true},
		{[]int64{0}, nil, false},
		{[]int64{0}, []int64{}, false},
		{[]int64{0}, []int64{0}, true},
		{[]int64{0}, []int64{1}, false},
		{[]int64{0}, []int64{0, 1}, true},
		{[]int64{1}, []int64{0, 1}, false},
		{[]int64{0, 1}, []int64{0}, false},
		{[]int64{0, 1, 2}, []int64{0, 1, 2}, true},
		{[]int64{0, 1, 2}, []int64{0, 1, 2, 3}, true},
		{[]int64{0, 1, 2, 3}, []int64{0, 1, 2}, false},
		{[]int64{0, 4, 2}, []int64{0, 1, 2}, false},
		{[]int64{0, 4, 2}, []int64{0, 1, 2, 3}, false},
		{[]int64{0, 1, 4}, []int64{0, 1, 2, 3}, false},
		{[]int64{4, 1, 2}, []int64{0, 1, 2, 3}, false},
		{[]int64{0, 0}, []int64{0}, false},
		{[]int64{0, 0}, []int64{0, 0, 0}, true},
		{[]int64{math.MinInt64, math.MaxInt64}, []int64{math.MinInt64, math.MaxInt64, -1}, true},
		{[]int64{math.MinInt64}, []int64{math.MaxInt64}, false},
		{[]int64{1 << 32}, []int64{0, 0}, false},
		{make([]int64, 100000), make([]int64, 100000), true},
		{make([]int64, 100000), make([]int64, 100001), true},
		{make([]int64, 100001), make([]int64, 100000), false},
		{append(make([]int64, 99999), 1), make([]int64, 100000), false},
	}
	for _, k := range cases {
		if got := impl.IsPrefix(k.a, k.b); got != k.want {
			t.Errorf("IsPrefix(%.100s, %.100s) = %v", fmt.Sprint(k.a), fmt.Sprint(k.b), got)
		}
	}
	memory := []int64{0, 1, 2, 3} // what stands in memory behind the end of a list is not of it
	if impl.IsPrefix(memory[:4], memory[:2]) || !impl.IsPrefix(memory[:2], memory[:4]) {
		t.Error("what is behind the end counts")
	}
}

// shortLists are all lists of up to 4 of the numbers 0 to 2.
func shortLists() [][]int64 {
	lists := [][]int64{nil}
	for first := 0; len(lists[first]) < 4; first++ {
		for n := range int64(3) {
			lists = append(lists, append(slices.Clone(lists[first]), n))
		}
	}
	return lists
}

func TestWhatBeginsWithWhatBeginsWithAnother(t *testing.T) { // P13
	lists := shortLists()
	if len(lists) != 1+3+9+27+81 {
		t.Fatalf("there are %d lists", len(lists))
	}
	begins := make([][]bool, len(lists))
	for i, a := range lists {
		for j, b := range lists {
			got := impl.IsPrefix(a, b)
			begins[i] = append(begins[i], got)
			count := 0
			for count < len(a) && count < len(b) && a[count] == b[count] {
				count++
			}
			if got != (count == len(a)) {
				t.Errorf("IsPrefix(%v, %v) = %v", a, b, got)
			}
			if got && begins[j] != nil && j < i && begins[j][i] {
				t.Errorf("%v and %v begin with each other", a, b)
			}
		}
	}
	for i := range lists {
		for j := range lists {
			for k := range lists {
				if begins[i][j] && begins[j][k] && !begins[i][k] {
					t.Errorf("%v begins with %v, and that with %v", lists[k], lists[j], lists[i])
				}
			}
		}
	}
}

// signersOfMost are enough in most of its answers.
func (d *dice) signersOfMost(f int64) []int64 {
	all := listOfSet(1<<(3*f+1) - 1)
	for range d.below(f + 1 + d.below(4)/3) {
		at := d.below(int64(len(all)))
		all = slices.Delete(all, int(at), int(at)+1)
	}
	return turned(all, int(d.below(7)))
}

// rightGround has no fault: its epochs lie close together, and most of what leads on is signed, beside some that does not.
func (d *dice) rightGround() chainCase {
	f, first := d.below(2)+1, d.below(4)+1
	c := chainCase{configs: stair(f, first)}
	for range d.below(8) {
		c.configs = append(c.configs, impl.Config{Epoch: min(9, max(1, first-1+d.below(7))), F: f})
	}
	if d.below(4) == 0 {
		slices.SortFunc(c.configs[1:], func(a impl.Config, b impl.Config) int { return int(a.Epoch - b.Epoch) })
	}
	for place, config := range c.configs {
		if config.Epoch > 1 && d.below(8) > 0 {
			c.shares = append(c.shares, sharesOf(next(config.Epoch-1, int64(place)), d.signersOfMost(f)...)...)
		}
	}
	for range d.below(5) {
		epoch := d.below(9) + 1
		x := said(next(epoch, d.below(8)), next(first, d.below(8)), take(first, d.below(8)), issue(epoch, 1, 1), revoke(epoch, 1, 1))[d.below(5)]
		if !slices.ContainsFunc(c.shares, func(s impl.Share) bool { return s.Statement == x }) {
			c.shares = append(c.shares, sharesOf(x, d.signersOfMost(f)...)...)
		}
	}
	return c
}

// rightChain goes on by what is signed as far as the dice want; its signers are any that have signed, and enough.
func (d *dice) rightChain(c chainCase) []impl.Cert {
	var chain []impl.Cert
	f, epoch := c.configs[0].F, c.configs[0].Epoch
	for d.below(6) > 0 {
		var open []impl.Statement
		for place, config := range c.configs {
			if x := next(epoch, int64(place)); config.Epoch == epoch+1 && int64(len(wantSigners(c.shares, x))) > 2*f {
				open = append(open, x)
			}
		}
		if len(open) == 0 {
			break
		}
		x := open[d.below(int64(len(open)))]
		signers := wantSigners(c.shares, x)
		for int64(len(signers)) > 2*f+1 && d.below(2) == 0 {
			at := int(d.below(int64(len(signers))))
			signers = slices.Delete(signers, at, at+1)
		}
		chain, epoch = append(chain, cert(x, signers...)), epoch+1
	}
	return chain
}

// anyChain is a right chain that in most answers was changed in one certificate or another.
func (d *dice) anyChain() chainCase {
	c := d.rightGround()
	c.chain = d.rightChain(c)
	c.next = d.below(10) - 1
	for d.below(3) > 0 {
		at := int(d.below(int64(len(c.chain)) + 1))
		link := cert(next(d.below(9)+1, d.below(8)), d.signers(c.configs[0].F)...)
		if len(c.shares) > 0 && d.below(5) > 0 {
			x := c.shares[d.below(int64(len(c.shares)))].Statement
			link = cert(x, wantSigners(c.shares, x)...)
		}
		switch d.below(4) {
		case 0:
			c.chain = slices.Insert(c.chain, at, link)
		case 1:
			if at < len(c.chain) {
				c.chain = slices.Delete(c.chain, at, at+1)
			}
		case 2:
			if at < len(c.chain) {
				*numbersOfStatement(&c.chain[at].Statement)[d.below(5)] += d.below(3) - 1
			}
		case 3:
			if at < len(c.chain) {
				c.chain[at] = link
			}
		}
	}
	switch d.below(60) {
	case 0:
		c.shares = append(c.shares, c.shares...)
	case 1:
		c.configs[d.below(int64(len(c.configs)))].Epoch = 10
	case 2:
		c.configs[d.below(int64(len(c.configs)))].F = d.below(4)
	case 3:
		c.chain = append(c.chain, make([]impl.Cert, 9-min(len(c.chain), 8))...)
	case 4:
		c.shares = append(c.shares, share(8, next(1, 1)))
	}
	return c
}

// checkRight asks of a right chain what is promised of it.
func checkRight(t *testing.T, c chainCase) {
	t.Helper()
	got := impl.VerifyChain(c.configs, c.shares, c.chain)
	if got.Code != impl.OK || len(got.Places) != len(c.chain)+1 || got.Places[0] != 0 {
		t.Fatalf("VerifyChain(%s) = %+v", c.text(), got)
	}
	for at, link := range c.chain {
		from, to := got.Places[at], got.Places[at+1]
		if c.configs[to].Epoch != c.configs[from].Epoch+1 {
			t.Fatalf("%s: epoch %d comes behind %d", c.text(), c.configs[to].Epoch, c.configs[from].Epoch)
		}
		if link.Statement != next(c.configs[from].Epoch, to) || !impl.IsSigned(c.shares, c.configs[0].F, link.Statement) {
			t.Fatalf("%s: step %d is not signed, or leads to another place than %d", c.text(), at, to)
		}
	}
	for length := range len(c.chain) + 1 {
		cut := impl.VerifyChain(c.configs, c.shares, c.chain[:length])
		if cut.Code != impl.OK || !slices.Equal(cut.Places, got.Places[:length+1]) || !impl.IsPrefix(cut.Places, got.Places) {
			t.Fatalf("%s: cut at %d it is %+v", c.text(), length, cut)
		}
		if longer := length < len(c.chain); longer && impl.IsPrefix(got.Places, cut.Places) {
			t.Fatalf("%v begins with %v", cut.Places, got.Places)
		}
	}
}

// checkOneMore asks of a right chain what extends it: each place that is signed, and no other one. It tells how many do.
func checkOneMore(t *testing.T, c chainCase) int {
	t.Helper()
	f, places, count := c.configs[0].F, impl.VerifyChain(c.configs, c.shares, c.chain).Places, 0
	epoch := c.configs[places[len(places)-1]].Epoch
	for to := int64(-1); to <= 8; to++ {
		x := next(epoch, to)
		made := impl.ExtendChain(c.configs, c.shares, c.chain, to)
		signed := int64(len(wantSigners(c.shares, x))) > 2*f && to >= 0 && to < int64(len(c.configs)) && c.configs[to].Epoch == epoch+1
		if signed != (made.Code == impl.OK) {
			t.Fatalf("ExtendChain(%s, %d) = %+v", c.text(), to, made)
		}
		more := c
		more.chain = append(slices.Clone(c.chain), made.Cert)
		if signed {
			count++
			checkRight(t, more)
			if got := impl.VerifyChain(more.configs, more.shares, more.chain).Places; !slices.Equal(got, append(slices.Clone(places), to)) {
				t.Fatalf("%s: extended to %d it leads through %v", c.text(), to, got)
			}
			continue
		}
		if !sameCerts(made, impl.CertResult{Code: made.Code}) {
			t.Fatalf("ExtendChain(%s, %d) = %+v", c.text(), to, made)
		}
		for _, signers := range [][]int64{nil, enough(f), wantSigners(c.shares, x), listOfSet(1<<(3*f+1) - 1)} {
			more.chain[len(c.chain)] = cert(x, signers...)
			if got := impl.VerifyChain(more.configs, more.shares, more.chain); got.Code == impl.OK || len(got.Places) != 0 {
				t.Fatalf("%s: extended by %+v it is %+v", c.text(), x, got)
			}
		}
	}
	return count
}

func TestRightChainsAreCutAndExtended(t *testing.T) { // P13
	d := dice(132)
	lengths, extended := map[int64]int{}, map[int64]int{}
	for range 2500 {
		c := d.rightGround()
		c.chain = d.rightChain(c)
		checkRight(t, c)
		lengths[int64(len(c.chain))]++
		extended[int64(checkOneMore(t, c))]++
	}
	checkCodes(t, "how long chains are", lengths, 0, 1, 2, 3, 4, 5)
	checkCodes(t, "by how many they are extended", extended, 0, 1, 2, 3)
}

func TestManyChains(t *testing.T) { // P13: also of those that are not right, as worked out
	d := dice(133)
	verified, extended, reached := map[int64]int{}, map[int64]int{}, map[int64]int{}
	for range 12000 {
		c := d.anyChain()
		if got, want := impl.ConfigsFault(c.configs), wantConfigsFault(c.configs); got != want {
			t.Fatalf("ConfigsFault(%+v) = %d, want %d", c.configs, got, want)
		}
		chain := wantChain(c.configs, c.shares, c.chain)
		checkChain(t, "dice", c, chain)
		verified[chain.Code]++
		made := wantExtended(c.configs, c.shares, c.chain, c.next)
		checkExtended(t, "dice", c, made)
		extended[made.Code]++
		reach := wantReach(c.configs, c.shares)
		checkReach(t, "dice", c.configs, c.shares, reach)
		reached[reach.Code]++
		if t.Failed() {
			t.FailNow()
		}
	}
	checkCodes(t, "VerifyChain", verified, impl.OK, impl.ErrForm, impl.ErrMany, impl.ErrRange, impl.ErrTaken, impl.ErrSign, impl.ErrState)
	checkCodes(t, "ExtendChain", extended, impl.OK, impl.ErrForm, impl.ErrMany, impl.ErrRange, impl.ErrTaken, impl.ErrSign, impl.ErrState)
	checkCodes(t, "ReachOf", reached, impl.OK, impl.ErrForm, impl.ErrRange, impl.ErrTaken)
}

func TestRulesFormsAndClassesTurnNoChain(t *testing.T) { // a chain asks of configurations their Epoch and F alone
	list := said(next(2, 1), next(3, 6), next(4, 5))
	shares := signedBy(enough(1), list...)
	bare := stair(1, 2, 3, 3, 4, 2, 5, 4)
	for length := range len(list) + 1 {
		for _, configs := range [][]impl.Config{bare, house()} {
			c := chainCase{configs: configs, shares: shares, chain: certsBy(enough(1), list[:length]...)}
			checkChain(t, "any rules", c, impl.ChainResult{Places: []int64{0, 1, 6, 5}[:length+1]})
		}
	}
	checkReach(t, "bare", bare, shares, impl.IntsResult{List: []int64{0, 1, 6, 5}})
	checkReach(t, "the house", house(), shares, impl.IntsResult{List: []int64{0, 1, 6, 5}})
}

// chainsToKeep has each code in some of them.
func chainsToKeep() []chainCase {
	all := []chainCase{
		{},
		{configs: house()},
		{configs: tower(), shares: signedBy(enough(2), climb(1, 7)...), chain: certsBy(enough(2), climb(1, 6)...), next: 7},
		{configs: tower(), shares: signedBy(enough(2), climb(1, 7)...), chain: certsBy(enough(2), climb(1, 7)...), next: 0},
		{configs: tower(), shares: signedBy(listOfSet(127), climb(1, 7)...), chain: certsBy(listOfSet(127), climb(1, 3)...), next: 4},
		{configs: tower(), shares: signedBy(enough(2), climb(1, 7)...), chain: make([]impl.Cert, 9), next: 1},
		{configs: house(), shares: signedBy([]int64{4, 2, 1}, next(2, 1), next(3, 6)), chain: certsBy([]int64{1, 2, 4}, next(2, 1)), next: 6},
		{configs: house(), shares: distinctShares(121), chain: certsBy([]int64{1, 2, 4}, next(2, 1)), next: 6},
		{configs: house(), shares: sharesOf(next(2, 1), 4, 2, 4), next: 1},
		{configs: append(tower(), house()...), shares: distinctShares(9), next: 1},
		{configs: append(house(), tower()[0]), shares: distinctShares(9), next: 1},
	}
	for i, k := range wrongConfigs() {
		if i%4 == 0 {
			all = append(all, chainCase{configs: []impl.Config{goodConfig(), k.config}, shares: distinctShares(9), chain: certsBy(enough(2), next(3, 1)), next: 1})
		}
	}
	all = append(all, stairCase(next(2, 1), next(3, 2)), stairCase(take(2, 1)), stairCase(next(2, 7)), stairCase(next(2, 2)), stairCase(next(8, 7)))
	d := dice(134)
	for range 250 {
		all = append(all, d.anyChain())
	}
	return all
}

func (c chainCase) copied() chainCase {
	chain := []impl.Cert{}
	for _, link := range c.chain {
		chain = append(chain, impl.Cert{Statement: link.Statement, Signers: append(slices.Clone(link.Signers), 77)[:len(link.Signers)]})
	}
	return chainCase{
		configs: copyConfigs(c.configs), shares: append(slices.Clone(c.shares), share(77, impl.Statement{Kind: 77}))[:len(c.shares)],
		chain: append(chain, cert(impl.Statement{Kind: 77}, 77, 78))[:len(chain)], next: c.next,
	}
}

// whole tells all that is in the memory of what is handed in, also behind the ends of lists.
func (c chainCase) whole() string {
	text := wholeConfigs(c.configs) + fmt.Sprint(len(c.shares), c.shares[:cap(c.shares)], len(c.chain), c.next)
	for _, link := range c.chain[:cap(c.chain)] {
		text += fmt.Sprint(link.Statement, len(link.Signers), link.Signers[:cap(link.Signers)])
	}
	return text
}

func (c chainCase) spoil() {
	for _, link := range c.chain {
		spoil(link.Signers, -7)
	}
	spoil(c.chain, impl.Cert{})
	spoil(c.shares, share(-7, impl.Statement{}))
	replicaCase{configs: c.configs}.spoil()
}

type chainAnswers struct {
	fault    int64
	verified impl.ChainResult
	extended impl.CertResult
	reach    impl.IntsResult
	begins   [2]bool
}

func (c chainCase) answers() chainAnswers {
	a := chainAnswers{
		fault: impl.ConfigsFault(c.configs), verified: impl.VerifyChain(c.configs, c.shares, c.chain),
		extended: impl.ExtendChain(c.configs, c.shares, c.chain, c.next), reach: impl.ReachOf(c.configs, c.shares),
	}
	a.begins = [2]bool{impl.IsPrefix(a.verified.Places, a.reach.List), impl.IsPrefix(a.reach.List, a.verified.Places)}
	return a
}

func (a chainAnswers) spoil() {
	spoil(a.verified.Places, -8)
	spoil(a.extended.Cert.Signers, -8)
	spoil(a.reach.List, -8)
}

func TestChainsToKeepHaveEachCode(t *testing.T) {
	faults, verified, extended, reached := map[int64]int{}, map[int64]int{}, map[int64]int{}, map[int64]int{}
	for _, c := range chainsToKeep() {
		a := c.answers()
		faults[a.fault]++
		verified[a.verified.Code]++
		extended[a.extended.Code]++
		reached[a.reach.Code]++
	}
	for _, code := range []int64{impl.OK, impl.ErrForm, impl.ErrMany, impl.ErrRange, impl.ErrTaken} {
		if faults[code] == 0 || verified[code] == 0 || extended[code] == 0 || reached[code] == 0 {
			t.Errorf("code %d is told by %d, %d, %d and %d", code, faults[code], verified[code], extended[code], reached[code])
		}
	}
	for _, code := range []int64{impl.ErrSign, impl.ErrState} {
		if verified[code] == 0 || extended[code] == 0 {
			t.Errorf("code %d is told by %d and %d", code, verified[code], extended[code])
		}
	}
}

func TestChainsHandedInAreUnchanged(t *testing.T) { // P1
	for _, c := range chainsToKeep() {
		given := c.copied()
		before := given.whole()
		given.answers()
		if behind := given.whole(); behind != before {
			t.Errorf("%.600s was changed to %.600s", before, behind)
		}
	}
	a, b := []int64{0, 1, 2, 77}, []int64{0, 1, 2, 3, 78}
	impl.IsPrefix(a[:3], b[:4])
	impl.IsPrefix(b[:4], a[:3])
	if !slices.Equal(a, []int64{0, 1, 2, 77}) || !slices.Equal(b, []int64{0, 1, 2, 3, 78}) {
		t.Error("lists were changed", a, b)
	}
}

func TestSameChainsSameAnswers(t *testing.T) { // P1: nothing is kept from call to call
	var first []string
	for _, c := range chainsToKeep() {
		first = append(first, fmt.Sprint(c.answers()))
	}
	for i, c := range slices.Backward(chainsToKeep()) {
		for range 2 {
			if again := fmt.Sprint(c.copied().answers()); again != first[i] {
				t.Fatalf("%s: first %.400s, then %.400s", c.text(), first[i], again)
			}
		}
	}
}

func TestChainsShareNoMemory(t *testing.T) { // P1
	for _, c := range chainsToKeep() {
		want := fmt.Sprint(c.answers())
		given := c.copied()
		one, two := given.answers(), given.answers()
		one.spoil()
		if fmt.Sprint(two) != want || fmt.Sprint(given.answers()) != want {
			t.Fatalf("two answers of %s share memory, or an answer and what was handed in", c.text())
		}
		given.spoil()
		if fmt.Sprint(two) != want {
			t.Fatalf("what was answered for %s changes with what was handed in", c.text())
		}
	}
}

func TestNoChainAndNilAreTheSame(t *testing.T) { // P1
	for _, configs := range [][]impl.Config{nil, house(), tower(), stair(1, 0)} {
		for to := int64(-1); to <= 2; to++ {
			none := chainCase{configs: configs, next: to}
			empty := chainCase{configs: append([]impl.Config{}, configs...), shares: []impl.Share{}, chain: []impl.Cert{}, next: to}
			if a, b := fmt.Sprint(none.answers()), fmt.Sprint(empty.answers()); a != b {
				t.Errorf("%s and %s", a, b)
			}
		}
	}
	c := chainCase{configs: house(), shares: signedBy(enough(1), next(2, 1)), chain: []impl.Cert{{Statement: next(2, 1)}}}
	checkCode(t, "no signers", c, impl.ErrSign)
	c.chain[0].Signers = []int64{}
	checkCode(t, "empty signers", c, impl.ErrSign)
}

func TestAnswersOfChainsBesideACodeAreZero(t *testing.T) { // P1
	for _, c := range chainsToKeep() {
		a := c.answers()
		if a.verified.Code != impl.OK && len(a.verified.Places) != 0 {
			t.Errorf("%s: %+v", c.text(), a.verified)
		}
		if a.extended.Code != impl.OK && !sameCerts(a.extended, impl.CertResult{Code: a.extended.Code}) {
			t.Errorf("%s: %+v", c.text(), a.extended)
		}
		if a.reach.Code != impl.OK && len(a.reach.List) != 0 {
			t.Errorf("%s: %+v", c.text(), a.reach)
		}
	}
}
