package tests

import (
	"fmt"
	"math"
	"slices"
	"testing"

	"loop.example/g00338/impl"
)

// noMembers are out of bounds with either F.
var noMembers = noIds

var noCastNumbers = []int64{math.MinInt64, math.MinInt64 + 1, -3, -1, 4, 5, 1<<32 + 1, 1 << 62, math.MaxInt64 - 1, math.MaxInt64}

func msg(from int64, to int64, kind int64, value int64) impl.Msg {
	return impl.Msg{From: from, To: to, Kind: kind, Value: value}
}

// toAll is what one sends to all members.
func toAll(f int64, from int64, kind int64, value int64) []impl.Msg {
	var all []impl.Msg
	for to := int64(1); to <= 3*f+1; to++ {
		all = append(all, msg(from, to, kind, value))
	}
	return all
}

// fromEach is what some send to one.
func fromEach(from []int64, to int64, kind int64, value int64) []impl.Msg {
	var all []impl.Msg
	for _, id := range from {
		all = append(all, msg(id, to, kind, value))
	}
	return all
}

// quiet is a broadcast in which nobody sent or heard anything.
func quiet(f int64, sender int64, bad ...int64) impl.Cast {
	return impl.Cast{F: f, Sender: sender, Bad: bad, Nodes: make([]impl.Node, 3*f+1)}
}

// copyCast leaves room behind the ends of the lists, so that who writes there is seen.
func copyCast(c impl.Cast) impl.Cast {
	c.Bad = append(slices.Clone(c.Bad), 77)[:len(c.Bad)]
	c.Msgs = append(slices.Clone(c.Msgs), msg(77, 0, 0, 0))[:len(c.Msgs)]
	c.Nodes = append(slices.Clone(c.Nodes), impl.Node{Told: 77})[:len(c.Nodes)]
	for place, n := range c.Nodes {
		c.Nodes[place].Heard = append(slices.Clone(n.Heard), msg(77, 0, 0, 0))[:len(n.Heard)]
	}
	return c
}

// underWay puts messages that nobody heard behind those of c.
func underWay(c impl.Cast, msgs ...impl.Msg) impl.Cast {
	c = copyCast(c)
	c.Msgs = slices.Concat(c.Msgs, msgs)
	return c
}

// afterHearing puts messages behind those of c that were heard, and to which no node said anything.
func afterHearing(c impl.Cast, msgs ...impl.Msg) impl.Cast {
	c = underWay(c, msgs...)
	for _, m := range msgs {
		n := &c.Nodes[m.To-1]
		n.Heard = slices.Concat(n.Heard, []impl.Msg{m})
	}
	return c
}

func withNode(c impl.Cast, id int64, echo int64, ready int64, told int64) impl.Cast {
	c = copyCast(c)
	n := &c.Nodes[id-1]
	n.Echo, n.Ready, n.Told = echo, ready, told
	return c
}

// fillers are messages from and to members 2 to 7: member 1 sends and hears none of them.
func fillers(count int) []impl.Msg {
	var all []impl.Msg
	for i := range int64(count) {
		all = append(all, msg(i%6+2, i/6%6+2, i/36%3+1, i/108+1))
	}
	return all
}

// muteMsgs change no node but for what it heard, where 1 is the Sender, 6 and 7 are bad, and the others send nothing but
// value 1: a CastInit of others than the Sender, what the bad hear, and too few Echoes of other values.
func muteMsgs(count int) []impl.Msg {
	var all []impl.Msg
	for from := int64(2); from <= 7; from++ {
		for value := int64(1); value <= 3; value++ {
			all = append(all, toAll(2, from, impl.CastInit, value)...)
		}
	}
	for from := int64(1); from <= 7; from++ {
		for value := int64(2); value <= 3; value++ {
			all = append(all, msg(from, 6, impl.CastEcho, value), msg(from, 7, impl.CastEcho, value), msg(from, 6, impl.CastReady, value), msg(from, 7, impl.CastReady, value))
		}
	}
	for to := int64(1); to <= 5; to++ {
		all = append(all, msg(6, to, impl.CastEcho, 2), msg(6, to, impl.CastEcho, 3), msg(7, to, impl.CastEcho, 2), msg(7, to, impl.CastEcho, 3))
	}
	return all[:count]
}

func sameNodes(a impl.Node, b impl.Node) bool {
	return a.Echo == b.Echo && a.Ready == b.Ready && a.Told == b.Told && slices.Equal(a.Heard, b.Heard)
}

func sameCasts(a impl.CastResult, b impl.CastResult) bool {
	return a.Code == b.Code && a.Cast.F == b.Cast.F && a.Cast.Sender == b.Cast.Sender && slices.Equal(a.Cast.Bad, b.Cast.Bad) &&
		slices.EqualFunc(a.Cast.Nodes, b.Cast.Nodes, sameNodes) && slices.Equal(a.Cast.Msgs, b.Cast.Msgs)
}

func wantCastFault(c impl.Cast) int64 {
	if c.F != 1 && c.F != 2 {
		return impl.ErrRange
	}
	members := 3*c.F + 1
	for _, id := range append([]int64{c.Sender}, c.Bad...) {
		if id < 1 || id > members {
			return impl.ErrRange
		}
	}
	if len(c.Bad) > int(c.F) || len(c.Msgs) > 200 {
		return impl.ErrMany
	}
	if !slices.Equal(slices.Compact(slices.Sorted(slices.Values(c.Bad))), c.Bad) || len(c.Nodes) != int(members) {
		return impl.ErrForm
	}
	there := map[impl.Msg]bool{}
	for _, m := range c.Msgs {
		if min(m.From, m.To, m.Kind, m.Value) < 1 || max(m.From, m.To) > members || max(m.Kind, m.Value) > 3 {
			return impl.ErrRange
		}
		if there[m] {
			return impl.ErrTaken
		}
		there[m] = true
	}
	for place, n := range c.Nodes {
		if code := wantNodeFault(n, int64(place)+1, there); code != impl.OK {
			return code
		}
	}
	return impl.OK
}

func wantNodeFault(n impl.Node, id int64, there map[impl.Msg]bool) int64 {
	if min(n.Echo, n.Ready, n.Told) < 0 || max(n.Echo, n.Ready, n.Told) > 3 {
		return impl.ErrRange
	}
	heard := map[impl.Msg]bool{}
	for _, m := range n.Heard {
		if !there[m] || m.To != id {
			return impl.ErrNone
		}
		heard[m] = true
	}
	if len(heard) < len(n.Heard) {
		return impl.ErrTaken
	}
	return impl.OK
}

func wantNewCast(f int64, sender int64, bad []int64, value int64) impl.CastResult {
	if f < 1 || f > 2 || value < 1 || value > 3 {
		return impl.CastResult{Code: impl.ErrRange}
	}
	c := quiet(f, sender, bad...)
	if code := wantCastFault(c); code != impl.OK {
		return impl.CastResult{Code: code}
	}
	if !slices.Contains(bad, sender) {
		c.Msgs = toAll(f, sender, impl.CastInit, value)
	}
	return impl.CastResult{Cast: c}
}

func wantSaid(c impl.Cast, m impl.Msg) impl.CastResult {
	if code := wantCastFault(c); code != impl.OK {
		return impl.CastResult{Code: code}
	}
	c = copyCast(c)
	there := slices.Contains(c.Msgs, m)
	switch {
	case min(m.From, m.To, m.Kind, m.Value) < 1 || max(m.From, m.To) > 3*c.F+1 || max(m.Kind, m.Value) > 3:
		return impl.CastResult{Code: impl.ErrRange}
	case !slices.Contains(c.Bad, m.From):
		return impl.CastResult{Code: impl.ErrSign}
	case !there && len(c.Msgs) == 200:
		return impl.CastResult{Code: impl.ErrMany}
	case !there:
		c.Msgs = append(c.Msgs, m)
	}
	return impl.CastResult{Cast: c}
}

// hearAt is asked where c has no fault and at is one of its places. Who sent what stands in sets of members.
func hearAt(c impl.Cast, at int64) impl.CastResult {
	m := c.Msgs[at]
	n := c.Nodes[m.To-1]
	if slices.Contains(n.Heard, m) {
		return impl.CastResult{Code: impl.ErrTaken}
	}
	c = copyCast(c)
	n.Heard = slices.Concat(n.Heard, []impl.Msg{m})
	if slices.Contains(c.Bad, m.To) {
		c.Nodes[m.To-1] = n
		return impl.CastResult{Cast: c}
	}
	who := map[[2]int64]map[int64]bool{}
	for _, h := range n.Heard {
		what := [2]int64{h.Kind, h.Value}
		if who[what] == nil {
			who[what] = map[int64]bool{}
		}
		who[what][h.From] = true
	}
	var sent []impl.Msg
	if m.From == c.Sender && m.Kind == impl.CastInit && n.Echo == 0 {
		n.Echo = m.Value
		sent = toAll(c.F, m.To, impl.CastEcho, n.Echo)
	}
	for value := int64(1); value <= 3; value++ {
		echoes, readies := len(who[[2]int64{impl.CastEcho, value}]), len(who[[2]int64{impl.CastReady, value}])
		if n.Ready == 0 && (echoes > 2*int(c.F) || readies > int(c.F)) {
			n.Ready = value
			sent = append(sent, toAll(c.F, m.To, impl.CastReady, value)...)
		}
		if n.Told == 0 && readies > 2*int(c.F) {
			n.Told = value
		}
	}
	c.Nodes[m.To-1] = n
	for _, s := range sent {
		if !slices.Contains(c.Msgs, s) {
			c.Msgs = append(c.Msgs, s)
		}
	}
	if len(c.Msgs) > 200 {
		return impl.CastResult{Code: impl.ErrMany}
	}
	return impl.CastResult{Cast: c}
}

func wantHeard(c impl.Cast, at int64) impl.CastResult {
	if code := wantCastFault(c); code != impl.OK {
		return impl.CastResult{Code: code}
	}
	if at < 0 || at >= int64(len(c.Msgs)) {
		return impl.CastResult{Code: impl.ErrRange}
	}
	return hearAt(c, at)
}

// firstUnheard tells -1 where all is heard.
func firstUnheard(c impl.Cast) int64 {
	return int64(slices.IndexFunc(c.Msgs, func(m impl.Msg) bool {
		return !slices.Contains(c.Nodes[m.To-1].Heard, m)
	}))
}

// wantDrained looks for the first message of all that was not heard, over and over.
func wantDrained(c impl.Cast) impl.CastResult {
	if code := wantCastFault(c); code != impl.OK {
		return impl.CastResult{Code: code}
	}
	for at := firstUnheard(c); at >= 0; at = firstUnheard(c) {
		heard := hearAt(c, at)
		if heard.Code != impl.OK {
			return heard
		}
		c = heard.Cast
	}
	return impl.CastResult{Cast: c}
}

// toldByGood are the values that those who are not bad told, as a set: 0 stands for none.
func toldByGood(c impl.Cast) map[int64]bool {
	values := map[int64]bool{}
	for place, n := range c.Nodes {
		if !slices.Contains(c.Bad, int64(place)+1) {
			values[n.Told] = true
		}
	}
	return values
}

func wantAgree(c impl.Cast) bool {
	if wantCastFault(c) != impl.OK {
		return false
	}
	values := toldByGood(c)
	delete(values, 0)
	return len(values) <= 1
}

func textOfCast(c impl.CastResult) string {
	return fmt.Sprintf("%.300s", fmt.Sprintf("%+v", c))
}

func checkSaid(t *testing.T, name string, c impl.Cast, m impl.Msg, want impl.CastResult) {
	t.Helper()
	if got := impl.SayBad(c, m); !sameCasts(got, want) {
		t.Errorf("%s: SayBad(%.300s, %+v) = %s, want %s", name, fmt.Sprint(c), m, textOfCast(got), textOfCast(want))
	}
}

func checkHeard(t *testing.T, name string, c impl.Cast, at int64, want impl.CastResult) {
	t.Helper()
	if got := impl.HearMsg(c, at); !sameCasts(got, want) {
		t.Errorf("%s: HearMsg(%.300s, %d) = %s, want %s", name, fmt.Sprint(c), at, textOfCast(got), textOfCast(want))
	}
}

func checkDrained(t *testing.T, name string, c impl.Cast, want impl.CastResult) {
	t.Helper()
	if got := impl.DrainCast(c); !sameCasts(got, want) {
		t.Errorf("%s: DrainCast(%.300s) = %s, want %s", name, fmt.Sprint(c), textOfCast(got), textOfCast(want))
	}
}

func checkTold(t *testing.T, name string, c impl.Cast, id int64, want impl.IntResult) {
	t.Helper()
	if got := impl.ToldOf(c, id); got != want {
		t.Errorf("%s: ToldOf(%.300s, %d) = %+v, want %+v", name, fmt.Sprint(c), id, got, want)
	}
}

// checkCast asks all that lean on the CastFault, also by what has codes of its own behind it.
func checkCast(t *testing.T, name string, c impl.Cast, want int64) {
	t.Helper()
	if got := impl.CastFault(c); got != want {
		t.Errorf("%s: CastFault(%.300s) = %d, want %d", name, fmt.Sprint(c), got, want)
	}
	if want == impl.OK {
		return
	}
	none := impl.CastResult{Code: want}
	for _, m := range []impl.Msg{msg(1, 1, 1, 1), msg(4, 2, 2, 3), msg(7, 7, 3, 3), msg(2, 1, 2, 1), {}, msg(8, 1, 1, 1), msg(1, 1, 4, 1)} {
		checkSaid(t, name, c, m, none)
	}
	for _, at := range []int64{-1, 0, 1, int64(len(c.Msgs)) - 1, int64(len(c.Msgs)), math.MaxInt64} {
		checkHeard(t, name, c, at, none)
	}
	for _, id := range []int64{math.MinInt64, 0, 1, 4, 7, 8} {
		checkTold(t, name, c, id, impl.IntResult{Code: want})
	}
	checkDrained(t, name, c, none)
	if impl.AgreeRight(c) {
		t.Errorf("%s: AgreeRight(%.300s)", name, fmt.Sprint(c))
	}
}

func TestCastConstants(t *testing.T) {
	if got := []int64{impl.CastInit, impl.CastEcho, impl.CastReady, impl.MaxCasts}; !slices.Equal(got, []int64{1, 2, 3, 200}) {
		t.Error(got)
	}
}

// busy is a broadcast without a fault in which several have sent, heard and told.
func busy(f int64) impl.Cast {
	c := quiet(f, 2, 4)
	c = afterHearing(c, msg(2, 1, 1, 3), msg(4, 1, 2, 1), msg(1, 3, 2, 3), msg(4, 4, 1, 1), msg(3, 1, 3, 2))
	c = underWay(c, msg(2, 2, 1, 3), msg(4, 2, 2, 2), msg(1, 1, 2, 3))
	return withNode(withNode(withNode(c, 1, 3, 0, 0), 3, 1, 2, 3), 4, 3, 3, 1)
}

func TestCastsOfNoBadCount(t *testing.T) { // the code of NeedOf is ahead of all others
	casts := []impl.Cast{{}, {Sender: 1}, busy(1), busy(2), quiet(1, 9, 9), quiet(2, 1, 3, 2, 1), underWay(quiet(2, 1), fillers(201)...), underWay(busy(1), impl.Msg{}, impl.Msg{})}
	for _, c := range casts {
		for _, f := range noBadCounts {
			c.F = f
			checkCast(t, "F", c, impl.ErrRange)
		}
	}
}

func TestSenderAndBadAtTheirBounds(t *testing.T) {
	for f := int64(1); f <= 2; f++ {
		wantOf := func(id int64) int64 {
			if id < 1 || id > 3*f+1 {
				return impl.ErrRange
			}
			return impl.OK
		}
		for id := int64(-2); id <= 10; id++ {
			checkCast(t, "Sender", quiet(f, id), wantOf(id))
			checkCast(t, "Sender who is bad", quiet(f, id, id), wantOf(id))
			checkCast(t, "one of Bad", quiet(f, 1, id), wantOf(id))
			if f == 2 && id > 2 {
				checkCast(t, "the last one of Bad", quiet(f, 1, 2, id), wantOf(id))
			}
			if wantOf(id) != impl.OK {
				checkCast(t, "the first one of Bad", quiet(f, 1, id, 2), impl.ErrRange)
				checkCast(t, "one among many", quiet(f, 1, 1, 2, 3, id, 4, 5), impl.ErrRange)
			}
		}
		for _, id := range noMembers {
			checkCast(t, "Sender", quiet(f, id), impl.ErrRange)
			checkCast(t, "one of Bad", quiet(f, 1, id), impl.ErrRange)
			checkCast(t, "one among many", quiet(f, 1, append(repeated(1, 1000), id)...), impl.ErrRange)
		}
	}
}

func TestHowManyAreBad(t *testing.T) {
	for f := int64(1); f <= 2; f++ {
		for _, bad := range groupsOf(3*f + 1) {
			want := int64(impl.OK)
			if len(bad) > int(f) {
				want = impl.ErrMany
			}
			for sender := int64(1); sender <= 3*f+1; sender++ {
				checkCast(t, "bad", quiet(f, sender, bad...), want)
			}
		}
		checkCast(t, "nil", quiet(f, 1), impl.OK)
		checkCast(t, "empty", quiet(f, 1, []int64{}...), impl.OK)
		checkCast(t, "one too many, and they do not rise", quiet(f, 1, repeated(2, int(f)+1)...), impl.ErrMany)
		checkCast(t, "very many", quiet(f, 1, repeated(2, 100000)...), impl.ErrMany)
	}
}

func TestBadThatDoNotRise(t *testing.T) {
	for one := int64(1); one <= 7; one++ {
		for two := int64(1); two <= 7; two++ {
			want := int64(impl.OK)
			if one >= two {
				want = impl.ErrForm
			}
			checkCast(t, "two", quiet(2, 1, one, two), want)
		}
	}
}

func TestHowManyMsgs(t *testing.T) {
	for _, count := range []int{0, 1, 2, 144, 199, 200, 201, 202, 300} {
		want := int64(impl.OK)
		if count > 200 {
			want = impl.ErrMany
		}
		checkCast(t, fmt.Sprint(count), underWay(quiet(2, 1), fillers(count)...), want)
		if count > 200 {
			for f := int64(1); f <= 2; f++ {
				checkCast(t, "all of them wrong", underWay(quiet(f, 1), make([]impl.Msg, count)...), impl.ErrMany)
				checkCast(t, "all the same", underWay(quiet(f, 1), slices.Repeat(fillers(1), count)...), impl.ErrMany)
			}
		}
	}
	checkCast(t, "100000", underWay(quiet(2, 1), make([]impl.Msg, 100000)...), impl.ErrMany)
	checkCast(t, "200, the last one wrong", underWay(quiet(2, 1), append(fillers(199), msg(8, 1, 1, 1))...), impl.ErrRange)
	checkCast(t, "200, the last one is the first one", underWay(quiet(2, 1), append(fillers(199), fillers(1)...)...), impl.ErrTaken)
	var all []impl.Msg // with F 1 there are no more
	for from := int64(1); from <= 4; from++ {
		for kind := int64(1); kind <= 3; kind++ {
			for value := int64(1); value <= 3; value++ {
				all = append(all, toAll(1, from, kind, value)...)
			}
		}
	}
	checkCast(t, "all that there are", underWay(quiet(1, 1), all...), impl.OK)
	checkCast(t, "all heard", afterHearing(quiet(1, 1), all...), impl.OK)
	checkCast(t, "200 heard", afterHearing(quiet(2, 1), fillers(200)...), impl.OK)
}

func TestHowManyNodes(t *testing.T) {
	for f := int64(1); f <= 2; f++ {
		for count := range 12 {
			c := quiet(f, 1, 2)
			c.Nodes = make([]impl.Node, count)
			want := int64(impl.ErrForm)
			if count == int(3*f+1) {
				want = impl.OK
			}
			checkCast(t, fmt.Sprint(count), c, want)
			if want != impl.OK {
				spoil(c.Nodes, impl.Node{Told: 4})
				checkCast(t, "wrong nodes", c, want)
				checkCast(t, "a wrong message", underWay(c, impl.Msg{}), want)
			}
		}
		c := quiet(f, 1)
		c.Nodes = nil
		checkCast(t, "nil", c, impl.ErrForm)
		c.Nodes = make([]impl.Node, 100000)
		checkCast(t, "very many", c, impl.ErrForm)
	}
}

func numbersOfMsg(m *impl.Msg) []*int64 {
	return []*int64{&m.From, &m.To, &m.Kind, &m.Value}
}

// wrongMsgs have one number out of its bounds each, by F.
func wrongMsgs(f int64) []impl.Msg {
	var all []impl.Msg
	for place := range 4 {
		least := int64(4)
		if place < 2 {
			least = 3*f + 2
		}
		for _, number := range []int64{0, -1, least, least + 1, math.MinInt64, math.MaxInt64, 1<<32 + 1} {
			m := msg(3, 2, 1, 2)
			*numbersOfMsg(&m)[place] = number
			all = append(all, m)
		}
	}
	return append(all, impl.Msg{}, msg(-1, -1, -1, -1))
}

func TestMsgsAtTheirBounds(t *testing.T) {
	for f := int64(1); f <= 2; f++ {
		for from := int64(0); from <= 9; from++ {
			for to := int64(0); to <= 9; to++ {
				for kind := int64(-1); kind <= 5; kind++ {
					for value := int64(-1); value <= 5; value++ {
						c := underWay(quiet(f, 1), msg(from, to, kind, value))
						if got, want := impl.CastFault(c), wantCastFault(c); got != want {
							t.Fatalf("CastFault(%+v) = %d, want %d", c, got, want)
						}
					}
				}
			}
		}
		for _, wrong := range wrongMsgs(f) {
			c := busy(f)
			for place := range len(c.Msgs) + 1 {
				c.Msgs = slices.Insert(busy(f).Msgs, place, wrong)
				checkCast(t, fmt.Sprint("at ", place), c, impl.ErrRange)
			}
			checkCast(t, "there twice", underWay(quiet(f, 1), wrong, wrong), impl.ErrRange)
		}
	}
}

func TestMsgsThatAreThereTwice(t *testing.T) {
	for f := int64(1); f <= 2; f++ {
		c := busy(f)
		msgs := slices.Clone(c.Msgs)
		for place, twice := range msgs {
			for behind := place + 1; behind <= len(msgs); behind++ {
				c.Msgs = slices.Insert(slices.Clone(msgs), behind, twice)
				checkCast(t, fmt.Sprint(place, " again at ", behind), c, impl.ErrTaken)
			}
			for number := range 4 {
				other := twice
				*numbersOfMsg(&other)[number] = *numbersOfMsg(&other)[number]%3 + 1
				checkCast(t, "another one", underWay(quiet(f, 1), twice, other), impl.OK)
			}
		}
	}
}

func TestMsgsInTheirOrder(t *testing.T) { // msg by msg: what stands ahead is told
	flaws := map[impl.Msg]int64{msg(0, 1, 1, 1): impl.ErrRange, msg(1, 1, 4, 1): impl.ErrRange, fillers(1)[0]: impl.ErrTaken}
	for one, code := range flaws {
		for two := range flaws {
			for place := 1; place < 6; place++ {
				for behind := place + 1; behind < 7; behind++ {
					msgs := slices.Insert(slices.Insert(fillers(6), place, one), behind, two)
					checkCast(t, fmt.Sprint(place, " and ", behind), underWay(quiet(2, 1), msgs...), code)
				}
			}
		}
	}
}

func TestNumbersOfNodesAtTheirBounds(t *testing.T) {
	for f := int64(1); f <= 2; f++ {
		for id := int64(1); id <= 3*f+1; id++ {
			for number := int64(-2); number <= 6; number++ {
				want := int64(impl.ErrRange)
				if number >= 0 && number <= 3 {
					want = impl.OK
				}
				checkCast(t, "Echo", withNode(quiet(f, 1, 3), id, number, 0, 1), want)
				checkCast(t, "Ready", withNode(quiet(f, 1, 3), id, 1, number, 0), want)
				checkCast(t, "Told", withNode(quiet(f, 1, 3), id, 0, 1, number), want)
			}
			for _, number := range noCastNumbers {
				checkCast(t, "Echo", withNode(quiet(f, 1, 3), id, number, 0, 1), impl.ErrRange)
				checkCast(t, "Ready", withNode(quiet(f, 1, 3), id, 1, number, 0), impl.ErrRange)
				checkCast(t, "Told", withNode(quiet(f, 1, 3), id, 0, 1, number), impl.ErrRange)
			}
		}
	}
}

// alsoHeard lets a node have heard what may not be there, not be to it, or be heard already.
func alsoHeard(c impl.Cast, id int64, place int, m impl.Msg) impl.Cast {
	c = copyCast(c)
	n := &c.Nodes[id-1]
	n.Heard = slices.Insert(slices.Clone(n.Heard), place, m)
	return c
}

func TestWhatNodesHeard(t *testing.T) {
	for f := int64(1); f <= 2; f++ {
		for id := int64(1); id <= 3*f+1; id++ { // those who are bad are asked as well
			c := quiet(f, 1, 3)
			to := msg(2, id, 2, 1)
			other := msg(2, id%4+1, 2, 1)
			checkCast(t, "not there", alsoHeard(c, id, 0, to), impl.ErrNone)
			checkCast(t, "there", alsoHeard(underWay(c, to), id, 0, to), impl.OK)
			checkCast(t, "to another one", alsoHeard(underWay(c, other), id, 0, other), impl.ErrNone)
			checkCast(t, "to another one who heard it", alsoHeard(afterHearing(c, other), id, 0, other), impl.ErrNone)
			checkCast(t, "twice", alsoHeard(afterHearing(c, to), id, 1, to), impl.ErrTaken)
			checkCast(t, "no message", alsoHeard(afterHearing(c, to), id, 1, impl.Msg{}), impl.ErrNone)
			for number := range 4 {
				away := to
				*numbersOfMsg(&away)[number] = *numbersOfMsg(&away)[number]%3 + 1
				checkCast(t, "one number away", alsoHeard(underWay(c, to), id, 0, away), impl.ErrNone)
			}
			more := afterHearing(c, msg(1, id, 1, 1), to, msg(3, id, 3, 3))
			for place := range 4 {
				checkCast(t, "not there", alsoHeard(more, id, place, msg(4, id, 1, 1)), impl.ErrNone)
				checkCast(t, "to another one", alsoHeard(underWay(more, other), id, place, other), impl.ErrNone)
				for _, m := range more.Msgs {
					checkCast(t, "twice", alsoHeard(more, id, place, m), impl.ErrTaken)
				}
			}
			turned := copyCast(more)
			slices.Reverse(turned.Nodes[id-1].Heard)
			checkCast(t, "in another order", turned, impl.OK)
		}
	}
}

func TestVeryLongHeard(t *testing.T) {
	c := underWay(quiet(2, 1), fillers(200)...)
	heard := slices.Repeat([]impl.Msg{msg(2, 2, 1, 1)}, 50000)
	c.Nodes[1].Heard = heard
	checkCast(t, "the same", c, impl.ErrTaken)
	c.Nodes[1].Heard = append(heard, msg(1, 2, 1, 1))
	checkCast(t, "the last one is not there", c, impl.ErrNone)
}

func TestNodesInTheirOrder(t *testing.T) { // node by node, and of one node the codes in their order
	base := func() impl.Cast { // each heard two
		c := quiet(2, 1, 3)
		for id := int64(1); id <= 7; id++ {
			c = afterHearing(c, msg(2, id, 2, 1), msg(5, id, 3, 2))
		}
		return c
	}
	flaws := []struct {
		code int64
		put  func(c impl.Cast, id int64) impl.Cast
	}{
		{impl.ErrRange, func(c impl.Cast, id int64) impl.Cast {
			c.Nodes[id-1].Ready = 4
			return c
		}},
		{impl.ErrNone, func(c impl.Cast, id int64) impl.Cast { return alsoHeard(c, id, 2, msg(7, id, 1, 1)) }},
		{impl.ErrNone, func(c impl.Cast, id int64) impl.Cast { return alsoHeard(c, id, 2, msg(2, id%7+1, 2, 1)) }},
		{impl.ErrTaken, func(c impl.Cast, id int64) impl.Cast { return alsoHeard(c, id, 1, msg(2, id, 2, 1)) }},
	}
	for one, ahead := range flaws {
		for two, behind := range flaws {
			for id := int64(1); id <= 7; id++ {
				for later := id + 1; later <= 7; later++ {
					checkCast(t, fmt.Sprint("nodes ", id, " and ", later), behind.put(ahead.put(base(), id), later), ahead.code)
				}
				checkCast(t, "one node", behind.put(ahead.put(base(), id), id), flaws[min(one, two)].code)
			}
		}
	}
}

// castFlaws are in the order in which they are asked: of any two in one broadcast the first one is told.
func castFlaws() []struct {
	code int64
	put  func(c *impl.Cast)
} {
	return []struct {
		code int64
		put  func(c *impl.Cast)
	}{
		{impl.ErrRange, func(c *impl.Cast) { c.Sender = 8 }},
		{impl.ErrRange, func(c *impl.Cast) { c.Bad = append([]int64{0}, c.Bad...) }},
		{impl.ErrMany, func(c *impl.Cast) { c.Bad = append([]int64{7, 5}, c.Bad...) }},
		{impl.ErrMany, func(c *impl.Cast) { c.Msgs = append(slices.Clone(c.Msgs), make([]impl.Msg, 201)...) }},
		{impl.ErrForm, func(c *impl.Cast) { c.Bad = append(slices.Clone(c.Bad), 1) }},
		{impl.ErrForm, func(c *impl.Cast) { c.Nodes = append(slices.Clone(c.Nodes), impl.Node{}) }},
		{impl.ErrRange, func(c *impl.Cast) { c.Msgs = append([]impl.Msg{msg(1, 1, 0, 1)}, c.Msgs...) }},
		{impl.ErrTaken, func(c *impl.Cast) { c.Msgs = append(slices.Clone(c.Msgs), c.Msgs[0]) }},
		{impl.ErrRange, func(c *impl.Cast) { c.Nodes[0].Told = 4 }},
		{impl.ErrNone, func(c *impl.Cast) { c.Nodes[1].Heard = []impl.Msg{msg(5, 2, 1, 1)} }},
		{impl.ErrTaken, func(c *impl.Cast) { c.Nodes[2].Heard = slices.Repeat(c.Nodes[2].Heard, 2) }},
	}
}

func TestCodesOfACastInTheirOrder(t *testing.T) {
	flaws := castFlaws()
	for one := range flaws {
		c := busy(2)
		flaws[one].put(&c)
		checkCast(t, fmt.Sprint(one), c, flaws[one].code)
		for two := range flaws {
			for _, order := range [][2]int{{one, two}, {two, one}} {
				c := busy(2)
				flaws[order[0]].put(&c)
				if order[0] != order[1] {
					flaws[order[1]].put(&c)
				}
				checkCast(t, fmt.Sprint(one, " and ", two), c, flaws[min(one, two)].code)
			}
		}
	}
	for _, f := range noBadCounts {
		for _, flaw := range flaws {
			c := busy(2)
			flaw.put(&c)
			c.F = f
			checkCast(t, "F", c, impl.ErrRange)
		}
	}
}

func checkNewCast(t *testing.T, name string, f int64, sender int64, bad []int64, value int64, want impl.CastResult) {
	t.Helper()
	got := impl.NewCast(f, sender, bad, value)
	if !sameCasts(got, want) {
		t.Errorf("%s: NewCast(%d, %d, %.200s, %d) = %s, want %s", name, f, sender, fmt.Sprint(bad), value, textOfCast(got), textOfCast(want))
	}
	if got.Code == impl.OK && (impl.CastFault(got.Cast) != impl.OK || !impl.AgreeRight(got.Cast)) {
		t.Errorf("%s: NewCast(%d, %d, %v, %d) has a fault", name, f, sender, bad, value)
	}
}

func TestNewCastByHand(t *testing.T) {
	four, seven := make([]impl.Node, 4), make([]impl.Node, 7)
	inits := []impl.Msg{{From: 2, To: 1, Kind: 1, Value: 3}, {From: 2, To: 2, Kind: 1, Value: 3}, {From: 2, To: 3, Kind: 1, Value: 3}, {From: 2, To: 4, Kind: 1, Value: 3}}
	checkNewCast(t, "no bad", 1, 2, nil, 3, impl.CastResult{Cast: impl.Cast{F: 1, Sender: 2, Nodes: four, Msgs: inits}})
	checkNewCast(t, "another one is bad", 1, 2, []int64{4}, 3, impl.CastResult{Cast: impl.Cast{F: 1, Sender: 2, Bad: []int64{4}, Nodes: four, Msgs: inits}})
	checkNewCast(t, "the sender is bad", 1, 2, []int64{2}, 3, impl.CastResult{Cast: impl.Cast{F: 1, Sender: 2, Bad: []int64{2}, Nodes: four}})
	checkNewCast(t, "the sender is one of two who are bad", 2, 7, []int64{1, 7}, 1, impl.CastResult{Cast: impl.Cast{F: 2, Sender: 7, Bad: []int64{1, 7}, Nodes: seven}})
	inits = nil
	for to := int64(1); to <= 7; to++ {
		inits = append(inits, impl.Msg{From: 7, To: to, Kind: 1, Value: 1})
	}
	checkNewCast(t, "two others are bad", 2, 7, []int64{1, 6}, 1, impl.CastResult{Cast: impl.Cast{F: 2, Sender: 7, Bad: []int64{1, 6}, Nodes: seven, Msgs: inits}})
	cases := []struct {
		name             string
		f, sender, value int64
		bad              []int64
		code             int64
	}{
		{"sender 5 of 4", 1, 5, 1, nil, impl.ErrRange},
		{"sender 8 of 7", 2, 8, 1, nil, impl.ErrRange},
		{"sender 0", 2, 0, 1, nil, impl.ErrRange},
		{"value 0", 1, 1, 0, nil, impl.ErrRange},
		{"value 4", 2, 1, 4, nil, impl.ErrRange},
		{"value 4 of a bad one", 2, 1, 4, []int64{1}, impl.ErrRange},
		{"bad 5 of 4", 1, 1, 1, []int64{5}, impl.ErrRange},
		{"bad 0", 1, 1, 1, []int64{0}, impl.ErrRange},
		{"two bad of 4", 1, 1, 1, []int64{2, 3}, impl.ErrMany},
		{"three bad of 7", 2, 1, 1, []int64{2, 3, 4}, impl.ErrMany},
		{"twice the same", 2, 1, 1, []int64{2, 2}, impl.ErrForm},
		{"they fall", 2, 1, 1, []int64{3, 2}, impl.ErrForm},
		{"too many who fall", 2, 1, 1, []int64{3, 2, 1}, impl.ErrMany},
		{"too many, one of them no member", 2, 1, 1, []int64{1, 2, 8}, impl.ErrRange},
		{"two who fall, one of them no member", 2, 1, 1, []int64{8, 2}, impl.ErrRange},
		{"too many, and no value", 2, 1, 9, []int64{1, 2, 3}, impl.ErrRange},
		{"they fall, and no value", 2, 1, 9, []int64{3, 2}, impl.ErrRange},
		{"they fall, and no sender", 2, 9, 1, []int64{3, 2}, impl.ErrRange},
		{"very many", 2, 1, 1, repeated(1, 100000), impl.ErrMany},
	}
	for _, c := range cases {
		checkNewCast(t, c.name, c.f, c.sender, c.bad, c.value, impl.CastResult{Code: c.code})
		for _, f := range noBadCounts {
			checkNewCast(t, c.name, f, c.sender, c.bad, c.value, impl.CastResult{Code: impl.ErrRange})
		}
	}
	for _, far := range []int64{math.MinInt64, math.MaxInt64, 1<<32 + 1} {
		none := impl.CastResult{Code: impl.ErrRange}
		checkNewCast(t, "far sender", 1, far, nil, 1, none)
		checkNewCast(t, "far value", 1, 1, nil, far, none)
		checkNewCast(t, "far bad", 1, 1, []int64{far}, 1, none)
	}
}

func TestEveryNewCast(t *testing.T) {
	bads := [][]int64{nil, {}}
	for one := int64(-1); one <= 9; one++ {
		bads = append(bads, []int64{one})
		for two := int64(-1); two <= 9; two++ {
			bads = append(bads, []int64{one, two}, []int64{one, 3, two})
		}
	}
	codes := map[int64]int{}
	for f := int64(0); f <= 3; f++ {
		for sender := int64(-1); sender <= 9; sender++ {
			for value := int64(-1); value <= 5; value++ {
				for _, bad := range bads {
					want := wantNewCast(f, sender, bad, value)
					checkNewCast(t, "all", f, sender, bad, value, want)
					codes[want.Code]++
				}
			}
		}
	}
	for _, code := range []int64{impl.OK, impl.ErrRange, impl.ErrMany, impl.ErrForm} {
		if codes[code] < 500 {
			t.Errorf("code %d came %d times", code, codes[code])
		}
	}
}

func TestSayBadByHand(t *testing.T) {
	for f := int64(1); f <= 2; f++ {
		c := busy(f) // 4 is bad
		for _, wrong := range wrongMsgs(f) {
			checkSaid(t, "wrong", c, wrong, impl.CastResult{Code: impl.ErrRange})
			wrong.From = 4
			if wantSaid(c, wrong).Code == impl.ErrRange {
				checkSaid(t, "wrong of who is bad", c, wrong, impl.CastResult{Code: impl.ErrRange})
			}
		}
		for id := int64(1); id <= 3*f+1; id++ {
			if id != 4 {
				checkSaid(t, "who is not bad", c, msg(id, 1, 1, 1), impl.CastResult{Code: impl.ErrSign})
				checkSaid(t, "who is not bad, and it is there", underWay(c, msg(id, 1, 1, 1)), msg(id, 1, 1, 1), impl.CastResult{Code: impl.ErrSign})
			}
			checkSaid(t, "nobody is bad", quiet(f, 1), msg(id, 1, 1, 1), impl.CastResult{Code: impl.ErrSign})
			for _, new := range []impl.Msg{msg(4, id, 1, 2), msg(4, id, 2, 3), msg(4, id, 3, 1), msg(4, id, 3, 3)} {
				checkSaid(t, "new", c, new, impl.CastResult{Cast: underWay(c, new)})
			}
		}
		for _, there := range []impl.Msg{msg(4, 1, 2, 1), msg(4, 4, 1, 1), msg(4, 2, 2, 2)} { // heard or not
			checkSaid(t, "it is there", c, there, impl.CastResult{Cast: c})
		}
	}
	two := quiet(2, 1, 3, 6)
	for id := int64(1); id <= 7; id++ {
		want := impl.CastResult{Code: impl.ErrSign}
		if id == 3 || id == 6 {
			want = impl.CastResult{Cast: underWay(two, msg(id, id, 3, 3))}
		}
		checkSaid(t, "two are bad", two, msg(id, id, 3, 3), want)
	}
}

func TestSayBadUpTo200(t *testing.T) {
	for _, count := range []int{0, 1, 198, 199, 200} {
		c := underWay(quiet(2, 1, 1, 2), fillers(count)...)
		want := impl.CastResult{Cast: underWay(c, msg(1, 1, 1, 1))}
		if count == 200 {
			want = impl.CastResult{Code: impl.ErrMany}
		}
		checkSaid(t, fmt.Sprint(count), c, msg(1, 1, 1, 1), want)
		checkSaid(t, "not so", c, msg(1, 1, 1, 4), impl.CastResult{Code: impl.ErrRange})
		checkSaid(t, "not bad", c, msg(3, 1, 1, 1), impl.CastResult{Code: impl.ErrSign})
		if count > 0 {
			checkSaid(t, "it is there", c, msg(2, 2, 1, 1), impl.CastResult{Cast: c})
		}
	}
}

func TestEveryMsgOfTheBad(t *testing.T) {
	casts := []impl.Cast{busy(1), busy(2), quiet(1, 1), quiet(2, 3, 2, 7), underWay(quiet(2, 1, 2, 5), fillers(200)...), quiet(1, 4, 4)}
	codes := map[int64]int{}
	for _, c := range casts {
		for from := int64(0); from <= 8; from++ {
			for to := int64(0); to <= 8; to++ {
				for kind := int64(0); kind <= 4; kind++ {
					for value := int64(0); value <= 4; value++ {
						m := msg(from, to, kind, value)
						want := wantSaid(c, m)
						checkSaid(t, "all", c, m, want)
						codes[want.Code]++
					}
				}
			}
		}
	}
	for _, code := range []int64{impl.OK, impl.ErrRange, impl.ErrMany, impl.ErrSign} {
		if codes[code] < 50 {
			t.Errorf("code %d came %d times", code, codes[code])
		}
	}
}

// afterLast is c behind the hearing of its last message, with that node as told and with what it sent.
func afterLast(c impl.Cast, echo int64, ready int64, told int64, sent ...impl.Msg) impl.CastResult {
	last := c.Msgs[len(c.Msgs)-1]
	c = alsoHeard(c, last.To, len(c.Nodes[last.To-1].Heard), last)
	return impl.CastResult{Cast: underWay(withNode(c, last.To, echo, ready, told), sent...)}
}

func checkLast(t *testing.T, name string, c impl.Cast, want impl.CastResult) {
	t.Helper()
	checkHeard(t, name, c, int64(len(c.Msgs))-1, want)
}

func TestPlacesOfMsgs(t *testing.T) {
	for f := int64(1); f <= 2; f++ {
		none := impl.CastResult{Code: impl.ErrRange}
		c := busy(f)
		for _, at := range []int64{math.MinInt64, -1, int64(len(c.Msgs)), int64(len(c.Msgs)) + 1, 1 << 32, math.MaxInt64} {
			checkHeard(t, "out of bounds", c, at, none)
		}
		for _, at := range []int64{-1, 0, 1} {
			checkHeard(t, "no messages", quiet(f, 1), at, none)
		}
		for at, m := range c.Msgs {
			if slices.Contains(c.Nodes[m.To-1].Heard, m) {
				checkHeard(t, "heard already", c, int64(at), impl.CastResult{Code: impl.ErrTaken})
			} else if got := impl.HearMsg(c, int64(at)); got.Code != impl.OK || impl.HearMsg(got.Cast, int64(at)).Code != impl.ErrTaken {
				t.Errorf("F %d, place %d: %s", f, at, textOfCast(got))
			}
		}
	}
}

func TestHearAnInit(t *testing.T) {
	for f := int64(1); f <= 2; f++ {
		for id := int64(1); id <= 3*f+1; id++ {
			for from := int64(1); from <= 3*f+1; from++ {
				for value := int64(1); value <= 3; value++ {
					for kind := int64(impl.CastInit); kind <= impl.CastReady; kind++ {
						c := underWay(quiet(f, 2, 3), msg(from, id, kind, value))
						want := afterLast(c, 0, 0, 0)
						if kind == impl.CastInit && from == 2 && id != 3 {
							want = afterLast(c, value, 0, 0, toAll(f, id, impl.CastEcho, value)...)
						}
						checkLast(t, "the first message", c, want)
						for echo := int64(1); echo <= 3; echo++ {
							sent := withNode(c, id, echo, 0, 0)
							checkLast(t, "it sent an Echo", sent, afterLast(sent, echo, 0, 0))
						}
					}
				}
			}
		}
		c := underWay(quiet(f, 2, 2), msg(2, 1, 1, 3)) // a Sender who is bad is one as well
		checkLast(t, "of a bad one", c, afterLast(c, 3, 0, 0, toAll(f, 1, impl.CastEcho, 3)...))
		c = underWay(quiet(f, 2, 2), msg(2, 2, 1, 3))
		checkLast(t, "to a bad one", c, afterLast(c, 0, 0, 0))
		c = withNode(underWay(quiet(f, 2), msg(2, 1, 1, 3)), 1, 0, 1, 2)
		checkLast(t, "behind a Ready and what it told", c, afterLast(c, 3, 1, 2, toAll(f, 1, impl.CastEcho, 3)...))
	}
}

func TestHearOfEachGroup(t *testing.T) { // all groups who send one value, the last of them last, from the first on
	for f := int64(1); f <= 2; f++ {
		for _, group := range groupsOf(3*f + 1) {
			count := len(group)
			if count == 0 {
				continue
			}
			for _, id := range []int64{1, 2, 3*f + 1} {
				for value := int64(1); value <= 3; value++ {
					for _, bad := range [][]int64{nil, {1}, {3*f + 1}} {
						if slices.Contains(bad, id) {
							continue
						}
						msgs := fromEach(group, id, impl.CastEcho, value)
						c := underWay(afterHearing(quiet(f, 2, bad...), msgs[:count-1]...), msgs[count-1])
						want := afterLast(c, 0, 0, 0)
						if count >= 2*int(f)+1 {
							want = afterLast(c, 0, value, 0, toAll(f, id, impl.CastReady, value)...)
						}
						checkLast(t, "Echoes", c, want)
						msgs = fromEach(group, id, impl.CastReady, value)
						c = underWay(afterHearing(quiet(f, 2, bad...), msgs[:count-1]...), msgs[count-1])
						told := int64(0)
						if count >= 2*int(f)+1 {
							told = value
						}
						want = afterLast(c, 0, 0, 0)
						if count >= int(f)+1 {
							sent := slices.DeleteFunc(toAll(f, id, impl.CastReady, value), func(m impl.Msg) bool { return slices.Contains(c.Msgs, m) })
							want = afterLast(c, 0, value, told, sent...)
						}
						checkLast(t, "Readies", c, want)
					}
				}
			}
		}
	}
}

func TestHearOfTwoKindsAndValues(t *testing.T) { // those of one kind and value do not count for another
	for f := int64(1); f <= 2; f++ {
		all := listOfSet(1<<(3*f+1) - 1)
		for one := int64(1); one <= 3; one++ {
			other := one%3 + 1
			few := slices.Concat(fromEach(all[:2*f], 1, impl.CastEcho, one), fromEach(all[:f], 1, impl.CastReady, one), fromEach(all[2*f:], 1, impl.CastEcho, other), fromEach(all[f:2*f], 1, impl.CastReady, other), fromEach(all, 1, impl.CastInit, one))
			for place := range few {
				msgs := slices.Concat(few[:place], few[place+1:], few[place:place+1])
				c := underWay(afterHearing(withNode(quiet(f, 2), 1, 3, 0, 0), msgs[:len(msgs)-1]...), msgs[len(msgs)-1])
				checkLast(t, "too few of each", c, afterLast(c, 3, 0, 0))
			}
			base := afterHearing(withNode(quiet(f, 2), 1, 3, 0, 0), few...)
			c := underWay(base, msg(all[2*f], 1, impl.CastEcho, one))
			checkLast(t, "one more Echo", c, afterLast(c, 3, one, 0, toAll(f, 1, impl.CastReady, one)[1:]...))
			c = underWay(base, msg(all[2*f], 1, impl.CastReady, one))
			checkLast(t, "one more Ready", c, afterLast(c, 3, one, 0, toAll(f, 1, impl.CastReady, one)[1:]...))
		}
	}
}

func TestHearByWhoSentAndTold(t *testing.T) {
	for f := int64(1); f <= 2; f++ {
		all := listOfSet(1<<(3*f+1) - 1)[1:] // 1 hears from others, so that what it sends is not there
		for value := int64(1); value <= 3; value++ {
			for ready := int64(0); ready <= 3; ready++ {
				for told := int64(0); told <= 3; told++ {
					base := withNode(quiet(f, 2, 3*f+1), 1, 1, ready, told)
					sends, tells := ready, told
					var sent []impl.Msg
					if ready == 0 {
						sends, sent = value, toAll(f, 1, impl.CastReady, value)
					}
					if told == 0 {
						tells = value
					}
					c := underWay(afterHearing(base, fromEach(all[:2*f], 1, impl.CastReady, value)...), msg(all[2*f], 1, impl.CastReady, value))
					checkLast(t, "enough Readies", c, afterLast(c, 1, sends, tells, sent...))
					c = underWay(afterHearing(base, fromEach(all[:f], 1, impl.CastReady, value)...), msg(all[f], 1, impl.CastReady, value))
					checkLast(t, "some Readies", c, afterLast(c, 1, sends, told, sent...))
					c = underWay(afterHearing(base, fromEach(all[:2*f], 1, impl.CastEcho, value)...), msg(all[2*f], 1, impl.CastEcho, value))
					checkLast(t, "enough Echoes", c, afterLast(c, 1, sends, told, sent...))
				}
			}
		}
	}
}

func TestHearOfSeveralValues(t *testing.T) { // they rise: the least value that may be sent or told is
	for f := int64(1); f <= 2; f++ {
		all := listOfSet(1<<(3*f+1) - 1)[1:]
		for one := int64(1); one <= 3; one++ {
			for two := one + 1; two <= 3; two++ {
				heard := append(fromEach(all[:2*f+1], 1, impl.CastEcho, two), fromEach(all[:2*f+1], 1, impl.CastReady, one)...)
				heard = append(heard, fromEach(all[:2*f+1], 1, impl.CastReady, two)...)
				for _, last := range []impl.Msg{msg(3, 1, 1, 2), msg(1, 1, 2, 3), msg(3, 1, 1, 3)} { // none of these counts
					c := underWay(afterHearing(withNode(quiet(f, 2), 1, 2, 0, 0), heard...), last)
					checkLast(t, "both are ready", c, afterLast(c, 2, one, one, toAll(f, 1, impl.CastReady, one)...))
				}
				heard = append(fromEach(all[:f+1], 1, impl.CastReady, one), fromEach(all[:2*f+1], 1, impl.CastReady, two)...)
				c := underWay(afterHearing(withNode(quiet(f, 2), 1, 2, 0, 0), heard...), msg(3, 1, 1, 1))
				checkLast(t, "one is sent, another one told", c, afterLast(c, 2, one, two, toAll(f, 1, impl.CastReady, one)...))
			}
		}
		c := underWay(afterHearing(quiet(f, 2), fromEach(all[:2*f+1], 1, impl.CastReady, 3)...), msg(2, 1, 1, 1))
		checkLast(t, "an Echo, then a Ready", c, afterLast(c, 1, 3, 3, append(toAll(f, 1, impl.CastEcho, 1), toAll(f, 1, impl.CastReady, 3)...)...))
	}
}

func TestBadNodesOnlyHear(t *testing.T) {
	for f := int64(1); f <= 2; f++ {
		all := listOfSet(1<<(3*f+1) - 1)
		heard := append(fromEach(all, 3, impl.CastEcho, 2), fromEach(all, 3, impl.CastReady, 2)...)
		for _, node := range [][3]int64{{0, 0, 0}, {1, 0, 0}, {0, 2, 0}, {3, 1, 2}} {
			for _, last := range []impl.Msg{msg(2, 3, 1, 1), msg(1, 3, 1, 1), msg(1, 3, 2, 1), msg(4, 3, 3, 3)} {
				c := underWay(afterHearing(withNode(quiet(f, 2, 3), 3, node[0], node[1], node[2]), heard...), last)
				checkLast(t, "bad", c, afterLast(c, node[0], node[1], node[2]))
			}
		}
	}
}

func TestWhatIsThereIsNotSentAgain(t *testing.T) {
	for f := int64(1); f <= 2; f++ {
		echoes, readies := toAll(f, 1, impl.CastEcho, 2), toAll(f, 1, impl.CastReady, 2)
		others := listOfSet(1<<(3*f+1) - 1)[1:]
		for _, group := range groupsOf(3*f + 1) {
			var there, missing [2][]impl.Msg
			for place := range echoes {
				if slices.Contains(group, int64(place)+1) {
					there[0], there[1] = append(there[0], echoes[place]), append(there[1], readies[place])
				} else {
					missing[0], missing[1] = append(missing[0], echoes[place]), append(missing[1], readies[place])
				}
			}
			c := underWay(underWay(quiet(f, 2), there[0]...), msg(2, 1, 1, 2))
			checkLast(t, "Echo", c, afterLast(c, 2, 0, 0, missing[0]...))
			c = underWay(afterHearing(quiet(f, 2), fromEach(others[:2*f], 1, impl.CastEcho, 2)...), there[1]...)
			c = underWay(c, msg(others[2*f], 1, impl.CastEcho, 2))
			checkLast(t, "Ready", c, afterLast(c, 0, 2, 0, missing[1]...))
		}
	}
}

func TestHearUpTo200(t *testing.T) {
	enough := fromEach([]int64{2, 3, 4, 5}, 1, impl.CastEcho, 3)
	echoes, readies := toAll(2, 1, impl.CastEcho, 1), toAll(2, 1, impl.CastReady, 3)
	for count := 180; count <= 199; count++ {
		code := impl.CastResult{Code: impl.ErrMany}
		c := underWay(underWay(quiet(2, 2, 7), fillers(count-1)...), msg(2, 1, 1, 1))
		want := code
		if count <= 193 {
			want = afterLast(c, 1, 0, 0, echoes...)
		}
		checkLast(t, fmt.Sprint("an Echo behind ", count), c, want)

		c = underWay(underWay(quiet(2, 2, 7), append(echoes[2:5], fillers(count-4)...)...), msg(2, 1, 1, 1))
		want = code
		if count <= 196 {
			want = afterLast(c, 1, 0, 0, echoes[0], echoes[1], echoes[5], echoes[6])
		}
		checkLast(t, fmt.Sprint("an Echo of which three are there, behind ", count), c, want)

		c = underWay(underWay(afterHearing(quiet(2, 2, 7), enough...), fillers(count-5)...), msg(6, 1, impl.CastEcho, 3))
		want = code
		if count <= 193 {
			want = afterLast(c, 0, 3, 0, readies...)
		}
		checkLast(t, fmt.Sprint("a Ready behind ", count), c, want)

		all := append(enough, msg(6, 1, impl.CastEcho, 3))
		c = underWay(underWay(afterHearing(quiet(2, 2, 7), all...), fillers(count-6)...), msg(2, 1, 1, 1))
		want = code
		if count <= 186 {
			want = afterLast(c, 1, 3, 0, append(slices.Clone(echoes), readies...)...)
		}
		checkLast(t, fmt.Sprint("an Echo and a Ready behind ", count), c, want)
	}
	full := underWay(underWay(quiet(2, 2, 7), fillers(199)...), msg(2, 1, 1, 1))
	checkLast(t, "200, and an Echo", full, impl.CastResult{Code: impl.ErrMany})
	sent := withNode(full, 1, 3, 0, 0)
	checkLast(t, "200, and nothing to send", sent, afterLast(sent, 3, 0, 0))
	there := underWay(underWay(quiet(2, 2, 7), append(slices.Clone(echoes), fillers(192)...)...), msg(2, 1, 1, 1))
	checkLast(t, "200, and all that is sent is there", there, afterLast(there, 1, 0, 0))
	full = underWay(underWay(quiet(2, 2, 1), fillers(199)...), msg(2, 1, 1, 1))
	checkLast(t, "200, and a bad one hears", full, afterLast(full, 0, 0, 0))
}

func TestToldOf(t *testing.T) {
	for f := int64(1); f <= 2; f++ {
		c := quiet(f, 1, 2)
		for id := int64(1); id <= 3*f+1; id++ {
			c = withNode(c, id, 3-id%4, (id+1)%4, id%4)
		}
		for id := int64(-2); id <= 10; id++ {
			want, none := impl.IntResult{Code: impl.ErrRange}, impl.IntResult{Code: impl.ErrRange}
			if id >= 1 && id <= 3*f+1 {
				want, none = impl.IntResult{Value: id % 4}, impl.IntResult{}
			}
			checkTold(t, "each told another one", c, id, want)
			checkTold(t, "nobody told", quiet(f, 1, 2), id, none)
		}
		for _, id := range noMembers {
			checkTold(t, "no member", c, id, impl.IntResult{Code: impl.ErrRange})
		}
	}
}

func TestDrainByHand(t *testing.T) {
	for f := int64(1); f <= 2; f++ {
		members := 3*f + 1
		for _, bad := range [][]int64{nil, {members}} {
			c := impl.NewCast(f, 2, bad, 3).Cast
			good := members - int64(len(bad))
			want := quiet(f, 2, bad...)
			for kind := int64(impl.CastInit); kind <= impl.CastReady; kind++ {
				if kind == impl.CastInit {
					want = afterHearing(want, toAll(f, 2, kind, 3)...)
					continue
				}
				for from := int64(1); from <= good; from++ {
					want = afterHearing(want, toAll(f, from, kind, 3)...)
				}
			}
			for id := int64(1); id <= good; id++ {
				want = withNode(want, id, 3, 3, 3)
			}
			checkDrained(t, "a sender who is not bad", c, impl.CastResult{Cast: want})
			checkDrained(t, "nothing left to hear", want, impl.CastResult{Cast: want})
		}
		c := impl.NewCast(f, 2, []int64{2}, 3).Cast
		checkDrained(t, "no message", c, impl.CastResult{Cast: c})
		c = underWay(c, msg(2, 1, 1, 3), msg(2, 2, 2, 1))
		want := withNode(afterHearing(quiet(f, 2, 2), append([]impl.Msg{msg(2, 1, 1, 3), msg(2, 2, 2, 1)}, toAll(f, 1, impl.CastEcho, 3)...)...), 1, 3, 0, 0)
		checkDrained(t, "one heard of it", c, impl.CastResult{Cast: want})
		c = quiet(f, 2, 2)
		c.Msgs = []impl.Msg{msg(4, 1, 2, 1), msg(3, 1, 2, 1), msg(4, 1, 3, 1), msg(3, 1, 2, 2)}
		want = copyCast(c)
		want.Nodes[0].Heard = []impl.Msg{c.Msgs[3], c.Msgs[1], c.Msgs[0], c.Msgs[2]}
		c.Nodes[0].Heard = []impl.Msg{c.Msgs[3], c.Msgs[1]}
		checkDrained(t, "some of it was heard, in another order", c, impl.CastResult{Cast: want})
	}
}

func TestDrainUpTo200(t *testing.T) {
	for count := 185; count <= 198; count++ {
		c := underWay(quiet(2, 1, 6, 7), append(muteMsgs(count), msg(1, 2, impl.CastInit, 1))...)
		want := impl.CastResult{Code: impl.ErrMany}
		if count <= 192 {
			want.Code = impl.OK
			want.Cast = withNode(afterHearing(quiet(2, 1, 6, 7), append(slices.Clone(c.Msgs), toAll(2, 2, impl.CastEcho, 1)...)...), 2, 1, 0, 0)
		}
		checkDrained(t, fmt.Sprint(count), c, want)
	}
	c := underWay(quiet(2, 1, 6, 7), muteMsgs(198)...)
	checkDrained(t, "nothing is sent", c, impl.CastResult{Cast: afterHearing(quiet(2, 1, 6, 7), muteMsgs(198)...)})
	c = underWay(impl.NewCast(2, 1, []int64{6, 7}, 1).Cast, muteMsgs(123)...)
	if got := impl.DrainCast(c); got.Code != impl.OK || len(got.Cast.Msgs) != 200 || firstUnheard(got.Cast) >= 0 {
		t.Errorf("123: %s", textOfCast(got))
	}
	c = underWay(impl.NewCast(2, 1, []int64{6, 7}, 1).Cast, muteMsgs(124)...)
	checkDrained(t, "124", c, impl.CastResult{Code: impl.ErrMany})
}

func TestAgreeRight(t *testing.T) {
	for f := int64(1); f <= 2; f++ {
		cases := []struct {
			name string
			bad  []int64
			told []int64
			want bool
		}{
			{"nobody told", nil, nil, true},
			{"one told", nil, []int64{0, 2}, true},
			{"two told the same", nil, []int64{3, 0, 3}, true},
			{"all told the same", nil, repeated(1, int(3*f+1)), true},
			{"two values", nil, []int64{1, 2}, false},
			{"two values, one between who told nothing", nil, []int64{3, 0, 2}, false},
			{"the last one another", nil, append(repeated(1, int(3*f)), 3), false},
			{"the first one another", nil, append([]int64{3}, repeated(1, int(3*f))...), false},
			{"the first one is bad", []int64{1}, []int64{1, 2, 2}, true},
			{"one between is bad", []int64{2}, []int64{2, 1, 2, 2}, true},
			{"the last one is bad", []int64{3*f + 1}, append(repeated(1, int(3*f)), 3), true},
			{"another one is bad", []int64{3}, []int64{1, 2, 2}, false},
			{"a bad one alone told", []int64{2}, []int64{0, 1}, true},
			{"another one of two values is bad", []int64{3}, []int64{1, 2, 3}, false},
		}
		for _, c := range cases {
			cast := quiet(f, 2, c.bad...)
			for place, told := range c.told {
				cast = withNode(cast, int64(place)+1, 1, 2, told)
			}
			if got := impl.AgreeRight(cast); got != c.want {
				t.Errorf("F %d, %s: %v", f, c.name, got)
			}
			faulty := underWay(cast, impl.Msg{})
			if impl.AgreeRight(faulty) {
				t.Errorf("F %d, %s: right in spite of a fault", f, c.name)
			}
		}
	}
	two := withNode(withNode(withNode(quiet(2, 1, 2, 4), 2, 0, 0, 1), 4, 0, 0, 2), 5, 0, 0, 3)
	if !impl.AgreeRight(two) || impl.AgreeRight(withNode(two, 6, 0, 0, 1)) {
		t.Error("two bad ones")
	}
}

func TestAgreeRightOfAllThatIsTold(t *testing.T) {
	for number := range 256 {
		for bad := int64(0); bad <= 4; bad++ {
			c := quiet(1, 1)
			if bad > 0 {
				c.Bad = []int64{bad}
			}
			for place := range c.Nodes {
				c.Nodes[place].Told = int64(number >> (2 * place) % 4)
			}
			if got := impl.AgreeRight(c); got != wantAgree(c) {
				t.Errorf("AgreeRight(%+v) = %v", c, got)
			}
		}
	}
}

// badMsg is of one who is bad: most of them of two values, so that they go against each other.
func (d *dice) badMsg(c impl.Cast) impl.Msg {
	return msg(c.Bad[d.below(int64(len(c.Bad)))], d.below(3*c.F+1)+1, d.below(3)+1, 1+d.below(2)+d.below(2)*d.below(2))
}

// unheard are the places of messages that nobody heard yet.
func unheard(c impl.Cast) []int64 {
	var all []int64
	for at, m := range c.Msgs {
		if !slices.Contains(c.Nodes[m.To-1].Heard, m) {
			all = append(all, int64(at))
		}
	}
	return all
}

// checkStep asks what is promised of one step: what was heard and told stays, and those who are not bad tell one value.
func checkStep(t *testing.T, before impl.Cast, after impl.Cast) {
	t.Helper()
	if fault := impl.CastFault(after); fault != impl.OK || !impl.AgreeRight(after) {
		t.Fatalf("fault %d, or two values told: %+v", fault, after)
	}
	if told := toldByGood(after); len(told) > 2 || len(told) == 2 && !told[0] {
		t.Fatalf("two values told: %+v", after)
	}
	if !slices.Equal(before.Msgs, after.Msgs[:len(before.Msgs)]) {
		t.Fatalf("messages of %+v are not those of %+v", before, after)
	}
	for place, n := range before.Nodes {
		later := after.Nodes[place]
		if !slices.Equal(n.Heard, later.Heard[:len(n.Heard)]) {
			t.Fatalf("what was heard in %+v is not so in %+v", before, after)
		}
		for _, pair := range [][2]int64{{n.Echo, later.Echo}, {n.Ready, later.Ready}, {n.Told, later.Told}} {
			if pair[0] != 0 && pair[0] != pair[1] {
				t.Fatalf("what was sent or told in %+v is not so in %+v", before, after)
			}
		}
	}
}

// walk takes one step of c, most of them by what was not heard yet, and asks the promise of it.
func (d *dice) walk(t *testing.T, c impl.Cast, share int64) impl.Cast {
	t.Helper()
	rest := unheard(c)
	if len(c.Bad) > 0 && (len(rest) == 0 || d.below(10) < share) {
		said := impl.SayBad(c, d.badMsg(c))
		if said.Code != impl.OK {
			t.Fatalf("code %d of what a bad one says to %+v", said.Code, c)
		}
		checkStep(t, c, said.Cast)
		return said.Cast
	}
	if len(rest) == 0 {
		return c
	}
	at := rest[d.below(int64(len(rest)))]
	heard := impl.HearMsg(c, at)
	if heard.Code != impl.OK {
		t.Fatalf("code %d of what is heard at %d of %+v", heard.Code, at, c)
	}
	checkStep(t, c, heard.Cast)
	if again := impl.HearMsg(heard.Cast, at); !sameCasts(again, impl.CastResult{Code: impl.ErrTaken}) {
		t.Fatalf("%d is heard again in %+v: %s", at, heard.Cast, textOfCast(again))
	}
	return heard.Cast
}

// checkAllHeard asks what is promised where all is heard, and tells whether all who are not bad told.
func checkAllHeard(t *testing.T, c impl.Cast, value int64) bool {
	t.Helper()
	if left := unheard(c); len(left) > 0 {
		t.Fatalf("not all is heard: %v of %+v", left, c)
	}
	told := toldByGood(c)
	if len(told) != 1 {
		t.Fatalf("some of those who are not bad told, and not all the same: %+v", c)
	}
	if !slices.Contains(c.Bad, c.Sender) && !told[value] {
		t.Fatalf("the sender sent %d, and they told %v: %+v", value, told, c)
	}
	return !told[0]
}

// begin lets a sender who is bad say one value to most, another one to some, and nothing to the others.
func (d *dice) begin(c impl.Cast, value int64) impl.Cast {
	most := d.below(6) + 3
	for to := range 3*c.F + 1 {
		switch roll := d.below(10); {
		case roll < most:
			c = impl.SayBad(c, msg(c.Sender, to+1, impl.CastInit, value)).Cast
		case roll < 9:
			c = impl.SayBad(c, msg(c.Sender, to+1, impl.CastInit, value%3+1)).Cast
		}
	}
	return c
}

func TestBroadcastsInManyOrders(t *testing.T) { // P11
	d := dice(110)
	counts := map[string]int{}
	for range 2500 {
		f, value := d.below(2)+1, d.below(3)+1
		members := 3*f + 1
		sender := d.below(members) + 1
		var bad []int64
		if d.below(2) == 0 {
			bad = []int64{sender}
		}
		for len(bad) < int(f) && d.below(4) > 0 {
			if id := d.below(members) + 1; !slices.Contains(bad, id) {
				bad = append(bad, id)
			}
		}
		slices.Sort(bad)
		c := impl.NewCast(f, sender, bad, value).Cast
		if slices.Contains(bad, sender) {
			c = d.begin(c, value)
		}
		share := d.below(8) + 1
		for range d.below(64) { // 70 with those of a bad sender
			c = d.walk(t, c, share)
		}
		drained := impl.DrainCast(c)
		if drained.Code != impl.OK {
			t.Fatalf("code %d of %+v", drained.Code, c)
		}
		checkStep(t, c, drained.Cast)
		counts[fmt.Sprint("F ", f, ", sender bad ", slices.Contains(bad, sender), ", told ", checkAllHeard(t, drained.Cast, value))]++
	}
	for f := 1; f <= 2; f++ {
		for _, rest := range []string{", sender bad true, told true", ", sender bad true, told false", ", sender bad false, told true"} {
			if name := fmt.Sprint("F ", f, rest); counts[name] < 20 {
				t.Errorf("%s: %d times (%v)", name, counts[name], counts)
			}
		}
	}
}

// TestASenderOfTwoValues lets a sender who is bad say any value, or none, to each of the others, and go with one value
// or with both: whatever it says and in whatever order it is heard, they tell the same, or nothing.
func TestASenderOfTwoValues(t *testing.T) { // P11
	d := dice(111)
	told := map[int64]int{}
	for number := range 64 {
		for more := range 64 {
			c := impl.NewCast(1, 4, []int64{4}, 1).Cast
			for to := range int64(3) {
				var says []impl.Msg
				if value := int64(number >> (2 * to) % 4); value > 0 {
					says = append(says, msg(4, to+1, impl.CastInit, value))
				}
				for value := range int64(2) {
					if more>>(2*to+value)%2 == 1 {
						says = append(says, msg(4, to+1, impl.CastEcho, value+1), msg(4, to+1, impl.CastReady, value+1))
					}
				}
				for _, m := range says {
					c = impl.SayBad(c, m).Cast
				}
			}
			for range 40 {
				c = d.walk(t, c, 0)
			}
			drained := impl.DrainCast(c)
			checkStep(t, c, drained.Cast)
			checkAllHeard(t, drained.Cast, 0)
			told[impl.ToldOf(drained.Cast, 1).Value]++
		}
	}
	for value := range int64(4) {
		if told[value] < 100 {
			t.Errorf("%d was told %d times", value, told[value])
		}
	}
}

// anyCast is made of any messages, of which some were heard, and of nodes that sent and told anything: no new one comes
// to most of these. A few of them have a fault.
func (d *dice) anyCast() impl.Cast {
	f := d.below(2) + 1
	members := 3*f + 1
	c := quiet(f, d.below(members)+1)
	for id := int64(1); id <= members && len(c.Bad) < int(f); id++ {
		if d.below(5) == 0 {
			c.Bad = append(c.Bad, id)
		}
	}
	values, heard := d.below(3)+1, d.below(5)
	count := d.below(30 * f)
	if f == 2 && d.below(3) == 0 {
		count, values = 170+d.below(31), 3
	}
	there := map[impl.Msg]bool{}
	for tries := 0; tries < 400 && len(c.Msgs) < int(count); tries++ {
		m := msg(d.below(members)+1, d.below(members)+1, d.below(3)+1, d.below(values)+1)
		if there[m] {
			continue
		}
		there[m] = true
		c.Msgs = append(c.Msgs, m)
		if d.below(4) < heard {
			c.Nodes[m.To-1].Heard = append(c.Nodes[m.To-1].Heard, m)
		}
	}
	for place := range c.Nodes {
		n := &c.Nodes[place]
		n.Echo, n.Ready, n.Told = d.below(2)*d.below(4), d.below(2)*d.below(2)*d.below(4), d.below(2)*d.below(2)*d.below(4)
	}
	if d.below(12) == 0 {
		d.spoilCast(&c)
	}
	return c
}

// spoilCast leaves some as they are.
func (d *dice) spoilCast(c *impl.Cast) {
	n := &c.Nodes[d.below(int64(len(c.Nodes)))]
	switch d.below(9) {
	case 0:
		c.F = d.below(5) - 1
	case 1:
		c.Sender = d.below(10)
	case 2:
		c.Bad = append(c.Bad, d.below(9))
	case 3:
		c.Nodes = c.Nodes[:d.below(int64(len(c.Nodes)))]
	case 4:
		c.Msgs = append(c.Msgs, msg(d.below(9), d.below(9), d.below(5), d.below(5)))
	case 5:
		c.Msgs = append(c.Msgs, c.Msgs[len(c.Msgs)/2:]...)
	case 6:
		n.Echo, n.Ready, n.Told = d.below(5), d.below(5), d.below(5)
	case 7:
		n.Heard = append(n.Heard, msg(d.below(4)+1, d.below(4)+1, d.below(3)+1, d.below(3)+1))
	case 8:
		n.Heard = append(n.Heard, n.Heard[len(n.Heard)/2:]...)
	}
}

func TestManyCasts(t *testing.T) {
	d := dice(112)
	faults, saids, hears, drains := map[int64]int{}, map[int64]int{}, map[int64]int{}, map[int64]int{}
	for range 6000 {
		c := d.anyCast()
		fault := wantCastFault(c)
		if got := impl.CastFault(c); got != fault {
			t.Fatalf("CastFault(%+v) = %d, want %d", c, got, fault)
		}
		faults[fault]++
		m := msg(d.below(8)+d.below(2), d.below(7)+1, d.below(3)+1, d.below(3)+1)
		if len(c.Bad) > 0 && d.below(3) > 0 {
			m = d.badMsg(c)
		}
		said := wantSaid(c, m)
		checkSaid(t, "dice", c, m, said)
		saids[said.Code]++
		for range 8 {
			at := d.below(int64(len(c.Msgs))+2) - 1
			heard := wantHeard(c, at)
			checkHeard(t, "dice", c, at, heard)
			hears[heard.Code]++
		}
		id := d.below(9)
		told := impl.IntResult{Code: fault}
		if fault == impl.OK && (id < 1 || id > 3*c.F+1) {
			told.Code = impl.ErrRange
		}
		if told.Code == impl.OK {
			told.Value = c.Nodes[id-1].Told
		}
		checkTold(t, "dice", c, id, told)
		if got := impl.AgreeRight(c); got != wantAgree(c) {
			t.Fatalf("AgreeRight(%+v) = %v", c, got)
		}
		if d.below(4) == 0 {
			drained := wantDrained(c)
			checkDrained(t, "dice", c, drained)
			drains[drained.Code]++
		}
		if t.Failed() {
			t.FailNow()
		}
	}
	checkCodes(t, "CastFault", faults, impl.OK, impl.ErrForm, impl.ErrMany, impl.ErrRange, impl.ErrNone, impl.ErrTaken)
	checkCodes(t, "SayBad", saids, impl.OK, impl.ErrForm, impl.ErrMany, impl.ErrRange, impl.ErrNone, impl.ErrTaken, impl.ErrSign)
	checkCodes(t, "HearMsg", hears, impl.OK, impl.ErrForm, impl.ErrMany, impl.ErrRange, impl.ErrNone, impl.ErrTaken)
	checkCodes(t, "DrainCast", drains, impl.OK, impl.ErrForm, impl.ErrMany, impl.ErrRange, impl.ErrNone, impl.ErrTaken)
}

func checkCodes(t *testing.T, name string, counts map[int64]int, codes ...int64) {
	t.Helper()
	for _, code := range codes {
		if counts[code] < 5 {
			t.Errorf("%s told code %d %d times only", name, code, counts[code])
		}
	}
}

func TestBroadcastsStepByStep(t *testing.T) { // each step and the end of broadcasts that came of a new one, as worked out
	d := dice(113)
	for range 150 {
		f := d.below(2) + 1
		bad := [][]int64{nil, {2}, {3}, {4}}[d.below(4)]
		c := impl.NewCast(f, d.below(4)+1, bad, d.below(3)+1).Cast
		for step := range 70 {
			if step%6 == 0 {
				checkDrained(t, "a step", c, wantDrained(c))
			}
			if rest := unheard(c); len(rest) > 0 && d.below(3) > 0 {
				at := rest[d.below(int64(len(rest)))]
				want := wantHeard(c, at)
				checkHeard(t, "a step", c, at, want)
				c = want.Cast
			} else if len(bad) > 0 {
				m := d.badMsg(c)
				want := wantSaid(c, m)
				checkSaid(t, "a step", c, m, want)
				c = want.Cast
			}
		}
		if t.Failed() {
			t.FailNow()
		}
	}
}

type castCase struct {
	c     impl.Cast
	m     impl.Msg
	at    int64
	value int64
}

// castsToKeep has each code in some of them.
func castsToKeep() []castCase {
	all := []castCase{
		{},
		{busy(1), msg(4, 1, 1, 1), 5, 1},
		{busy(2), msg(4, 1, 2, 1), 0, 2},
		{busy(2), msg(3, 1, 2, 1), 99, 0},
		{impl.NewCast(1, 2, []int64{4}, 3).Cast, msg(4, 1, 2, 1), 1, 3},
		{impl.NewCast(2, 1, []int64{4, 5}, 3).Cast, msg(4, 1, 2, 1), 1, 3},
		{impl.NewCast(2, 7, nil, 1).Cast, msg(4, 1, 2, 1), 6, 1},
		{impl.DrainCast(impl.NewCast(1, 2, []int64{4}, 3).Cast).Cast, msg(4, 4, 3, 1), 0, 3},
		{impl.DrainCast(impl.NewCast(2, 2, []int64{4, 6}, 1).Cast).Cast, msg(6, 4, 3, 1), -1, 3},
		{underWay(quiet(2, 1, 2, 7), fillers(200)...), msg(2, 1, 1, 1), 0, 1},
		{underWay(underWay(quiet(2, 1, 6, 7), fillers(190)...), msg(1, 1, 1, 1)), msg(6, 1, 1, 1), 190, 1},
		{underWay(quiet(2, 1, 6, 7), append(muteMsgs(192), msg(1, 2, impl.CastInit, 1))...), msg(6, 1, 1, 1), 192, 1},
		{underWay(quiet(2, 1, 6, 7), append(muteMsgs(198), msg(1, 2, impl.CastInit, 1))...), msg(6, 1, 1, 1), 198, 1},
	}
	for _, flaw := range castFlaws() {
		c := busy(2)
		flaw.put(&c)
		all = append(all, castCase{c, msg(4, 1, 1, 1), 5, 1})
	}
	d := dice(114)
	for range 250 {
		c := d.anyCast()
		m := msg(d.below(7)+1, 1, 1, 1)
		if len(c.Bad) > 0 && d.below(4) > 0 {
			m = d.badMsg(c)
		}
		all = append(all, castCase{c, m, d.below(int64(len(c.Msgs)) + 1), d.below(3) + 1})
	}
	return all
}

func (c castCase) copied() castCase {
	c.c = copyCast(c.c)
	return c
}

// wholeCast tells all that is in the memory of the lists, also behind their ends.
func wholeCast(c impl.Cast) string {
	text := fmt.Sprint(c.F, c.Sender, len(c.Bad), c.Bad[:cap(c.Bad)], len(c.Msgs), c.Msgs[:cap(c.Msgs)], len(c.Nodes))
	for _, n := range c.Nodes[:cap(c.Nodes)] {
		text += fmt.Sprint(n.Echo, n.Ready, n.Told, len(n.Heard), n.Heard[:cap(n.Heard)])
	}
	return text
}

func (c castCase) results() []impl.CastResult {
	return []impl.CastResult{
		impl.NewCast(c.c.F, c.c.Sender, c.c.Bad, c.value), impl.SayBad(c.c, c.m), impl.HearMsg(c.c, c.at), impl.DrainCast(c.c),
	}
}

func (c castCase) answers() string {
	return fmt.Sprint(c.results(), impl.CastFault(c.c), impl.ToldOf(c.c, c.value), impl.AgreeRight(c.c))
}

func TestCastsHandedInAreUnchanged(t *testing.T) { // P1
	for _, c := range castsToKeep() {
		given := c.copied()
		before := wholeCast(given.c)
		given.answers()
		if behind := wholeCast(given.c); behind != before {
			t.Errorf("%.400s was changed to %.400s", before, behind)
		}
	}
}

func TestSameCastsSameAnswers(t *testing.T) { // P1: nothing is kept from call to call
	var first []string
	for _, c := range castsToKeep() {
		first = append(first, c.answers())
	}
	for i, c := range slices.Backward(castsToKeep()) {
		for range 2 {
			if again := c.copied().answers(); again != first[i] {
				t.Fatalf("%.400s: first %.400s, then %.400s", wholeCast(c.c), first[i], again)
			}
		}
	}
}

// msgLists are all lists of messages of a broadcast.
func msgLists(c impl.Cast) [][]impl.Msg {
	lists := [][]impl.Msg{c.Msgs}
	for _, n := range c.Nodes {
		lists = append(lists, n.Heard)
	}
	return lists
}

func spoilWhole(c impl.Cast) {
	spoil(c.Bad, -8)
	for _, list := range msgLists(c) {
		spoil(list, msg(-8, -8, -8, -8))
	}
	spoil(c.Nodes, impl.Node{Told: -8})
}

func TestCastsShareNoMemory(t *testing.T) { // P1
	for _, c := range castsToKeep() {
		want := fmt.Sprint(c.results())
		given := c.copied()
		one, two := given.results(), given.results()
		for _, result := range one {
			spoilWhole(result.Cast)
		}
		if fmt.Sprint(two) != want || fmt.Sprint(given.results()) != want {
			t.Fatalf("two answers of %.400s share memory, or an answer and what was handed in", wholeCast(c.c))
		}
		spoilWhole(given.c)
		if fmt.Sprint(two) != want {
			t.Fatalf("what was answered for %.400s changes with what was handed in", wholeCast(c.c))
		}
	}
}

func TestListsOfOneCastShareNoMemory(t *testing.T) { // P1
	mark := msg(-8, -8, -8, -8)
	for _, c := range castsToKeep() {
		for number, result := range c.results() {
			for place := range msgLists(result.Cast) {
				lists := msgLists(c.results()[number].Cast)
				spoil(lists[place], mark)
				for other, list := range lists {
					if other != place && slices.Contains(list[:cap(list)], mark) {
						t.Fatalf("lists %d and %d of answer %d of %.400s share memory", place, other, number, wholeCast(c.c))
					}
				}
			}
		}
	}
}

func TestNoBadAndNoMsgsAreTheSameAsNil(t *testing.T) { // P1
	for f := int64(0); f <= 3; f++ {
		for sender := int64(0); sender <= 2; sender++ {
			none := castCase{impl.Cast{F: f, Sender: sender, Nodes: make([]impl.Node, 3*f+1)}, msg(1, 1, 1, 1), 0, 1}
			empty := castCase{impl.Cast{F: f, Sender: sender, Bad: []int64{}, Nodes: make([]impl.Node, 3*f+1), Msgs: []impl.Msg{}}, msg(1, 1, 1, 1), 0, 1}
			for place := range empty.c.Nodes {
				empty.c.Nodes[place].Heard = []impl.Msg{}
			}
			if a, b := none.answers(), empty.answers(); a != b {
				t.Errorf("%s and %s", a, b)
			}
		}
	}
	if a, b := impl.CastFault(impl.Cast{F: 1, Sender: 1}), impl.CastFault(impl.Cast{F: 1, Sender: 1, Nodes: []impl.Node{}}); a != impl.ErrForm || b != impl.ErrForm {
		t.Error("no nodes", a, b)
	}
}

func TestAnswersOfCastsBesideACodeAreZero(t *testing.T) { // P1
	codes := map[int64]int{}
	for _, c := range castsToKeep() {
		for _, result := range c.results() {
			if result.Code != impl.OK && !sameCasts(result, impl.CastResult{Code: result.Code}) {
				t.Errorf("%.400s: %s", wholeCast(c.c), textOfCast(result))
			}
			codes[result.Code]++
		}
		if told := impl.ToldOf(c.c, c.at); told.Code != impl.OK && told.Value != 0 {
			t.Errorf("%.400s: %+v", wholeCast(c.c), told)
		}
	}
	checkCodes(t, "a call", codes, impl.OK, impl.ErrForm, impl.ErrMany, impl.ErrRange, impl.ErrNone, impl.ErrTaken, impl.ErrSign)
}
