package tests

import (
	"fmt"
	"math"
	"slices"
	"testing"

	"loop.example/g00338/impl"
)

// logWords puts the words of each statement behind one another: it is asked of statements without a fault.
func logWords(list ...impl.Statement) []int64 {
	var words []int64
	for _, x := range list {
		piece := wordsOf(x)
		words = append(words, piece[:]...)
	}
	return words
}

// rawWords has the last word that goes with the others, also where they are no statement's.
func rawWords(x impl.Statement) []int64 {
	last := (x.Kind + 3*x.Epoch + 7*x.Form + 11*x.Set + 13*x.Next) % 251
	return []int64{x.Kind, x.Epoch, x.Form, x.Set, x.Next, last}
}

// manySaid has count statements, no two of them alike, of all kinds and epochs.
func manySaid(count int) []impl.Statement {
	var list []impl.Statement
	for i := range int64(count) {
		epoch := i%9 + 1
		switch i % 4 {
		case 0:
			list = append(list, issue(epoch, i/9%4+1, i*6%255+1))
		case 1:
			list = append(list, next(epoch, i/9))
		case 2:
			list = append(list, revoke(epoch, i/9%4+1, 255-i))
		default:
			list = append(list, take(epoch, i/9))
		}
	}
	return list
}

// endsWithZero are statements whose last word is 0, of each kind that has such: where one is torn, zeros look like the rest of it.
func endsWithZero() []impl.Statement {
	var list []impl.Statement
	for _, epoch := range []int64{1, 2, 5, 9} {
		for form := int64(1); form <= 4; form++ {
			for set := int64(1); set < allSets; set++ {
				for _, x := range said(issue(epoch, form, set), revoke(epoch, form, set)) {
					if wordsOf(x)[5] == 0 {
						list = append(list, x)
					}
				}
			}
		}
	}
	return list
}

// wantRead takes six words after six off, as long as they are those of a statement in all.
func wantRead(all map[[6]int64]impl.Statement, words []int64) impl.SaidResult {
	if len(words) > 240 {
		return impl.SaidResult{Code: impl.ErrMany}
	}
	var list []impl.Statement
	for len(words) >= 6 {
		x, whole := all[[6]int64(words)]
		if !whole {
			break
		}
		list, words = append(list, x), words[6:]
	}
	return impl.SaidResult{Said: list}
}

func wantRecovered(id int64, configs []impl.Config, list []impl.Statement) impl.ReplicaResult { // the configs and id have no fault
	m := newTeller(configs)
	for _, x := range list {
		if slices.Contains(m.said, x) || m.say(x) != impl.OK {
			break
		}
	}
	return impl.ReplicaResult{Replica: m.replica(id, int64(len(m.said)))}
}

func sameSaid(a impl.SaidResult, b impl.SaidResult) bool {
	return a.Code == b.Code && slices.Equal(a.Said, b.Said)
}

// checkRead asks ReadLog and WholeIn, which count the same.
func checkRead(t *testing.T, name string, words []int64, want impl.SaidResult) {
	t.Helper()
	if got := impl.ReadLog(words); !sameSaid(got, want) {
		t.Errorf("%s: ReadLog of %d words %.300s = %.300s, want %.300s", name, len(words), fmt.Sprint(words), fmt.Sprint(got), fmt.Sprint(want))
	}
	if got := impl.WholeIn(words); got != (impl.IntResult{Code: want.Code, Value: 6 * int64(len(want.Said))}) {
		t.Errorf("%s: WholeIn of %d words %.300s = %+v, want code %d and 6 times %d", name, len(words), fmt.Sprint(words), got, want.Code, len(want.Said))
	}
}

func checkPacked(t *testing.T, name string, list []impl.Statement, want impl.IntsResult) {
	t.Helper()
	if got := impl.PackLog(list); !sameLists(got, want) {
		t.Errorf("%s: PackLog of %d = %+v, want %+v", name, len(list), got, want)
	}
}

func checkLog(t *testing.T, name string, r impl.Replica, configs []impl.Config, want impl.IntsResult) {
	t.Helper()
	if got := impl.LogOf(r, configs); !sameLists(got, want) {
		t.Errorf("%s: LogOf %.400s = %+v, want %+v", name, fmt.Sprintf("%+v", r), got, want)
	}
}

func checkRecovered(t *testing.T, name string, id int64, configs []impl.Config, words []int64, want impl.ReplicaResult) {
	t.Helper()
	if got := impl.RecoverReplica(id, configs, words); !sameReplicas(got, want) {
		t.Errorf("%s: RecoverReplica %d of %d words %.400s = %.600s, want %.600s", name, id, len(words), fmt.Sprint(words), fmt.Sprintf("%+v", got), fmt.Sprintf("%+v", want))
	}
}

func TestManySaidAreApart(t *testing.T) {
	list := manySaid(41)
	for place, x := range list {
		if code := wantStatementFault(x); code != impl.OK || slices.Contains(list[:place], x) {
			t.Errorf("%d: %+v has fault %d, or stands there twice", place, x, code)
		}
	}
	if kinds := len(endsWithZero()); kinds < 8 {
		t.Errorf("only %d statements end with 0", kinds)
	}
}

func TestPackLogPutsWordsBehindOneAnother(t *testing.T) {
	checkPacked(t, "nil", nil, impl.IntsResult{})
	checkPacked(t, "empty", []impl.Statement{}, impl.IntsResult{})
	checkPacked(t, "by hand", said(issue(1, 2, 5), next(3, 7)), impl.IntsResult{List: []int64{1, 1, 2, 5, 0, 73, 3, 3, 0, 0, 7, 103}})
	for count := range 41 {
		list := manySaid(count)
		var want []int64
		for _, x := range list {
			want = append(want, impl.PackStatement(x).List...)
		}
		if !slices.Equal(want, logWords(list...)) {
			t.Fatalf("PackStatement tells %v", want)
		}
		checkPacked(t, fmt.Sprint(count), list, impl.IntsResult{List: want})
	}
	x := issue(9, 4, 255)
	checkPacked(t, "one three times", said(x, x, x), impl.IntsResult{List: logWords(x, x, x)})
	checkPacked(t, "one forty times", slices.Repeat(said(x), 40), impl.IntsResult{List: slices.Repeat(logWords(x), 40)})
	for _, x := range statementsByText() {
		words := wordsOf(x)
		if got := impl.PackLog(said(x)); !sameLists(got, impl.IntsResult{List: words[:]}) {
			t.Fatalf("PackLog of %+v = %+v", x, got)
		}
	}
}

func TestPackLogOfTooMany(t *testing.T) {
	many := impl.IntsResult{Code: impl.ErrMany}
	checkPacked(t, "41", manySaid(41), many)
	checkPacked(t, "41 of one", slices.Repeat(said(take(1, 1)), 41), many)
	checkPacked(t, "100000 that are none", make([]impl.Statement, 100000), many)
	for _, c := range wrongStatements() { // how many there are is asked ahead of each fault
		for _, place := range []int{0, 20, 40} {
			list := manySaid(41)
			list[place] = c.x
			checkPacked(t, fmt.Sprint("41, at ", place, " ", c.name), list, many)
		}
	}
}

func TestPackLogTellsTheFirstFault(t *testing.T) {
	wrong := wrongStatements()
	for i, c := range wrong {
		checkPacked(t, c.name, said(c.x), impl.IntsResult{Code: c.want})
		for _, place := range []int{0, 1, 17, 39} {
			list := manySaid(40)
			list[place] = c.x
			checkPacked(t, fmt.Sprint(c.name, " at ", place), list, impl.IntsResult{Code: c.want})
			for behind := place + 1; behind < 40; behind += 7 {
				both := slices.Clone(list)
				both[behind] = wrong[(i+behind)%len(wrong)].x
				checkPacked(t, fmt.Sprint(c.name, " at ", place, ", another one at ", behind), both, impl.IntsResult{Code: c.want})
			}
		}
	}
	form, far := impl.Statement{}, issue(0, 1, 1)
	checkPacked(t, "out of bounds, then none", said(far, form), impl.IntsResult{Code: impl.ErrRange})
	checkPacked(t, "none, then out of bounds", said(form, far), impl.IntsResult{Code: impl.ErrForm})
}

func TestReadLogOfWholeLogs(t *testing.T) { // P12
	checkRead(t, "nil", nil, impl.SaidResult{})
	checkRead(t, "empty", []int64{}, impl.SaidResult{})
	for count := range 41 {
		list := manySaid(count)
		checkRead(t, fmt.Sprint(count), logWords(list...), impl.SaidResult{Said: list})
		if got := impl.ReadLog(impl.PackLog(list).List); !sameSaid(got, impl.SaidResult{Said: list}) {
			t.Errorf("%d statements are read back as %+v", count, got)
		}
	}
	for _, x := range statementsByText() {
		words := wordsOf(x)
		if got := impl.ReadLog(words[:]); !sameSaid(got, impl.SaidResult{Said: said(x)}) {
			t.Fatalf("ReadLog(%v) = %+v", words, got)
		}
	}
}

func TestReadLogTellsWhatStandsThereTwice(t *testing.T) {
	a, b := issue(1, 1, 1), take(1, 1)
	for _, list := range [][]impl.Statement{{a, a}, {a, b, a}, {a, b, b, a, a}, slices.Repeat(said(b), 40)} {
		checkRead(t, "twice", logWords(list...), impl.SaidResult{Said: list})
	}
}

func TestHowManyWordsAreRead(t *testing.T) {
	many := impl.SaidResult{Code: impl.ErrMany}
	whole := logWords(manySaid(40)...)
	checkRead(t, "240", whole, impl.SaidResult{Said: manySaid(40)})
	checkRead(t, "241", append(slices.Clone(whole), 0), many)
	checkRead(t, "241 of more statements", logWords(manySaid(41)...)[:241], many)
	checkRead(t, "246", logWords(manySaid(41)...), many)
	checkRead(t, "241 that are none", make([]int64, 241), many)
	checkRead(t, "240 that are none", make([]int64, 240), impl.SaidResult{})
	checkRead(t, "240 behind another end", append(slices.Clone(whole), 1, 2, 3, 4, 5, 6)[:240], impl.SaidResult{Said: manySaid(40)})
	checkRead(t, "a statement and 234 zeros", append(logWords(next(1, 1)), make([]int64, 234)...), impl.SaidResult{Said: said(next(1, 1))})
	checkRead(t, "a statement and 235 zeros", append(logWords(next(1, 1)), make([]int64, 235)...), many)
	checkRead(t, "a word and 40 statements", append([]int64{1}, whole...), many)
	checkRead(t, "100000", make([]int64, 100000), many)
}

func TestLogsCutAtEveryWord(t *testing.T) { // P12
	logs := [][]impl.Statement{manySaid(40), slices.Repeat(endsWithZero(), 5)[:40], slices.Repeat(said(next(1, 0), take(9, 0)), 20)}
	for _, list := range logs {
		words := logWords(list...)
		for cut := range len(words) + 1 {
			want := impl.SaidResult{Said: list[:cut/6]}
			checkRead(t, fmt.Sprint("cut at ", cut), words[:cut], want) // the rest stands behind its end
			checkRead(t, fmt.Sprint("cut and copied at ", cut), slices.Clip(slices.Clone(words[:cut])), want)
		}
	}
}

func TestTornStatementsThatEndWithZero(t *testing.T) { // P12: the words that are missing are no zeros
	for _, x := range endsWithZero() {
		words := wordsOf(x)
		for count := range 6 {
			checkRead(t, "torn", slices.Clone(words[:count]), impl.SaidResult{})
			torn := append(logWords(next(2, 1)), words[:count]...)
			checkRead(t, "torn behind a whole one", torn, impl.SaidResult{Said: said(next(2, 1))})
		}
		checkRead(t, "whole", words[:], impl.SaidResult{Said: said(x)})
		filled := append(slices.Clone(words[:5]), 0)
		checkRead(t, "filled by a zero", filled, impl.SaidResult{Said: said(x)})
	}
}

func TestTornBehindTheSameOne(t *testing.T) { // P12: the words that are missing are not those of the statement ahead
	for _, x := range manySaid(8) {
		words := wordsOf(x)
		for count := range 6 {
			checkRead(t, "torn", append(logWords(x, x), words[:count]...), impl.SaidResult{Said: said(x, x)})
		}
	}
}

func TestWordsThatBeginWithNoStatement(t *testing.T) {
	whole := logWords(manySaid(5)...)
	for _, c := range wrongStatements() {
		checkRead(t, c.name, rawWords(c.x), impl.SaidResult{})
		checkRead(t, c.name+", whole ones behind", append(rawWords(c.x), whole...), impl.SaidResult{})
	}
	for _, list := range [][]int64{{0}, {1}, {1, 1, 1, 1, 0}, {0, 0, 0, 0, 0, 0}, {1, 1, 2, 5, 0, 74}, {math.MinInt64, math.MaxInt64, 0, 0, 0, 0}, {1, 1, 1, 1, 0, 22 + 251}, {1, 1, 1, 1, 0, 22 - 251}} {
		checkRead(t, "none", list, impl.SaidResult{})
		checkRead(t, "none, whole ones behind", append(slices.Clone(list), whole...), impl.SaidResult{})
	}
}

func TestWholeBehindBrokenIsNotReached(t *testing.T) { // P12
	list := manySaid(20)
	words := logWords(list...)
	for place := range list {
		for at := range 6 {
			for _, by := range []int64{1, -1, 250, 252, 1 << 32, math.MinInt64} {
				broken := slices.Clone(words)
				broken[6*place+at] += by
				want := impl.SaidResult{Said: list[:place]}
				checkRead(t, fmt.Sprint("word ", at, " of ", place, " broken by ", by), broken, want)
			}
		}
		missing := slices.Delete(slices.Clone(words), 6*place, 6*place+1)
		checkRead(t, fmt.Sprint("a word of ", place, " missing"), missing, impl.SaidResult{Said: list[:place]})
		more := slices.Insert(slices.Clone(words), 6*place, 0)
		checkRead(t, fmt.Sprint("a zero ahead of ", place), more, impl.SaidResult{Said: list[:place]})
	}
}

func TestAWordChangedToThatOfAnotherStatement(t *testing.T) { // 251 leaves the same of both sets: the words are whole
	words := logWords(take(1, 1), issue(2, 1, 3), next(2, 2))
	words[9] = 254
	checkRead(t, "a set and 251", words, impl.SaidResult{Said: said(take(1, 1), issue(2, 1, 254), next(2, 2))})
}

func TestLogsWithAWordChanged(t *testing.T) { // P12
	all := statementsByWords()
	list := slices.Concat(manySaid(9), endsWithZero()[:3])
	words := logWords(list...)
	numbers := []int64{math.MinInt64, -251, -1, 0, 1, 2, 3, 4, 5, 7, 8, 9, 10, 250, 251, 252, 255, 256, math.MaxInt64}
	for place := range words {
		for _, n := range numbers {
			for _, to := range []int64{n, words[place] + n} {
				changed := slices.Clone(words)
				changed[place] = to
				want := wantRead(all, changed)
				checkRead(t, fmt.Sprint("word ", place, " is ", to), changed, want)
				if ahead := place / 6; len(want.Said) < ahead || !slices.Equal(want.Said[:ahead], list[:ahead]) {
					t.Fatalf("what stands ahead of word %d is not told: %+v", place, want)
				}
			}
		}
		swapped := slices.Clone(words)
		swapped[place], swapped[(place+5)%len(words)] = words[(place+5)%len(words)], words[place]
		checkRead(t, fmt.Sprint("word ", place, " swapped"), swapped, wantRead(all, swapped))
	}
}

// tornWords are pieces one behind the other, most of them whole: each answer of ReadLog comes of some.
func (d *dice) tornWords(x func() impl.Statement) []int64 {
	var words []int64
	for range d.below(12) {
		piece := rawWords(x())
		switch d.below(24) {
		case 0:
			piece = piece[:d.below(6)]
		case 1:
			piece[d.below(6)] += d.below(7) - 3
		case 2:
			piece[3] ^= 1 << d.below(9)
		case 3:
			piece = make([]int64, d.below(8))
		}
		words = append(words, piece...)
	}
	return words[:int64(len(words))-min(d.below(9), int64(len(words)))]
}

func TestManyTornLogs(t *testing.T) { // P12
	all := statementsByWords()
	d := dice(121)
	lengths := map[int64]int{}
	for range 20000 {
		words := d.tornWords(d.statement)
		want := wantRead(all, words)
		checkRead(t, "torn", words, want)
		lengths[int64(len(want.Said))]++
		if t.Failed() {
			t.FailNow()
		}
	}
	checkCodes(t, "how many are whole", lengths, 0, 1, 2, 3, 4, 5, 6, 7, 8, 9, 10, 11)
}

func TestLogOfIsWhatIsSure(t *testing.T) { // P12
	for _, r := range someReplicas() {
		for sure := range int64(len(r.Said)) + 1 {
			r.Sure = sure
			checkLog(t, fmt.Sprint("sure ", sure), r, house(), impl.IntsResult{List: logWords(r.Said[:sure]...)})
		}
	}
	full := impl.Replica{Id: 4, Sure: 40, Said: revokes(40)}
	checkLog(t, "40 of 40", full, house(), impl.IntsResult{List: logWords(revokes(40)...)})
	for id := int64(1); id <= 7; id++ {
		checkLog(t, "a new one", impl.NewReplica(id).Replica, tower(), impl.IntsResult{})
	}
}

type logFault struct {
	name    string
	r       impl.Replica
	configs []impl.Config
	want    int64
}

// logFaults has each code of ReplicaFault, and ahead of which others it is told.
func logFaults() []logFault {
	good := impl.Replica{Id: 1, Sure: 1, Said: said(issue(2, 2, 1)), Locks: []impl.Lock{lock(2, 0, 1, 2)}}
	turned := func(turn func(r *impl.Replica)) impl.Replica {
		r := copyReplica(good)
		turn(&r)
		return r
	}
	otherF := house()
	otherF[3].F = 2
	return []logFault{
		{"no configs", good, nil, impl.ErrMany},
		{"no configs, a wrong id", impl.Replica{}, []impl.Config{}, impl.ErrMany},
		{"9 configs", good, slices.Repeat(house()[:1], 9), impl.ErrMany},
		{"another F", good, otherF, impl.ErrForm},
		{"another F, all else wrong", impl.Replica{Id: 9, Sure: -1, Said: revokes(41)}, otherF, impl.ErrForm},
		{"id 0", turned(func(r *impl.Replica) { r.Id = 0 }), house(), impl.ErrRange},
		{"id 5 of four", turned(func(r *impl.Replica) { r.Id = 5 }), house(), impl.ErrRange},
		{"id 8 of seven", impl.Replica{Id: 8}, tower(), impl.ErrRange},
		{"sure -1", turned(func(r *impl.Replica) { r.Sure = -1 }), house(), impl.ErrRange},
		{"sure 2 of 1", turned(func(r *impl.Replica) { r.Sure = 2 }), house(), impl.ErrRange},
		{"a great sure", turned(func(r *impl.Replica) { r.Sure = math.MaxInt64 }), house(), impl.ErrRange},
		{"a low sure", turned(func(r *impl.Replica) { r.Sure = math.MinInt64 }), house(), impl.ErrRange},
		{"sure 1 of none", impl.Replica{Id: 1, Sure: 1}, house(), impl.ErrRange},
		{"41 said, sure 42", impl.Replica{Id: 1, Sure: 42, Said: revokes(41)}, house(), impl.ErrRange},
		{"41 said, none sure", impl.Replica{Id: 1, Said: revokes(41)}, house(), impl.ErrMany},
		{"41 said, 41 sure", impl.Replica{Id: 1, Sure: 41, Said: revokes(41)}, house(), impl.ErrMany},
		{"no locks", turned(func(r *impl.Replica) { r.Locks = nil }), house(), impl.ErrState},
		{"other locks", turned(func(r *impl.Replica) { r.Locks[0].Form = 3 }), house(), impl.ErrState},
		{"said twice", turned(func(r *impl.Replica) { r.Said = append(r.Said, r.Said[0]) }), house(), impl.ErrState},
		{"what is not sure cannot be said", turned(func(r *impl.Replica) { r.Said = append(r.Said, issue(2, 3, 1)) }), house(), impl.ErrState},
		{"what is not sure has a fault", turned(func(r *impl.Replica) { r.Said = append(r.Said, impl.Statement{}) }), house(), impl.ErrState},
		{"what is sure has a fault", turned(func(r *impl.Replica) { r.Said[0].Set = 256 }), house(), impl.ErrState},
		{"what is sure has a fault of form", turned(func(r *impl.Replica) { r.Said[0].Next = 1 }), house(), impl.ErrState},
	}
}

func TestLogOfAReplicaWithAFault(t *testing.T) {
	for _, c := range logFaults() {
		if got := impl.ReplicaFault(c.r, c.configs); got != c.want {
			t.Errorf("%s: ReplicaFault = %d", c.name, got)
		}
		checkLog(t, c.name, c.r, c.configs, impl.IntsResult{Code: c.want})
	}
	for _, c := range wrongConfigs() {
		for place := range 8 {
			configs := tower()
			configs[place] = c.config
			checkLog(t, fmt.Sprint(c.name, " at ", place), impl.Replica{Id: 1}, configs, impl.IntsResult{Code: c.want})
			checkLog(t, fmt.Sprint(c.name, " at ", place, ", all else wrong"), impl.Replica{Sure: -1, Said: revokes(41)}, configs, impl.IntsResult{Code: c.want})
		}
	}
}

func TestRecoverOfTooManyWords(t *testing.T) { // ErrMany is asked ahead of the configurations and the id
	many := impl.ReplicaResult{Code: impl.ErrMany}
	wrong := house()
	wrong[2].Epoch = 0
	otherF := house()
	otherF[6].F = 2
	lists := [][]int64{make([]int64, 241), append(logWords(revokes(40)...), 0), logWords(revokes(41)...), make([]int64, 100000)}
	for _, words := range lists {
		for _, configs := range [][]impl.Config{house(), wrong, otherF, nil} {
			for _, id := range []int64{1, 0, 5, 8} {
				checkRecovered(t, "too many words", id, configs, words, many)
			}
		}
	}
	checkRecovered(t, "240 words", 1, house(), logWords(revokes(40)...), wantRecovered(1, house(), revokes(40)))
	if got := impl.RecoverReplica(1, house(), logWords(revokes(40)...)); got.Replica.Sure != 40 || len(got.Replica.Said) != 40 {
		t.Errorf("of 40 statements %d are sure", got.Replica.Sure)
	}
	checkRecovered(t, "240 zeros", 1, house(), make([]int64, 240), impl.ReplicaResult{Replica: impl.Replica{Id: 1}})
}

// logsToTry have no words, whole ones and torn ones: codes of configurations and ids are told with each of them.
func logsToTry() [][]int64 {
	return [][]int64{nil, {}, {1, 2, 3}, make([]int64, 6), logWords(issue(2, 1, 1)), logWords(issue(2, 1, 1), issue(2, 1, 1)), logWords(issue(9, 4, 255)), logWords(manySaid(40)...)}
}

func TestRecoverByWrongConfigs(t *testing.T) {
	for _, words := range logsToTry() {
		for _, id := range []int64{1, 0, 8, math.MinInt64} { // the configurations are asked ahead of the id
			checkRecovered(t, "no configs", id, nil, words, impl.ReplicaResult{Code: impl.ErrMany})
			checkRecovered(t, "empty configs", id, []impl.Config{}, words, impl.ReplicaResult{Code: impl.ErrMany})
			checkRecovered(t, "9 configs", id, slices.Repeat(house()[:1], 9), words, impl.ReplicaResult{Code: impl.ErrMany})
			checkRecovered(t, "9 wrong configs", id, make([]impl.Config, 9), words, impl.ReplicaResult{Code: impl.ErrMany})
			for place := 1; place < 8; place++ {
				configs := tower()
				configs[place].F = 1
				checkRecovered(t, "another F", id, configs, words, impl.ReplicaResult{Code: impl.ErrForm})
			}
		}
	}
	for i, c := range wrongConfigs() {
		for place := range 8 {
			configs := tower()
			configs[place] = c.config
			words := logsToTry()[i%len(logsToTry())]
			checkRecovered(t, fmt.Sprint(c.name, " at ", place), 1, configs, words, impl.ReplicaResult{Code: c.want})
			checkRecovered(t, fmt.Sprint(c.name, " at ", place, ", id 0"), 0, configs, words, impl.ReplicaResult{Code: c.want})
		}
	}
	first, then := tower(), tower() // config by config
	first[2].F, first[5].Epoch = 1, 0
	checkRecovered(t, "another F, then an epoch", 0, first, nil, impl.ReplicaResult{Code: impl.ErrForm})
	then[2].Epoch, then[5].F = 0, 1
	checkRecovered(t, "an epoch, then another F", 9, then, nil, impl.ReplicaResult{Code: impl.ErrRange})
	checkRecovered(t, "8 configs", 7, tower(), nil, impl.ReplicaResult{Replica: impl.Replica{Id: 7}})
	checkRecovered(t, "1 config", 4, house()[:1], nil, impl.ReplicaResult{Replica: impl.Replica{Id: 4}})
}

func TestRecoverOfEachId(t *testing.T) {
	list := said(issue(2, 2, 1), next(2, 1))
	for f := int64(1); f <= 2; f++ {
		configs := withF(house(), f)
		for id := int64(-2); id <= 10; id++ {
			want := impl.ReplicaResult{Code: impl.ErrRange}
			if id >= 1 && id <= 3*f+1 {
				want = wantRecovered(id, configs, list)
			}
			checkRecovered(t, fmt.Sprint("F ", f), id, configs, logWords(list...), want)
		}
		for _, id := range noIds {
			for _, words := range logsToTry() {
				checkRecovered(t, fmt.Sprint("F ", f), id, configs, words, impl.ReplicaResult{Code: impl.ErrRange})
			}
		}
	}
}

func TestRecoverByHand(t *testing.T) {
	a, b, c := issue(2, 2, 1), issue(2, 3, 6), revoke(2, 1, 64)
	locksOfA := []impl.Lock{lock(2, 0, 1, 2)}
	locksOfBoth := []impl.Lock{lock(2, 0, 1, 2), lock(2, 0, 2, 3), lock(2, 0, 3, 3)}
	cases := []struct {
		name  string
		words []int64
		said  []impl.Statement
		locks []impl.Lock
	}{
		{"nothing", nil, nil, nil},
		{"one", logWords(a), said(a), locksOfA},
		{"three", logWords(a, b, c), said(a, b, c), locksOfBoth},
		{"the second one torn", logWords(a, b)[:11], said(a), locksOfA},
		{"the first one torn", logWords(a, b)[:5], nil, nil},
		{"the first word missing", logWords(a, b)[1:], nil, nil},
		{"twice at once", logWords(a, a, b), said(a), locksOfA},
		{"twice behind others", logWords(a, b, c, a, revoke(2, 1, 1)), said(a, b, c), locksOfBoth},
		{"the last one twice", logWords(a, b, b), said(a, b), locksOfBoth},
		{"of the class of another one", logWords(a, issue(2, 3, 1), c), said(a), locksOfA},
		{"of the class of another one in part", logWords(a, issue(2, 3, 7), c), said(a), locksOfA},
		{"not allowed", logWords(a, issue(2, 1, 2), c), said(a), locksOfA},
		{"of no epoch that is known", logWords(a, issue(3, 1, 2), take(2, 1)), said(a), locksOfA},
		{"an issue behind its epoch", logWords(a, next(2, 1), b, take(2, 1)), said(a, next(2, 1)), locksOfA},
		{"a second next", logWords(next(2, 1), next(2, 2), a), said(next(2, 1)), nil},
		{"no place of configs", logWords(c, next(2, 7), a), said(c), nil},
		{"a place of another epoch", logWords(c, take(2, 3), a), said(c), nil},
		{"a code at once", logWords(issue(9, 1, 1), a), nil, nil},
	}
	for _, k := range cases {
		want := impl.Replica{Id: 3, Sure: int64(len(k.said)), Said: k.said, Locks: k.locks}
		checkRecovered(t, k.name, 3, house(), k.words, impl.ReplicaResult{Replica: want})
	}
}

func TestRecoverUpToTheFirstCode(t *testing.T) { // P12
	for _, c := range allCases() {
		list := c.said
		if c.want == impl.OK && !slices.Contains(list, c.x) {
			list = append(slices.Clone(list), c.x, revoke(2, 4, 200))
		}
		words := slices.Concat(logWords(c.said...), rawWords(c.x), logWords(revoke(2, 4, 200)))
		checkRecovered(t, c.name, 1, house(), words, wantRecovered(1, house(), list))
		if got := impl.RecoverReplica(1, house(), words).Replica; len(got.Said) != len(list) {
			t.Errorf("%s: %d are said, want %d", c.name, len(got.Said), len(list))
		}
	}
	for _, c := range wrongStatements() {
		words := slices.Concat(logWords(issue(2, 2, 1)), rawWords(c.x), logWords(issue(2, 1, 1)))
		checkRecovered(t, c.name, 1, house(), words, wantRecovered(1, house(), said(issue(2, 2, 1))))
	}
}

func TestRecoverUpToWhatCameTwice(t *testing.T) { // P12
	for _, r := range someReplicas() {
		list := r.Said[:min(len(r.Said), 38)]
		for place, x := range list {
			for at := place + 1; at <= len(list); at++ {
				twice := append(slices.Insert(slices.Clone(list), at, x), revoke(2, 4, 200))
				want := impl.ReplicaResult{Replica: tellerOf(house(), list[:at]...).replica(2, int64(at))}
				if at%5 == place%5 || at == len(list) {
					checkRecovered(t, fmt.Sprint(place, " again at ", at), 2, house(), logWords(twice...), want)
				}
			}
		}
	}
}

func TestRecoverUpTo200Locks(t *testing.T) {
	full := append(upTo(7), issue(7, 1, 3))
	want := wantRecovered(7, tower(), full)
	if len(want.Replica.Locks) != 200 || len(want.Replica.Said) != 13 {
		t.Fatalf("%d locks by %d statements", len(want.Replica.Locks), len(want.Replica.Said))
	}
	checkRecovered(t, "200 locks", 7, tower(), logWords(full...), want)
	checkRecovered(t, "one more lock", 7, tower(), logWords(append(slices.Clone(full), issue(7, 1, 4), revoke(1, 1, 1))...), want)
	more := append(slices.Clone(full), issue(7, 1, 2), revoke(1, 1, 1))
	checkRecovered(t, "no more locks", 7, tower(), logWords(more...), wantRecovered(7, tower(), more))
}

// checkStandsBy asks of a replica without a fault that it comes back from its log with all that was sure.
func checkStandsBy(t *testing.T, r impl.Replica, configs []impl.Config) {
	t.Helper()
	log := impl.LogOf(r, configs)
	sure := r.Said[:r.Sure]
	if log.Code != impl.OK || !slices.Equal(log.List, logWords(sure...)) {
		t.Fatalf("LogOf %+v = %+v", r, log)
	}
	got := impl.RecoverReplica(r.Id, configs, log.List)
	want := tellerOf(configs, sure...).replica(r.Id, r.Sure)
	if !sameReplicas(got, impl.ReplicaResult{Replica: want}) {
		t.Fatalf("%+v comes back as %+v", r, got)
	}
	if crashed := impl.CrashReplica(r, configs, 0); !sameReplicas(got, crashed) {
		t.Fatalf("%+v comes back as %+v, and behind a crash it is %+v", r, got, crashed)
	}
	if code := impl.ReplicaFault(got.Replica, configs); code != impl.OK {
		t.Fatalf("%+v comes back with fault %d", r, code)
	}
	if again := impl.LogOf(got.Replica, configs); !sameLists(again, log) {
		t.Fatalf("the log %v is %v behind it", log.List, again)
	}
}

func TestReplicasComeBackFromTheirLogs(t *testing.T) { // P12
	for _, r := range someReplicas() {
		for sure := range int64(len(r.Said)) + 1 {
			r.Sure = sure
			checkStandsBy(t, r, house())
		}
	}
	full := tellerOf(tower(), append(upTo(7), issue(7, 1, 3))...)
	for sure := range int64(len(full.said)) + 1 {
		checkStandsBy(t, full.replica(5, sure), tower())
	}
}

func TestLivesThatComeBackFromTheirLogs(t *testing.T) { // P12
	back := 0
	for seed := range int64(30) {
		d := dice(seed + 1200)
		r := impl.NewReplica(seed%4 + 1).Replica
		for range 80 {
			switch d.below(12) {
			case 0, 1:
				r = impl.SyncReplica(r, house()).Replica
			case 2:
				r = impl.RecoverReplica(r.Id, house(), impl.LogOf(r, house()).List).Replica
				back++
			default:
				if got := impl.Endorse(r, house(), d.talk()); got.Code == impl.OK {
					r = got.Replica
				}
			}
			checkStandsBy(t, r, house())
		}
	}
	if back < 100 {
		t.Errorf("they came back %d times only", back)
	}
}

func TestWhoComesBackSaysWhatGoesWithIt(t *testing.T) { // P12: the locks and the seals hold behind it
	r := impl.SyncReplica(replicaOf(t, house(), issue(2, 2, 1), next(2, 1)), house()).Replica
	back := impl.RecoverReplica(1, house(), impl.LogOf(r, house()).List).Replica
	if !impl.SealedIn(back, 2) || impl.MayEndorse(back, house(), issue(2, 1, 1)) != impl.ErrOld || impl.MayEndorse(back, house(), next(2, 2)) != impl.ErrTaken {
		t.Errorf("%+v is not sealed", back)
	}
	r = impl.SyncReplica(replicaOf(t, house(), issue(2, 2, 1)), house()).Replica
	back = impl.RecoverReplica(1, house(), impl.LogOf(r, house()).List).Replica
	if got := impl.MayEndorse(back, house(), issue(2, 3, 1)); got != impl.ErrTaken {
		t.Errorf("another form of the class has code %d", got)
	}
	unsure := replicaOf(t, house(), issue(2, 2, 1))
	back = impl.RecoverReplica(1, house(), impl.LogOf(unsure, house()).List).Replica
	if got := impl.MayEndorse(back, house(), issue(2, 3, 1)); got != impl.OK || len(back.Said) != 0 {
		t.Errorf("what was not sure is there: %+v", back)
	}
}

func TestRecoverFromLogsCutAtEveryWord(t *testing.T) { // P12
	for _, r := range someReplicas() {
		words := logWords(r.Said...)
		for cut := range len(words) + 1 {
			if cut > 60 && cut%7 != 0 {
				continue
			}
			left := r.Said[:cut/6]
			want := tellerOf(house(), left...).replica(r.Id, int64(len(left)))
			checkRecovered(t, fmt.Sprint("cut at ", cut), r.Id, house(), words[:cut], impl.ReplicaResult{Replica: want})
		}
	}
}

func TestManyRecovered(t *testing.T) { // P12: also from words that no replica's log has
	all := statementsByWords()
	d := dice(122)
	lengths := map[int64]int{}
	for range 2000 {
		m := newTeller(house())
		words := d.tornWords(func() impl.Statement {
			x := d.talk()
			for range 12 { // most of what stands there is new and can be said
				if m.code(x) == impl.OK && !slices.Contains(m.said, x) {
					break
				}
				x = d.talk()
			}
			m.say(x)
			return x
		})
		id := d.below(4) + 1
		want := wantRecovered(id, house(), wantRead(all, words).Said)
		checkRecovered(t, "many", id, house(), words, want)
		lengths[int64(len(want.Replica.Said))]++
		if t.Failed() {
			t.FailNow()
		}
	}
	checkCodes(t, "how many are said", lengths, 0, 1, 2, 3, 4, 5, 6, 7, 8)
}

type recordCase struct {
	id      int64
	said    []impl.Statement
	words   []int64
	r       impl.Replica
	configs []impl.Config
}

// recordsToKeep has each code of each function in some of them.
func recordsToKeep() []recordCase {
	var all []recordCase
	for i, r := range someReplicas() {
		words := logWords(r.Said...)
		all = append(all, recordCase{r.Id, r.Said, words, r, house()})
		all = append(all, recordCase{r.Id, append(slices.Clone(r.Said), r.Said...), words[:len(words)-len(words)/4], r, house()})
		all = append(all, recordCase{r.Id + 3, append(slices.Clone(r.Said), wrongStatements()[i].x), append(slices.Clone(words[len(words)/2:]), words...), r, house()})
		all = append(all, recordCase{r.Id, r.Said, append(slices.Clone(words), logWords(issue(2, 2, 1), issue(2, 3, 1))...), r, tower()})
	}
	for i, c := range logFaults() {
		all = append(all, recordCase{c.r.Id, c.r.Said, logsToTry()[i%len(logsToTry())], c.r, c.configs})
	}
	all = append(all, recordCase{}, recordCase{1, manySaid(41), make([]int64, 241), impl.Replica{Id: 1}, house()})
	d := dice(123)
	for range 60 {
		all = append(all, recordCase{d.below(6), manySaid(int(d.below(42))), d.tornWords(d.talk), impl.Replica{Id: d.below(6)}, house()})
	}
	return all
}

func (c recordCase) copied() recordCase {
	return recordCase{
		c.id, append(slices.Clone(c.said), issue(7, 7, 7))[:len(c.said)], append(slices.Clone(c.words), 77, 78)[:len(c.words)],
		copyReplica(c.r), copyConfigs(c.configs),
	}
}

// whole tells all that is in the memory of what is handed in, also behind the ends of lists.
func (c recordCase) whole() string {
	return fmt.Sprint(c.id, len(c.said), c.said[:cap(c.said)], len(c.words), c.words[:cap(c.words)], wholeReplica(c.r), wholeConfigs(c.configs))
}

type recordAnswers struct {
	packed, log impl.IntsResult
	read        impl.SaidResult
	recovered   impl.ReplicaResult
	whole       impl.IntResult
}

func (c recordCase) answers() recordAnswers {
	return recordAnswers{
		packed: impl.PackLog(c.said), log: impl.LogOf(c.r, c.configs), read: impl.ReadLog(c.words),
		recovered: impl.RecoverReplica(c.id, c.configs, c.words), whole: impl.WholeIn(c.words),
	}
}

func (a recordAnswers) spoil() {
	spoil(a.packed.List, -8)
	spoil(a.log.List, -8)
	spoil(a.read.Said, impl.Statement{Kind: -8})
	spoil(a.recovered.Replica.Said, impl.Statement{Kind: -8})
	spoil(a.recovered.Replica.Locks, impl.Lock{Form: -8})
}

func (c recordCase) spoil() {
	spoil(c.said, impl.Statement{Kind: -7})
	spoil(c.words, -7)
	replicaCase{r: c.r, configs: c.configs}.spoil()
}

func TestRecordsToKeepHaveEachCode(t *testing.T) {
	packs, logs, reads, recovers := map[int64]int{}, map[int64]int{}, map[int64]int{}, map[int64]int{}
	for _, c := range recordsToKeep() {
		a := c.answers()
		packs[a.packed.Code]++
		logs[a.log.Code]++
		reads[a.read.Code]++
		recovers[a.recovered.Code]++
		if a.whole.Code != a.read.Code {
			t.Errorf("WholeIn tells code %d, ReadLog %d", a.whole.Code, a.read.Code)
		}
	}
	for _, code := range []int64{impl.OK, impl.ErrForm, impl.ErrMany, impl.ErrRange} {
		if packs[code] == 0 || logs[code] == 0 || recovers[code] == 0 {
			t.Errorf("code %d is told by %d, %d and %d", code, packs[code], logs[code], recovers[code])
		}
	}
	if logs[impl.ErrState] == 0 || reads[impl.OK] == 0 || reads[impl.ErrMany] == 0 {
		t.Errorf("%v and %v are told", logs, reads)
	}
}

func TestRecordsHandedInAreUnchanged(t *testing.T) { // P1
	for _, c := range recordsToKeep() {
		given := c.copied()
		before := given.whole()
		given.answers()
		if behind := given.whole(); behind != before {
			t.Errorf("%.600s was changed to %.600s", before, behind)
		}
	}
}

func TestSameRecordsSameAnswers(t *testing.T) { // P1: nothing is kept from call to call
	var first []string
	for _, c := range recordsToKeep() {
		first = append(first, fmt.Sprint(c.answers()))
	}
	for i, c := range slices.Backward(recordsToKeep()) {
		for range 2 {
			if again := fmt.Sprint(c.copied().answers()); again != first[i] {
				t.Fatalf("%.400s: first %.400s, then %.400s", c.whole(), first[i], again)
			}
		}
	}
}

func TestRecordsShareNoMemory(t *testing.T) { // P1
	for _, c := range recordsToKeep() {
		want := fmt.Sprint(c.answers())
		given := c.copied()
		one, two := given.answers(), given.answers()
		one.spoil()
		if fmt.Sprint(two) != want || fmt.Sprint(given.answers()) != want {
			t.Fatalf("two answers of %.400s share memory, or an answer and what was handed in", c.whole())
		}
		given.spoil()
		if fmt.Sprint(two) != want {
			t.Fatalf("what was answered for %.400s changes with what was handed in", c.whole())
		}
		spoil(two.recovered.Replica.Said, impl.Statement{Kind: -8})
		if got := two.recovered.Replica.Locks; !slices.Equal(got, c.answers().recovered.Replica.Locks) {
			t.Fatalf("two lists of one answer share memory: %+v", got)
		}
	}
}
