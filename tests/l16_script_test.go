package tests

import (
	"fmt"
	"regexp"
	"slices"
	"strings"
	"sync"
	"testing"
	"unsafe"

	"loop.example/g00338/impl"
)

// wantWords goes byte by byte.
func wantWords(line string) []string {
	var words []string
	inside := false
	for place := range len(line) {
		if line[place] == ' ' {
			inside = false
			continue
		}
		if !inside {
			words, inside = append(words, ""), true
		}
		words[len(words)-1] += line[place : place+1]
	}
	return words
}

var (
	orderForm = regexp.MustCompile(`^(?:(ask|forge) ([0-9]) ([^ ].*)|(all|check) (.+)|(sync) ([0-9])|(crash) ([0-9]) ([0-9])|(show))$`)
	blankForm = regexp.MustCompile(` +`)
	lineForm  = regexp.MustCompile(`[^\n]*\n|[^\n]+$`)
	saidTexts = sync.OnceValue(statementsByText)
)

var reasonTexts = []string{"accepted", "malformed", "too many", "out of range", "none", "unreadable", "taken", "not signed", "not allowed", "revoked", "wrong epoch"}

func (w *world) show() string {
	text := ""
	for at, id := range w.ids {
		text += fmt.Sprintf("replica %d %d %d %d\n", id, w.sure[at], len(w.tellers[at].said), len(w.tellers[at].locks))
	}
	for _, x := range wantSigned(w.cluster()) {
		text += "signed " + textOfSaid(x) + "\n"
	}
	return text
}

func (w *world) check(x impl.Statement) (string, int64) {
	made := wantMade(w.configs, w.shares, x)
	if made.Code != impl.OK {
		return "", made.Code
	}
	return reasonTexts[wantAccepted(w.configs, w.shares, made.Wallet)], impl.OK
}

// textOfSaid is told no text but of statements without a fault.
func textOfSaid(x impl.Statement) string {
	word := [5]string{"", "issue", "revoke", "next", "take"}[x.Kind]
	if x.Kind <= impl.SayRevoke {
		return fmt.Sprintf("%s %d %d %s", word, x.Epoch, x.Form, textOfSet(int(x.Set)))
	}
	return fmt.Sprintf("%s %d %d", word, x.Epoch, x.Next)
}

// line tells what is said, and which code there is; where there is one the world stays as it was.
func (w *world) line(line string) (string, int64) {
	line = strings.Trim(blankForm.ReplaceAllString(line, " "), " ")
	if line == "" {
		return "", impl.OK
	}
	read := orderForm.FindStringSubmatch(line)
	if read == nil {
		return "", impl.ErrText
	}
	text := read[3] + read[5]
	x, there := saidTexts()[text]
	if text != "" && !there {
		return "", impl.ErrText
	}
	number := func(place int) int64 { return int64(read[place][0] - '0') }
	switch read[1] + read[4] + read[6] + read[8] + read[11] {
	case "ask":
		return "ok", w.ask(number(2), x)
	case "forge":
		return "ok", w.forge(share(number(2), x))
	case "all":
		return "ok", w.askAll(x)
	case "check":
		return w.check(x)
	case "sync":
		return "ok", w.sync(number(7))
	case "crash":
		return "ok", w.crash(number(9), number(10))
	}
	return w.show(), impl.OK
}

// desk is a cluster that is told lines, beside its fault as the tests work it out, once for all lines.
type desk struct {
	c     impl.Cluster
	fault int64
}

func deskOf(c impl.Cluster) desk {
	return desk{c, wantClusterFault(c)}
}

func (k desk) step(line string) impl.ScriptResult {
	if k.fault != impl.OK {
		return impl.ScriptResult{Code: k.fault}
	}
	w := worldOf(k.c)
	text, code := w.line(line)
	if code != impl.OK {
		return impl.ScriptResult{Code: code}
	}
	return impl.ScriptResult{Cluster: w.cluster(), Said: text}
}

func (k desk) run(text string) impl.ScriptResult {
	if k.fault != impl.OK {
		return impl.ScriptResult{Code: k.fault}
	}
	lines := lineForm.FindAllString(text, -1)
	if len(text) >= 1201 || len(lines) >= 41 {
		return impl.ScriptResult{Code: impl.ErrMany}
	}
	w := worldOf(k.c)
	all := ""
	for _, line := range lines {
		said, code := w.line(strings.TrimSuffix(line, "\n"))
		switch {
		case code != impl.OK:
			all += fmt.Sprintf("! %d\n", code)
		case said != "":
			all += strings.TrimSuffix(said, "\n") + "\n"
		}
	}
	return impl.ScriptResult{Cluster: w.cluster(), Said: all}
}

func (k desk) show() impl.TextResult {
	if k.fault != impl.OK {
		return impl.TextResult{Code: k.fault}
	}
	return impl.TextResult{Text: worldOf(k.c).show()}
}

func (k desk) check(x impl.Statement) impl.TextResult {
	if k.fault != impl.OK {
		return impl.TextResult{Code: k.fault}
	}
	text, code := worldOf(k.c).check(x)
	return impl.TextResult{Code: code, Text: text}
}

func sameScripts(a impl.ScriptResult, b impl.ScriptResult) bool {
	return a.Code == b.Code && a.Said == b.Said && sameClusters(impl.ClusterResult{Cluster: a.Cluster}, impl.ClusterResult{Cluster: b.Cluster})
}

func textOfScript(r impl.ScriptResult) string {
	return fmt.Sprintf("code %d, said %q, %s", r.Code, r.Said, textOfCluster(r.Cluster))
}

// told holds what StepScript answers against what is worked out, and hands that out.
func (k desk) told(t *testing.T, name string, line string) impl.ScriptResult {
	t.Helper()
	want, got := k.step(line), impl.StepScript(k.c, line)
	if !sameScripts(got, want) {
		t.Errorf("%s: StepScript(%s, %q) = %s, want %s", name, textOfCluster(k.c), line, textOfScript(got), textOfScript(want))
	}
	return want
}

func (k desk) ran(t *testing.T, name string, text string) impl.ScriptResult {
	t.Helper()
	want, got := k.run(text), impl.RunScript(k.c, text)
	if !sameScripts(got, want) {
		t.Errorf("%s: RunScript(%s, %q) = %s, want %s", name, textOfCluster(k.c), text, textOfScript(got), textOfScript(want))
	}
	return want
}

// checkStep asks for the code and for what is said as well as for what is worked out, so that neither can be wrong alone.
func (k desk) checkStep(t *testing.T, line string, code int64, said string) impl.Cluster {
	t.Helper()
	want := k.told(t, "by hand", line)
	if want.Code != code || want.Said != said {
		t.Errorf("%q of %s is worked out as %d %q, not %d %q", line, textOfCluster(k.c), want.Code, want.Said, code, said)
	}
	return want.Cluster
}

func (k desk) checkRun(t *testing.T, name string, text string, said string) impl.Cluster {
	t.Helper()
	want := k.ran(t, name, text)
	if want.Code != impl.OK || want.Said != said {
		t.Errorf("%s: %q of %s is worked out as %d %q, not %q", name, text, textOfCluster(k.c), want.Code, want.Said, said)
	}
	return want.Cluster
}

func (k desk) checkTooMany(t *testing.T, name string, text string) {
	t.Helper()
	if want := k.ran(t, name, text); want.Code != impl.ErrMany {
		t.Errorf("%s: %q is worked out as %d", name, text, want.Code)
	}
}

func (k desk) checkShow(t *testing.T, name string, text string) {
	t.Helper()
	want, got := k.show(), impl.ClusterText(k.c)
	if want != (impl.TextResult{Text: text}) {
		t.Errorf("%s: the text of %s is worked out as %+v, not %q", name, textOfCluster(k.c), want, text)
	}
	if got != want {
		t.Errorf("%s: ClusterText(%s) = %+v, want %+v", name, textOfCluster(k.c), got, want)
	}
}

func (k desk) checkCheck(t *testing.T, name string, x impl.Statement, code int64, text string) {
	t.Helper()
	want, got := k.check(x), impl.CheckText(k.c, x)
	if want != (impl.TextResult{Code: code, Text: text}) {
		t.Errorf("%s: the check of %+v by %s is worked out as %+v, not %d %q", name, x, textOfCluster(k.c), want, code, text)
	}
	if got != want {
		t.Errorf("%s: CheckText(%s, %+v) = %+v, want %+v", name, textOfCluster(k.c), x, got, want)
	}
}

// someLines have all commands, and what is none: to a cluster with a fault they are all the same.
func someLines() []string {
	return []string{
		"ask 1 issue 2 2 {1}", "ask 0 take 2 1", "all revoke 2 1 {1}", "all take 9 7", "forge 4 next 2 1", "forge 3 next 2 1", "forge 9 take 2 1",
		"sync 1", "sync 9", "crash 1 0", "crash 9 9", "check issue 2 2 {1}", "check next 2 1", "show",
		"", " ", "wink", "show\n", "\n", "ask 1 issue 0 0 {}", "sync 12", "sync -1",
	}
}

func someScripts() []string {
	lines := someLines()
	return []string{
		"", "\n", "show", "show\n", "wink\n", strings.Join(lines, "\n"), strings.Repeat("\n", 40), strings.Repeat("\n", 41), strings.Repeat(" ", 1200), strings.Repeat(" ", 1201),
		strings.Repeat("sync 1\n", 200),
	}
}

// checkUnscripted asks that the fault of a cluster is told ahead of all else.
func checkUnscripted(t *testing.T, name string, c impl.Cluster, code int64) {
	t.Helper()
	if want := wantClusterFault(c); want != code || code == impl.OK {
		t.Errorf("%s: the fault of %s is worked out as %d, not %d", name, textOfCluster(c), want, code)
	}
	for _, line := range someLines() {
		if got := impl.StepScript(c, line); !sameScripts(got, impl.ScriptResult{Code: code}) {
			t.Errorf("%s: StepScript(%s, %q) = %s, want code %d", name, textOfCluster(c), line, textOfScript(got), code)
		}
	}
	for _, text := range someScripts() {
		if got := impl.RunScript(c, text); !sameScripts(got, impl.ScriptResult{Code: code}) {
			t.Errorf("%s: RunScript(%s, %q) = %s, want code %d", name, textOfCluster(c), text, textOfScript(got), code)
		}
	}
	if got := impl.ClusterText(c); got != (impl.TextResult{Code: code}) {
		t.Errorf("%s: ClusterText(%s) = %+v, want code %d", name, textOfCluster(c), got, code)
	}
	for _, x := range said(issue(2, 2, 1), issue(9, 1, 1), revoke(2, 2, 1), next(2, 1), take(2, 1), issue(0, 1, 1), impl.Statement{}) {
		if got := impl.CheckText(c, x); got != (impl.TextResult{Code: code}) {
			t.Errorf("%s: CheckText(%s, %+v) = %+v, want code %d", name, textOfCluster(c), x, got, code)
		}
	}
}

func TestScriptsOfFaults(t *testing.T) { // the ClusterFault is ahead of all else, in each of its kinds and in its order
	base := township(t, 2)
	flaws := clusterFlaws()
	for i, one := range flaws {
		checkUnscripted(t, one.name, turnedCluster(base, one.turn), one.code)
		for _, two := range flaws[i+1:] {
			c := copyCluster(base)
			two.turn(&c) // the other way about there may be no list left to turn
			one.turn(&c)
			checkUnscripted(t, one.name+", and "+two.name, c, one.code)
		}
	}
	checkUnscripted(t, "nothing", impl.Cluster{}, impl.ErrMany)
}

func TestScriptsOfFaultsByTheirKinds(t *testing.T) {
	codes := map[int64]int{}
	for f := int64(1); f <= 2; f++ {
		base := township(t, f)
		check := func(name string, code int64, turn func(*impl.Cluster)) {
			t.Helper()
			checkUnscripted(t, name, turnedCluster(base, turn), code)
			codes[code]++
		}
		for _, k := range badCases(f) {
			check(k.name, k.code, func(c *impl.Cluster) { c.Bad = k.bad })
		}
		for _, k := range wrongConfigs() {
			check(k.name, wantConfigsFault([]impl.Config{k.config}), func(c *impl.Cluster) { c.Configs = []impl.Config{k.config} })
		}
		for code, turns := range replicaTurns() {
			for _, turn := range turns {
				check("a replica", code, func(c *impl.Cluster) { turn(&c.Replicas[f]) })
			}
		}
		for _, k := range wrongStatements() {
			check(k.name, k.want, func(c *impl.Cluster) { c.Shares = append(c.Shares, share(c.Bad[0], k.x)) })
		}
		check("no replicas", impl.ErrForm, func(c *impl.Cluster) { c.Replicas = nil })
		check("a bad one among the replicas", impl.ErrForm, func(c *impl.Cluster) { c.Replicas[0].Id = c.Bad[0] })
		check("121 shares", impl.ErrMany, func(c *impl.Cluster) { c.Shares = distinctShares(121) })
		check("a share that nobody stands by", impl.ErrSign, func(c *impl.Cluster) { c.Shares = append(c.Shares, share(c.Replicas[0].Id, issue(2, 1, 1))) })
		check("a take unseen", impl.ErrSign, func(c *impl.Cluster) { c.Replicas[2].Said = append(c.Replicas[2].Said, take(2, 2)) })
		check("a share of a take", impl.ErrForm, func(c *impl.Cluster) { c.Shares = append(c.Shares, share(c.Bad[0], take(2, 1))) })
		check("a share twice", impl.ErrTaken, func(c *impl.Cluster) { c.Shares = append(c.Shares, c.Shares[1]) })
	}
	checkCodes(t, "a fault", codes, impl.ErrForm, impl.ErrMany, impl.ErrRange, impl.ErrState)
}

func checkWords(t *testing.T, line string, words ...string) {
	t.Helper()
	if want := wantWords(line); !slices.Equal(want, words) {
		t.Errorf("the words of %.300q are worked out as %.300q, not %.300q", line, want, words)
	}
	if got := impl.WordsOf(line); got.Code != impl.OK || !slices.Equal(got.Words, words) {
		t.Errorf("WordsOf(%.300q) = %d %.300q, want %.300q", line, got.Code, got.Words, words)
	}
}

func TestWordsOfByHand(t *testing.T) {
	checkWords(t, "")
	checkWords(t, " ")
	checkWords(t, "     ")
	checkWords(t, "a", "a")
	checkWords(t, "show", "show")
	checkWords(t, " show", "show")
	checkWords(t, "show ", "show")
	checkWords(t, "   show   ", "show")
	checkWords(t, "a b", "a", "b")
	checkWords(t, " a  b ", "a", "b")
	checkWords(t, "    crash 1    2", "crash", "1", "2")
	checkWords(t, "ask 1 issue 2 2 {1,3}", "ask", "1", "issue", "2", "2", "{1,3}")
	checkWords(t, "a a  a   a", "a", "a", "a", "a")
	checkWords(t, "{1, 3}", "{1,", "3}")
	checkWords(t, "\t", "\t") // what is no blank stands in a word, whatever it is
	checkWords(t, " a\tb\nc ", "a\tb\nc")
	checkWords(t, "\n", "\n")
	checkWords(t, "show\n", "show\n")
	checkWords(t, "\n show", "\n", "show")
	checkWords(t, "\r\n \v \f \x00", "\r\n", "\v", "\f", "\x00")
	checkWords(t, "\u00a0\u2003 \u3000", "\u00a0\u2003", "\u3000")
	checkWords(t, "é ß 漢字", "é", "ß", "漢字")
	checkWords(t, "\x80 \xff\xfe \xc3 \xa0", "\x80", "\xff\xfe", "\xc3", "\xa0")
	checkWords(t, "\x1f \x21", "\x1f", "!")
	checkWords(t, "\xc3 \xa9", "\xc3", "\xa9") // a blank between the bytes of a rune
	for _, count := range []int{1, 2, 40, 600, 1199, 1200, 1201, 20000} {
		checkWords(t, strings.Repeat(" ", count))
		checkWords(t, strings.Repeat("w", count), strings.Repeat("w", count))
		checkWords(t, strings.Repeat(" ", count)+"w", "w")
		checkWords(t, "w"+strings.Repeat(" ", count)+"v", "w", "v")
		checkWords(t, strings.Repeat("w ", count), slices.Repeat([]string{"w"}, count)...)
		checkWords(t, strings.Repeat("  \xe9", count), slices.Repeat([]string{"\xe9"}, count)...)
	}
	for b := range 256 {
		if one := string([]byte{byte(b)}); b != ' ' {
			checkWords(t, one, one)
			checkWords(t, " "+one+one+"  "+one, one+one, one)
		}
	}
}

func TestWordsOfAllShortLines(t *testing.T) {
	letters := []string{" ", "a", "1", "\t", "\n", "\xa0"}
	lines := []string{""}
	for range 5 {
		for _, line := range lines {
			for _, letter := range letters {
				if len(line) < 5 {
					lines = append(lines, line+letter)
				}
			}
		}
		slices.Sort(lines)
		lines = slices.Compact(lines)
	}
	if len(lines) != 1+6+36+216+1296+7776 {
		t.Fatalf("%d lines", len(lines))
	}
	for _, line := range lines {
		got := impl.WordsOf(line)
		if got.Code != impl.OK || !slices.Equal(got.Words, wantWords(line)) {
			t.Fatalf("WordsOf(%q) = %+v", line, got)
		}
		if strings.Join(got.Words, "") != strings.ReplaceAll(line, " ", "") {
			t.Fatalf("something of %q is not in %q", line, got.Words)
		}
		for _, word := range got.Words {
			if word == "" || strings.Contains(word, " ") {
				t.Fatalf("%q of %q is no word", word, line)
			}
		}
	}
}

func TestClusterTextByHand(t *testing.T) {
	for f := int64(1); f <= 2; f++ {
		for _, bad := range badOnes(f) {
			text := ""
			for _, id := range goodOf(f, bad...) {
				text += fmt.Sprintf("replica %d 0 0 0\n", id)
			}
			c := impl.NewCluster(withF(house(), f), bad).Cluster
			deskOf(c).checkShow(t, "a new one", text)
			for _, id := range bad { // who is bad is no replica, and what is not signed is not told
				c = done(t, c, forges(id, next(9, 7)), forges(id, issue(2, 2, 1)))
			}
			deskOf(c).checkShow(t, "what is forged is not signed", text)
		}
	}
	deskOf(township(t, 1)).checkShow(t, "the township of four",
		"replica 1 5 6 4\nreplica 2 3 4 1\nreplica 4 3 4 1\n"+
			"signed issue 2 2 {1}\nsigned revoke 2 4 {1,4}\nsigned next 2 1\n")
	deskOf(township(t, 2)).checkShow(t, "the township of seven",
		"replica 1 6 7 4\nreplica 3 4 5 1\nreplica 4 4 5 1\nreplica 6 5 5 1\nreplica 7 4 4 1\n"+
			"signed revoke 2 1 {1,2}\nsigned issue 2 2 {1}\nsigned revoke 2 4 {1,4}\nsigned next 2 1\n")
	deskOf(crowd(120, 40)).checkShow(t, "a crowd", "replica 1 0 40 0\nreplica 2 0 0 0\nreplica 3 0 0 0\nreplica 4 0 0 0\nreplica 5 0 0 0\n")
}

func TestClusterTextStepByStep(t *testing.T) {
	c := impl.NewCluster(house(), nil).Cluster
	for _, k := range []struct {
		deed deed
		text string
	}{
		{asks(2, revoke(2, 4, 255)), "replica 1 0 0 0\nreplica 2 0 1 0\nreplica 3 0 0 0\nreplica 4 0 0 0\n"}, // without a lock
		{asks(2, issue(2, 3, 7)), "replica 1 0 0 0\nreplica 2 0 2 3\nreplica 3 0 0 0\nreplica 4 0 0 0\n"},    // with one for each of three
		{crashes(2, 1), "replica 1 0 0 0\nreplica 2 1 1 0\nreplica 3 0 0 0\nreplica 4 0 0 0\n"},              // it is sure of what is left, without a share
		{asks(3, revoke(2, 4, 255)), "replica 1 0 0 0\nreplica 2 1 1 0\nreplica 3 0 1 0\nreplica 4 0 0 0\n"},
		{asks(4, revoke(2, 4, 255)), "replica 1 0 0 0\nreplica 2 1 1 0\nreplica 3 0 1 0\nreplica 4 0 1 0\n"},
		{syncs(4), "replica 1 0 0 0\nreplica 2 1 1 0\nreplica 3 0 1 0\nreplica 4 1 1 0\n"},
		{asks(4, issue(2, 2, 2)), "replica 1 0 0 0\nreplica 2 1 1 0\nreplica 3 0 1 0\nreplica 4 1 2 1\n"},
		{asksAll(issue(2, 2, 4)), "replica 1 1 1 1\nreplica 2 2 2 1\nreplica 3 2 2 1\nreplica 4 3 3 2\nsigned revoke 2 4 {1,2,3,4,5,6,7,8}\nsigned issue 2 2 {3}\n"},
		{asksAll(issue(2, 3, 1)), "replica 1 2 2 2\nreplica 2 3 3 2\nreplica 3 3 3 2\nreplica 4 4 4 3\n" +
			"signed revoke 2 4 {1,2,3,4,5,6,7,8}\nsigned issue 2 2 {3}\nsigned issue 2 3 {1}\n"},
	} {
		c = after(t, c, k.deed)
		deskOf(c).checkShow(t, k.deed.name, k.text)
	}
}

func TestClusterTextOfManyLocks(t *testing.T) { // in numbers of several digits: eight of a set have four classes in each epoch
	c := impl.NewCluster(tower(), []int64{1, 7}).Cluster
	text := ""
	for _, step := range climb(1, 6) {
		c = done(t, c, asksAll(issue(step.Epoch, 2, 255)), asksAll(step), asksAll(take(step.Epoch, step.Next)))
		text += fmt.Sprintf("signed issue %d 2 {1,2,3,4,5,6,7,8}\nsigned next %d %d\n", step.Epoch, step.Epoch, step.Next)
	}
	ahead := ""
	for id := 2; id <= 6; id++ {
		ahead += fmt.Sprintf("replica %d 18 18 192\n", id)
	}
	deskOf(c).checkShow(t, "the tower", ahead+text)
}

func TestClusterTextInTheOrderOfSignedOf(t *testing.T) { // by first shares, not by what is signed first
	for f := int64(1); f <= 2; f++ {
		list := said(revoke(2, 4, 8), next(2, 2), issue(2, 2, 2), revoke(2, 1, 1), issue(2, 3, 5))
		for by := range list {
			turned := slices.Concat(list[by:], list[:by])
			c := impl.NewCluster(withF(house(), f), []int64{3}).Cluster
			text := ""
			for _, x := range turned {
				c = done(t, c, forges(3, x))
				text += "signed " + textOfSaid(x) + "\n"
			}
			for _, x := range list {
				if x.Kind != impl.SayNext {
					c = done(t, c, asksAll(x))
				}
			}
			c = done(t, c, asksAll(next(2, 2)))
			if got := impl.ClusterText(c); !strings.HasSuffix(got.Text, "\n"+text) || strings.Count(got.Text, "signed") != len(list) {
				t.Errorf("%+v, want %q at the end", got, text)
			}
			if want := deskOf(c).show(); impl.ClusterText(c) != want {
				t.Errorf("%+v, want %+v", impl.ClusterText(c), want)
			}
		}
	}
}

func TestCheckTextByHand(t *testing.T) {
	for f := int64(1); f <= 2; f++ {
		k := deskOf(township(t, f))
		k.checkCheck(t, "signed", issue(2, 2, 1), impl.OK, "accepted")
		k.checkCheck(t, "signed by one alone", issue(2, 3, 6), impl.ErrSign, "")
		k.checkCheck(t, "said by one who is not sure", issue(3, 1, 2), impl.ErrSign, "")
		k.checkCheck(t, "revoked, but never issued", issue(2, 4, 9), impl.ErrSign, "")
		k.checkCheck(t, "not allowed", issue(2, 2, 3), impl.ErrSign, "")
		k.checkCheck(t, "an epoch that is not reached", issue(4, 1, 1), impl.ErrState, "")
		k.checkCheck(t, "an epoch below", issue(1, 2, 1), impl.ErrState, "")
		k.checkCheck(t, "forged, of an epoch that is not reached", issue(9, 4, 255), impl.ErrState, "")
		for _, x := range said(revoke(2, 4, 9), revoke(2, 2, 1), revoke(9, 1, 1), next(2, 1), next(2, 2), next(9, 7), take(2, 1), take(9, 7)) {
			k.checkCheck(t, "no issue, be it signed or not", x, impl.ErrForm, "")
		}
		for _, wrong := range wrongStatements() {
			k.checkCheck(t, wrong.name, wrong.x, wrong.want, "")
		}
		gone := deskOf(done(t, k.c, asksAll(revoke(2, 2, 1))))
		gone.checkCheck(t, "revoked", issue(2, 2, 1), impl.OK, "revoked")
		gone.checkCheck(t, "the revoke", revoke(2, 2, 1), impl.ErrForm, "")
		for _, x := range said(revoke(2, 2, 3), revoke(2, 3, 1), revoke(2, 1, 1)) {
			other := deskOf(done(t, k.c, asksAll(x)))
			other.checkCheck(t, "something else is revoked", issue(2, 2, 1), impl.OK, "accepted")
		}
		good := goodOf(f, k.c.Bad...)
		few := done(t, k.c, asks(good[0], revoke(2, 2, 1)), syncs(good[0]))
		for _, id := range k.c.Bad {
			few = done(t, few, forges(id, revoke(2, 2, 1)))
		}
		deskOf(few).checkCheck(t, "revoked by too few", issue(2, 2, 1), impl.OK, "accepted")
	}
}

func TestCheckTextBySigners(t *testing.T) { // just from as many on as have to sign, be they bad or not
	for f := int64(1); f <= 2; f++ {
		for _, bad := range badOnes(f) {
			c := impl.NewCluster(withF(house(), f), bad).Cluster
			x, gone := issue(2, 3, 5), revoke(2, 3, 5)
			for count, id := range turned(listOfSet(1<<(3*f+1)-1), 1) {
				c = done(t, c, signs(c, id, x)...)
				if int64(count)+1 <= 2*f {
					deskOf(c).checkCheck(t, "too few", x, impl.ErrSign, "")
				} else {
					deskOf(c).checkCheck(t, "enough", x, impl.OK, "accepted")
				}
			}
			for count, id := range turned(listOfSet(1<<(3*f+1)-1), 2) {
				c = done(t, c, signs(c, id, gone)...)
				want := "accepted"
				if int64(count)+1 > 2*f {
					want = "revoked"
				}
				deskOf(c).checkCheck(t, "revoked", x, impl.OK, want)
			}
		}
	}
}

func TestCheckTextOfEachEpoch(t *testing.T) { // behind as many steps as lead there
	for f := int64(1); f <= 2; f++ {
		for _, way := range waysInTheHouse() {
			c := impl.NewCluster(withF(house(), f), []int64{2}).Cluster
			list := said(issue(2, 2, 2))
			c = done(t, c, asksAll(list[0]))
			for _, step := range way.steps {
				x := issue(step.Epoch+1, 1, 1<<step.Next) // what the place it leads to allows, and no other one of its epoch
				deskOf(c).checkCheck(t, "ahead of the step", x, impl.ErrState, "")
				c = done(t, c, asksAll(step))
				deskOf(c).checkCheck(t, "ahead of the take", x, impl.ErrSign, "")
				c = done(t, c, asksAll(take(step.Epoch, step.Next)), asksAll(x))
				list = append(list, x)
			}
			for _, x := range list {
				deskOf(c).checkCheck(t, "each epoch", x, impl.OK, "accepted")
			}
			last := list[len(list)-1]
			c = done(t, c, asksAll(revoke(last.Epoch, last.Form, last.Set)))
			deskOf(c).checkCheck(t, "the last one", last, impl.OK, "revoked")
			if len(list) > 1 {
				deskOf(c).checkCheck(t, "the one ahead", list[len(list)-2], impl.OK, "accepted")
			}
		}
	}
	c := impl.NewCluster(tower(), []int64{1, 7}).Cluster
	for _, step := range climb(1, 7) {
		c = done(t, c, asksAll(step), asksAll(take(step.Epoch, step.Next)))
	}
	c = done(t, c, asksAll(issue(8, 2, 255)))
	deskOf(c).checkCheck(t, "the longest way", issue(8, 2, 255), impl.OK, "accepted")
	deskOf(c).checkCheck(t, "beyond it", issue(9, 2, 255), impl.ErrState, "")
}

func TestStepScriptByHand(t *testing.T) {
	k := deskOf(township(t, 1)) // 3 is bad
	show := "replica 1 5 6 4\nreplica 2 3 4 1\nreplica 4 3 4 1\nsigned issue 2 2 {1}\nsigned revoke 2 4 {1,4}\nsigned next 2 1\n"
	for _, c := range []struct {
		line string
		code int64
		said string
	}{
		{"ask 1 issue 3 2 {1}", impl.OK, "ok"},
		{"ask 2 issue 3 2 {3}", impl.OK, "ok"},
		{"ask 4 issue 2 2 {1}", impl.OK, "ok"}, // it said it already
		{"ask 4 issue 2 3 {1,2,3}", impl.ErrOld, ""},
		{"ask 4 issue 3 2 {1}", impl.ErrNone, ""}, // it knows no configuration of that epoch
		{"ask 1 issue 3 2 {2}", impl.ErrTaken, ""},
		{"ask 1 issue 3 1 {1}", impl.ErrPolicy, ""},
		{"ask 1 issue 3 4 {1}", impl.ErrPolicy, ""},
		{"ask 3 issue 2 2 {1}", impl.ErrNone, ""},
		{"ask 0 issue 2 2 {1}", impl.ErrNone, ""},
		{"ask 5 issue 2 2 {1}", impl.ErrNone, ""},
		{"ask 9 issue 2 2 {1}", impl.ErrNone, ""},
		{"ask 1 revoke 3 1 {2}", impl.OK, "ok"},
		{"ask 2 revoke 2 4 {1,2,3,4,5,6,7,8}", impl.OK, "ok"},
		{"ask 4 revoke 3 1 {2}", impl.ErrNone, ""},
		{"ask 1 next 3 3", impl.OK, "ok"},
		{"ask 2 next 3 6", impl.OK, "ok"},
		{"ask 4 next 2 1", impl.OK, "ok"},
		{"ask 4 next 2 2", impl.ErrTaken, ""},
		{"ask 1 next 3 7", impl.ErrRange, ""},
		{"ask 1 next 3 1", impl.ErrState, ""},
		{"ask 4 next 3 3", impl.ErrNone, ""},
		{"ask 4 take 2 1", impl.OK, "ok"},
		{"ask 1 take 2 1", impl.OK, "ok"},
		{"ask 4 take 2 2", impl.ErrSign, ""},
		{"ask 1 take 3 7", impl.ErrSign, ""}, // ahead of the place that is not there
		{"ask 3 take 2 2", impl.ErrNone, ""}, // ahead of what is not signed
		{"ask 9 take 9 7", impl.ErrNone, ""},
		{"all issue 2 2 {1}", impl.OK, "ok"}, // all said it, and are sure of all else then
		{"all issue 3 2 {1}", impl.OK, "ok"},
		{"all issue 9 4 {8}", impl.OK, "ok"}, // nobody knows of it
		{"all revoke 2 2 {1}", impl.OK, "ok"},
		{"all next 2 2", impl.OK, "ok"},
		{"all next 3 3", impl.OK, "ok"},
		{"all take 2 1", impl.OK, "ok"},
		{"all take 2 2", impl.OK, "ok"},
		{"forge 3 issue 2 3 {2,3}", impl.OK, "ok"},
		{"forge 3 issue 9 4 {1,2,3,4,5,6,7,8}", impl.OK, "ok"}, // it is there
		{"forge 3 revoke 1 1 {1}", impl.OK, "ok"},
		{"forge 3 next 9 7", impl.OK, "ok"},
		{"forge 3 take 2 1", impl.ErrForm, ""},
		{"forge 1 issue 2 2 {1}", impl.ErrSign, ""}, // it is there, but 1 is not bad
		{"forge 4 next 2 2", impl.ErrSign, ""},
		{"forge 2 revoke 2 2 {1}", impl.ErrSign, ""},
		{"forge 1 take 2 1", impl.ErrForm, ""}, // ahead of who is not bad
		{"forge 0 issue 2 2 {1}", impl.ErrRange, ""},
		{"forge 5 next 2 2", impl.ErrRange, ""},
		{"forge 9 take 2 1", impl.ErrRange, ""}, // ahead of what is a take
		{"sync 1", impl.OK, "ok"},
		{"sync 2", impl.OK, "ok"},
		{"sync 4", impl.OK, "ok"},
		{"sync 3", impl.ErrNone, ""},
		{"sync 0", impl.ErrNone, ""},
		{"sync 5", impl.ErrNone, ""},
		{"sync 9", impl.ErrNone, ""},
		{"crash 1 0", impl.OK, "ok"},
		{"crash 1 1", impl.OK, "ok"},
		{"crash 2 0", impl.OK, "ok"},
		{"crash 1 2", impl.ErrRange, ""},
		{"crash 4 9", impl.ErrRange, ""},
		{"crash 3 0", impl.ErrNone, ""},
		{"crash 0 0", impl.ErrNone, ""},
		{"crash 9 9", impl.ErrNone, ""}, // ahead of how many are kept
		{"check issue 2 2 {1}", impl.OK, "accepted"},
		{"check issue 2 3 {2,3}", impl.ErrSign, ""},
		{"check issue 3 1 {2}", impl.ErrSign, ""},
		{"check issue 4 1 {2}", impl.ErrState, ""}, // ahead of what is not signed
		{"check issue 9 4 {1,2,3,4,5,6,7,8}", impl.ErrState, ""},
		{"check revoke 2 4 {1,4}", impl.ErrForm, ""},
		{"check next 2 1", impl.ErrForm, ""},
		{"check take 9 7", impl.ErrForm, ""},
		{"show", impl.OK, show},
		{"", impl.OK, ""},
		{" ", impl.OK, ""},
		{"                    ", impl.OK, ""},
		{"wink", impl.ErrText, ""},
	} {
		got := k.checkStep(t, c.line, c.code, c.said)
		if words := wantWords(c.line); c.code == impl.OK && (len(words) == 0 || words[0] == "check" || words[0] == "show") && !sameClusters(impl.ClusterResult{Cluster: got}, impl.ClusterResult{Cluster: k.c}) {
			t.Errorf("%q changes %s to %s", c.line, textOfCluster(k.c), textOfCluster(got))
		}
	}
}

func TestStepScriptDoesWhatItsCallDoes(t *testing.T) { // each command by each kind of statement, told by lines and by calls
	saids := map[string]impl.Statement{
		"issue 2 2 {1}": issue(2, 2, 1), "issue 2 3 {1,2,3}": issue(2, 3, 7), "issue 3 1 {2}": issue(3, 1, 2), "issue 3 2 {3}": issue(3, 2, 4), "issue 9 4 {1,2,3,4,5,6,7,8}": issue(9, 4, 255),
		"revoke 2 2 {1}": revoke(2, 2, 1), "revoke 2 4 {1,4}": revoke(2, 4, 9), "revoke 9 1 {8}": revoke(9, 1, 128),
		"next 2 1": next(2, 1), "next 2 2": next(2, 2), "next 3 3": next(3, 3), "next 9 7": next(9, 7), "next 3 0": next(3, 0),
		"take 2 1": take(2, 1), "take 2 2": take(2, 2), "take 3 3": take(3, 3), "take 9 0": take(9, 0),
	}
	codes := map[int64]int{}
	for f := int64(1); f <= 2; f++ {
		c := township(t, f)
		hold := func(line string, call impl.ClusterResult) {
			t.Helper()
			want := impl.ScriptResult{Code: call.Code, Cluster: call.Cluster}
			if call.Code == impl.OK {
				want.Said = "ok"
			}
			if got := impl.StepScript(c, line); !sameScripts(got, want) {
				t.Errorf("%q of %s = %s, want %s", line, textOfCluster(c), textOfScript(got), textOfScript(want))
			}
			codes[call.Code]++
		}
		for n := range int64(10) {
			for text, x := range saids {
				hold(fmt.Sprintf("ask %d %s", n, text), impl.AskCluster(c, n, x))
				hold(fmt.Sprintf("forge %d %s", n, text), impl.ForgeCluster(c, share(n, x)))
			}
			hold(fmt.Sprintf("sync %d", n), impl.SyncCluster(c, n))
			for kept := range int64(10) {
				hold(fmt.Sprintf("crash %d %d", n, kept), impl.CrashCluster(c, n, kept))
			}
		}
		for text, x := range saids {
			hold("all "+text, impl.AskAll(c, x))
			check := impl.CheckText(c, x)
			want := impl.ScriptResult{Code: check.Code, Said: check.Text}
			if check.Code == impl.OK {
				want.Cluster = c
			}
			if got := impl.StepScript(c, "check "+text); !sameScripts(got, want) {
				t.Errorf("check %q = %s, want %s", text, textOfScript(got), textOfScript(want))
			}
		}
	}
	checkCodes(t, "a line", codes, impl.OK, impl.ErrForm, impl.ErrRange, impl.ErrNone, impl.ErrTaken, impl.ErrSign, impl.ErrOld)
}

func TestStepScriptUpToItsBounds(t *testing.T) {
	full := deskOf(crowd(120, 39))
	full.checkStep(t, "ask 1 revoke 2 3 {1}", impl.OK, "ok")
	full.checkStep(t, "sync 1", impl.ErrMany, "")
	full.checkStep(t, "sync 2", impl.OK, "ok")
	full.checkStep(t, "forge 6 next 2 1", impl.ErrMany, "")
	full.checkStep(t, "forge 7 take 2 1", impl.ErrForm, "")
	full.checkStep(t, "forge 6 revoke 9 1 {1}", impl.OK, "ok") // it is there
	full.checkStep(t, "all revoke 2 3 {1}", impl.OK, "ok")     // there is no room: nobody says it
	full.checkStep(t, "crash 1 9", impl.OK, "ok")
	said40 := deskOf(crowd(119, 40))
	said40.checkStep(t, "ask 1 revoke 2 3 {1}", impl.ErrMany, "")
	said40.checkStep(t, "ask 1 revoke 2 4 {1}", impl.OK, "ok") // it said it
	said40.checkStep(t, "ask 1 revoke 3 4 {1}", impl.ErrNone, "")
	said40.checkStep(t, "ask 1 take 2 1", impl.ErrSign, "")
	said40.checkStep(t, "forge 6 next 2 1", impl.OK, "ok")
	said40.checkStep(t, "sync 1", impl.ErrMany, "")
}

func TestLinesThatAreNone(t *testing.T) {
	lines := []string{
		"wink", "Show", "SHOW", "shows", "sho", "ok", "accepted", "!", "! 5", "replica", "replica 1 0 0 0", "signed issue 2 2 {1}", "1", "{1}", "#", "//",
		"issue 2 2 {1}", "revoke 2 2 {1}", "next 2 1", "take 2 1", "no words", "all", "ask", "forge", "sync", "crash", "check",
		"show 1", "show show", "show issue 2 2 {1}", "1 show",
		"sync", "sync 1 1", "sync 1 issue 2 2 {1}", "sync one", "sync {1}", "sync 01", "sync 10", "sync 12", "sync +1", "sync -1", "sync 1.", "sync 1,", "sync \u0661", "sync \uff11", "sync ¹", "1 sync", "sync1", "sync\t1", "sync\xa01",
		"crash 1", "crash", "crash 1 0 0", "crash 10", "crash 1 00", "crash 01 0", "crash 1 10", "crash 1 -1", "crash -1 0", "crash a 0", "crash 1 a", "crash 1 {}", "crash 1,0", "crash 1 0 issue 2 2 {1}", "0 crash 1",
		"all 1 issue 2 2 {1}", "all issue 2 2", "all issue 2 {1}", "all issue 2 2 {1} {1}", "all issue 2 2 {1} 1", "all next 2", "all next 2 1 1", "all take", "all all issue 2 2 {1}",
		"ask issue 2 2 {1}", "ask 1", "ask 1 issue", "ask 1 issue 2", "ask 1 issue 2 2", "ask 1 issue 2 2 {1} 1", "ask 1 1 issue 2 2 {1}", "ask 12 issue 2 2 {1}", "ask 01 issue 2 2 {1}", "ask x issue 2 2 {1}", "ask -1 issue 2 2 {1}", "ask {1} issue 2 2 {1}",
		"issue 2 2 {1} ask 1", "issue ask 1 2 2 {1}", "1 ask issue 2 2 {1}", "ask issue 1 2 2 {1}",
		"ask 1 2 issue 2 {1}", "ask 1 issue {1} 2 2", "ask 1 issue 2 {1} 2", "ask 1 {1} 2 2 issue", "ask 1 2 2 issue {1}", "ask 1 2 next 1", "ask 1 2 1 next", "all 2 next 1", "check {1} issue 2 2",
		"ask 1 issue 0 2 {1}", "ask 1 issue 10 2 {1}", "ask 1 issue 2 0 {1}", "ask 1 issue 2 5 {1}", "ask 1 issue 2 2 {}", "ask 1 issue 2 2 {9}", "ask 1 issue 2 2 {0}", "ask 1 issue 2 2 {2,1}", "ask 1 issue 2 2 {1,1}", "ask 1 issue 2 2 {1,}", "ask 1 issue 2 2 {1, 2}", "ask 1 issue 2 2 { 1 }", "ask 1 issue 2 2 1", "ask 1 issue 02 2 {1}", "ask 1 issue 2 02 {1}",
		"ask 1 next 0 1", "ask 1 next 10 1", "ask 1 next 2 8", "ask 1 next 2 9", "ask 1 next 2 -1", "ask 1 next 2 01", "ask 1 next 2 {1}", "ask 1 take 2 8", "ask 1 take 2", "ask 1 give 2 1", "ask 1 Issue 2 2 {1}", "ask 1 issues 2 2 {1}", "ask 1 revoked 2 2 {1}",
		"forge issue 2 2 {1}", "forge 4", "forge 44 issue 2 2 {1}", "forge 4 issue 2 2 {1} 4", "forge 4 4", "forge 4 show", "forge 4 ask 1 issue 2 2 {1}",
		"check", "check 1 issue 2 2 {1}", "check issue 2 2 {9}", "check issue 2 2 {1} now", "check show", "check accepted",
		"show\n", "\nshow", "sh\now", "\n", "\n\n", " \n ", "sync 1\n", "\nsync 1", "sync\n1", "sync \n1", "sync 1\nsync 1", "sync 1 \n", "ask 1 issue 2 2 {1}\n", "ask 1\nissue 2 2 {1}", "ask 1 issue 2 2\n{1}", "ask 1 issue 2 2 {1,\n2}",
		"show\r", "show\t", "\tshow", "show\x00", "show\v", "\u00a0show", "\ufeffshow", "show\xff", "show;", "show # all", "\"show\"",
	}
	for _, c := range []impl.Cluster{impl.NewCluster(house(), []int64{4}).Cluster, township(t, 1), township(t, 2)} {
		k := deskOf(c)
		for _, line := range lines {
			k.checkStep(t, line, impl.ErrText, "")
			if spread := "  " + strings.ReplaceAll(line, " ", "   ") + "  "; spread != line {
				k.checkStep(t, spread, impl.ErrText, "")
			}
		}
	}
}

// rightLines are of each command, by each kind of statement.
func rightLines() []string {
	return []string{
		"show", "sync 2", "crash 3 0", "ask 1 issue 2 2 {1}", "ask 2 issue 2 3 {1,2,3}", "ask 3 revoke 9 4 {2,4,8}", "ask 1 next 2 1", "ask 1 take 2 1", "all issue 2 2 {3}", "all revoke 2 1 {1}", "all next 2 2", "all take 2 7",
		"forge 4 issue 9 4 {1,2,3,4,5,6,7,8}", "forge 4 revoke 1 1 {5,6}", "forge 4 next 9 0", "forge 4 take 2 1", "check issue 2 2 {1}", "check revoke 2 2 {1}", "check next 2 1", "check take 2 1", "",
	}
}

func TestBlanksAroundWords(t *testing.T) { // however many they are, a line is told the same
	for _, c := range []impl.Cluster{impl.NewCluster(house(), []int64{4}).Cluster, township(t, 1)} {
		k := deskOf(c)
		for _, line := range rightLines() {
			want := k.told(t, "right", line)
			if want.Code == impl.ErrText {
				t.Errorf("%q cannot be read", line)
			}
			for _, ahead := range []int{0, 1, 2, 700} {
				for _, between := range []int{1, 2, 3, 400} {
					for _, behind := range []int{0, 1, 5, 2000} {
						spread := strings.Repeat(" ", ahead) + strings.ReplaceAll(line, " ", strings.Repeat(" ", between)) + strings.Repeat(" ", behind)
						if got := impl.StepScript(c, spread); !sameScripts(got, want) {
							t.Fatalf("%q is told %s, and with %d blanks ahead, %d between and %d behind %s", line, textOfScript(want), ahead, between, behind, textOfScript(got))
						}
					}
				}
			}
		}
	}
}

func TestLinesOneWordAway(t *testing.T) {
	k := deskOf(impl.NewCluster(stair(1, 2, 3, 3), []int64{4}).Cluster)
	unread, read := 0, 0
	tell := func(words []string) {
		t.Helper()
		if want := k.told(t, "a word away", strings.Join(words, " ")); want.Code == impl.ErrText {
			unread++
		} else {
			read++
		}
	}
	others := []string{"ask", "all", "forge", "sync", "crash", "check", "show", "issue", "revoke", "next", "take", "0", "1", "2", "5", "8", "9", "10", "{1}", "{1,8}", "{}", "x"}
	for _, line := range rightLines() {
		words := wantWords(line)
		for at := range words {
			tell(slices.Delete(slices.Clone(words), at, at+1))
			tell(slices.Insert(slices.Clone(words), at, words[at]))
			for to := range at {
				changed := slices.Clone(words)
				changed[at], changed[to] = changed[to], changed[at]
				tell(changed)
			}
			for _, other := range others {
				changed := slices.Clone(words)
				changed[at] = other
				tell(changed)
			}
		}
		for at := range len(words) + 1 {
			for _, other := range others {
				tell(slices.Insert(slices.Clone(words), at, other))
			}
		}
	}
	if unread < 2000 || read < 300 {
		t.Errorf("%d cannot be read, and %d can", unread, read)
	}
}

func TestLinesOneByteAway(t *testing.T) {
	k := deskOf(impl.NewCluster(stair(1, 2, 3, 3), []int64{4}).Cluster)
	unread, read := 0, 0
	tell := func(line string) {
		t.Helper()
		if want := k.told(t, "a byte away", line); want.Code == impl.ErrText {
			unread++
		} else {
			read++
		}
	}
	for _, line := range rightLines() {
		for at := range len(line) + 1 {
			for _, b := range "0129 k{,}\n\t\x00\u00a0" {
				tell(line[:at] + string(b) + line[at:])
				if at < len(line) {
					tell(line[:at] + string(b) + line[at+1:])
				}
			}
			tell(line[:at] + "\xa0" + line[at:])
			if at < len(line) {
				tell(line[:at] + line[at+1:])
			}
		}
	}
	if unread < 8000 || read < 400 {
		t.Errorf("%d cannot be read, and %d can", unread, read)
	}
}

func TestNumbersAreDigits(t *testing.T) { // of all bytes just ten
	k := deskOf(newHouse())
	for b := range 256 {
		one := string([]byte{byte(b)})
		for _, form := range []string{"sync %", "crash % 0", "crash 1 %", "ask % next 2 1", "forge % next 2 1", "all next % 1", "check issue 2 % {1}"} {
			want := k.told(t, "a byte", strings.Replace(form, "%", one, 1))
			if isDigit := b >= '0' && b <= '9'; !isDigit && want.Code != impl.ErrText || isDigit && want.Code == impl.ErrText && !strings.Contains("098765", one) {
				t.Errorf("%q by %q is worked out as %d", form, one, want.Code)
			}
		}
	}
}

func TestLinesOfAllStatements(t *testing.T) { // each one is read, behind each word that takes one
	c := impl.NewCluster(stair(1, 2, 3, 3), []int64{4}).Cluster
	at := 0
	for text, x := range saidTexts() {
		at++
		if x.Kind <= impl.SayRevoke && x.Epoch*7+x.Form*3+x.Set > 60 && (x.Epoch+x.Form+x.Set)%17 != 0 {
			continue
		}
		want := impl.ForgeCluster(c, share(4, x))
		if got := impl.StepScript(c, "forge 4 "+text); got.Code != want.Code || !sameClusters(impl.ClusterResult{Cluster: got.Cluster}, impl.ClusterResult{Cluster: want.Cluster}) {
			t.Fatalf("%q: %s", text, textOfScript(got))
		}
		want = impl.AskCluster(c, 1, x)
		if got := impl.StepScript(c, "ask 1 "+text); got.Code != want.Code || !sameClusters(impl.ClusterResult{Cluster: got.Cluster}, impl.ClusterResult{Cluster: want.Cluster}) {
			t.Fatalf("%q: %s", text, textOfScript(got))
		}
		want = impl.AskAll(c, x)
		if got := impl.StepScript(c, "all "+text); got.Code != want.Code || !sameClusters(impl.ClusterResult{Cluster: got.Cluster}, impl.ClusterResult{Cluster: want.Cluster}) {
			t.Fatalf("%q: %s", text, textOfScript(got))
		}
		if got := impl.StepScript(c, "check "+text).Code; got != impl.CheckText(c, x).Code || got == impl.OK || got == impl.ErrText {
			t.Fatalf("%q: %d", text, got)
		}
	}
	if at != 18504 {
		t.Errorf("%d statements", at)
	}
}

func newHouse() impl.Cluster { // 4 is bad
	return impl.NewCluster(house(), []int64{4}).Cluster
}

const emptyHouse = "replica 1 0 0 0\nreplica 2 0 0 0\nreplica 3 0 0 0\n"

func checkSameCluster(t *testing.T, name string, got impl.Cluster, want impl.Cluster) {
	t.Helper()
	if !sameClusters(impl.ClusterResult{Cluster: got}, impl.ClusterResult{Cluster: want}) {
		t.Errorf("%s leaves %s, and not %s", name, textOfCluster(got), textOfCluster(want))
	}
}

func TestRunScriptWhatIsSaidBehindALine(t *testing.T) { // a line feed, but where nothing is said, or one is there
	k := deskOf(newHouse())
	for _, c := range []struct {
		name string
		text string
		said string
	}{
		{"nothing", "", ""},
		{"an empty line", "\n", ""},
		{"three of them", "\n\n\n", ""},
		{"blanks without an end", "   ", ""},
		{"blanks", "   \n", ""},
		{"lines without words", "\n  \n\n \n     ", ""},
		{"ok", "sync 1\n", "ok\n"},
		{"ok without an end", "sync 1", "ok\n"},
		{"show", "show\n", emptyHouse},
		{"show without an end", "show", emptyHouse},
		{"show twice", "show\nshow", emptyHouse + emptyHouse},
		{"no command", "wink\n", "! 5\n"},
		{"no command without an end", "wink", "! 5\n"},
		{"a code, and a code of two digits", "wink\ncheck issue 9 1 {1}\nwink", "! 5\n! 10\n! 5\n"},
		{"empty lines ahead, between and behind", "\nsync 1\n\n\nsync 2\n\n", "ok\nok\n"},
		{"blanks ahead and behind", "  sync   1  \n  show  ", "ok\n" + emptyHouse},
		{"ok, a code, a text", "sync 1\nsync 4\nshow\n", "ok\n! 4\n" + emptyHouse},
		{"a carriage return is no blank", "sync 1\r\nsync 1\r", "! 5\n! 5\n"},
		{"a tab is no blank", "sync\t1\n\tshow\n", "! 5\n! 5\n"},
		{"other ends of a line are none", "sync 1\vsync 1\fsync 1\u0085sync 1\u2028sync 1\rsync 1", "! 5\n"},
		{"a line feed in a command", "sync\n1\nsync 1", "! 5\n! 5\nok\n"},
		{"bytes that are no letters", "\x00\n\xff\n\n\xc3\n\xa9", "! 5\n! 5\n! 5\n! 5\n"},
	} {
		got := k.checkRun(t, c.name, c.text, c.said)
		checkSameCluster(t, c.name, got, k.c)
	}
}

func TestRunScriptByHand(t *testing.T) {
	script := "all issue 2 2 {1}\ncheck issue 2 2 {1}\n\nask 1 issue 2 3 {1}\nask 1 issue 2 3 {2}\nsync 1\nforge 4 issue 2 3 {2}\ncheck issue 2 3 {2}\nask 3 issue 2 3 {2}\nsync 3\ncheck issue 2 3 {2}\n" +
		"all revoke 2 2 {1}\ncheck issue 2 2 {1}\nask 2 issue 2 2 {3}\nask 2 issue 2 2 {2}\ncrash 2 3\ncrash 2 1\ncrash 2 9\nshow\n"
	said := "ok\naccepted\n! 6\nok\nok\nok\n! 7\nok\nok\naccepted\nok\nrevoked\nok\nok\n! 3\nok\n! 3\n" +
		"replica 1 3 3 2\nreplica 2 3 3 2\nreplica 3 3 3 2\nsigned issue 2 2 {1}\nsigned issue 2 3 {2}\nsigned revoke 2 2 {1}\n"
	got := deskOf(newHouse()).checkRun(t, "a life", script, said)
	want := done(t, newHouse(), asksAll(issue(2, 2, 1)), asks(1, issue(2, 3, 2)), syncs(1), forges(4, issue(2, 3, 2)), asks(3, issue(2, 3, 2)), syncs(3), asksAll(revoke(2, 2, 1)),
		asks(2, issue(2, 2, 4)), asks(2, issue(2, 2, 2)), crashes(2, 1))
	checkSameCluster(t, "a life", got, want)
}

func TestRunScriptOfEachCode(t *testing.T) { // it is told, the cluster stays as it was, and the lines behind go on
	many := crowd(120, 39)
	stepped := done(t, newHouse(), asks(1, next(2, 1)))
	for _, k := range []struct {
		c    impl.Cluster
		line string
		code int64
	}{
		{newHouse(), "check next 2 1", impl.ErrForm},
		{newHouse(), "check revoke 2 2 {1}", impl.ErrForm},
		{township(t, 1), "forge 3 take 2 1", impl.ErrForm},
		{many, "sync 1", impl.ErrMany},
		{many, "forge 6 next 2 1", impl.ErrMany},
		{crowd(119, 40), "ask 1 revoke 2 3 {1}", impl.ErrMany},
		{newHouse(), "crash 1 9", impl.ErrRange},
		{newHouse(), "ask 1 next 2 7", impl.ErrRange},
		{newHouse(), "forge 5 next 2 1", impl.ErrRange},
		{newHouse(), "sync 4", impl.ErrNone},
		{newHouse(), "ask 4 next 2 1", impl.ErrNone},
		{newHouse(), "ask 1 issue 3 1 {1}", impl.ErrNone},
		{newHouse(), "crash 4 0", impl.ErrNone},
		{newHouse(), "wink", impl.ErrText},
		{newHouse(), "sync 10", impl.ErrText},
		{newHouse(), "all issue 2 2 {}", impl.ErrText},
		{stepped, "ask 1 next 2 2", impl.ErrTaken},
		{township(t, 1), "ask 1 issue 3 2 {2}", impl.ErrTaken},
		{newHouse(), "check issue 2 2 {1}", impl.ErrSign},
		{newHouse(), "forge 1 next 2 1", impl.ErrSign},
		{newHouse(), "ask 1 take 2 1", impl.ErrSign},
		{newHouse(), "ask 1 issue 2 4 {1}", impl.ErrPolicy},
		{stepped, "ask 1 issue 2 2 {1}", impl.ErrOld},
		{newHouse(), "check issue 9 1 {1}", impl.ErrState},
		{newHouse(), "ask 1 next 2 0", impl.ErrState},
	} {
		desk := deskOf(k.c)
		desk.checkStep(t, k.line, k.code, "")
		told := fmt.Sprintf("! %d\n", k.code)
		for _, text := range []string{k.line, k.line + "\n"} {
			checkSameCluster(t, k.line, desk.checkRun(t, "alone", text, told), k.c)
		}
		show := impl.ClusterText(k.c).Text
		got := desk.checkRun(t, "ahead of others", k.line+"\nshow\n"+k.line+"\nask 2 revoke 2 1 {8}\n"+k.line, told+show+told+"ok\n"+told)
		checkSameCluster(t, k.line, got, done(t, k.c, asks(2, revoke(2, 1, 128))))
	}
}

func TestRunScriptUpToMaxScript(t *testing.T) { // bytes count, not letters
	k := deskOf(newHouse())
	for _, c := range []struct {
		name string
		part string // its bytes divide 1200
		said string // of all of it, up to just 1200 bytes
	}{
		{"one word", "w", "! 5\n"},
		{"blanks", " ", ""},
		{"letters of two bytes", "é", "! 5\n"},
		{"letters of three bytes", "漢", "! 5\n"},
		{"letters of four bytes", "🂡", "! 5\n"},
		{"no letters", "\xff", "! 5\n"},
		{"lines of 30 bytes", "check issue 2 2 {1,2,3,4,5,8}\n", strings.Repeat("! 7\n", 40)},
		{"lines of 60 bytes", "sync 1" + strings.Repeat(" ", 53) + "\n", strings.Repeat("ok\n", 20)},
		{"lines of 600 bytes", strings.Repeat(" ", 595) + "show\n", emptyHouse + emptyHouse},
	} {
		full := strings.Repeat(c.part, 1200/len(c.part))
		if len(full) != 1200 {
			t.Fatalf("%s: %d bytes", c.name, len(full))
		}
		checkSameCluster(t, c.name, k.checkRun(t, c.name, full, c.said), k.c)
		for _, more := range []string{" ", "\n", "w", "\x00", "é", " " + full, full + "\n", strings.Repeat(full, 50)} {
			k.checkTooMany(t, c.name, full+more)
			k.checkTooMany(t, c.name, more+full)
		}
	}
	for _, ahead := range []string{"", "sync 1\n", "all issue 2 2 {1}\nshow\n\n"} { // what is ahead is not done where all is too long
		k.ran(t, "with words at the end", ahead+strings.Repeat(" ", 1194-len(ahead))+"sync 2")
		k.checkTooMany(t, "with words at the end", ahead+strings.Repeat(" ", 1195-len(ahead))+"sync 2")
	}
}

func TestRunScriptUpToMaxLines(t *testing.T) { // the last one counts without a line feed as well, but not where it is empty
	k := deskOf(newHouse())
	for _, c := range []struct {
		name string
		line string
		said string
	}{
		{"empty lines", "", ""},
		{"blanks", "  ", ""},
		{"words", "sync 3", "ok\n"},
		{"no command", "wink", "! 5\n"},
		{"no letters", "\xe9", "! 5\n"},
		{"a carriage return", "\r", "! 5\n"},
	} {
		ended := c.line + "\n"
		full := strings.Repeat(ended, 40)
		k.checkRun(t, c.name, full, strings.Repeat(c.said, 40))
		k.checkRun(t, c.name+" without an end", strings.Repeat(ended, 39)+c.line, strings.Repeat(c.said, 39+min(len(c.line), 1)))
		for _, rest := range []string{" ", "w", "show", "\x00"} {
			said := map[string]string{" ": "", "w": "! 5\n", "show": emptyHouse, "\x00": "! 5\n"}[rest]
			k.checkRun(t, c.name+", and a rest", strings.Repeat(ended, 39)+rest, strings.Repeat(c.said, 39)+said)
			k.checkTooMany(t, c.name+", and a rest", full+rest)
			k.checkTooMany(t, c.name+", and a rest", rest+"\n"+full)
		}
		k.checkTooMany(t, c.name, full+"\n")
		k.checkTooMany(t, c.name, "\n"+full)
		k.checkTooMany(t, c.name, full+ended)
		k.checkTooMany(t, c.name, full+full)
	}
	k.checkTooMany(t, "as many lines as bytes may be", strings.Repeat("\n", 1200))
	k.checkTooMany(t, "too many of both", strings.Repeat("\n", 1201))
	for _, c := range []impl.Cluster{township(t, 1), township(t, 2)} {
		deskOf(c).checkTooMany(t, "a township", "all issue 2 2 {8}\n"+strings.Repeat("\n", 40))
		deskOf(c).checkTooMany(t, "a township", strings.Repeat("\n", 40)+"all issue 2 2 {8}")
	}
}

func TestRunScriptIsStepScriptLineByLine(t *testing.T) { // of lines by hand, each one behind each other one
	lines := append(rightLines(), "wink", "sync 12", "  ", "sync 9", "check issue 9 1 {1}", "ask 1 issue 2 3 {1,2,4}", "forge 3 next 2 2", "all next 2 1")
	for _, c := range []impl.Cluster{newHouse(), township(t, 1)} {
		for _, one := range lines {
			for _, two := range lines {
				behind, said := c, ""
				for _, line := range []string{one, two, "show"} {
					step := impl.StepScript(behind, line)
					switch {
					case step.Code != impl.OK:
						said += fmt.Sprintf("! %d\n", step.Code)
						continue
					case step.Said == "ok" || step.Said == "accepted" || step.Said == "revoked":
						said += step.Said + "\n"
					default:
						said += step.Said
					}
					behind = step.Cluster
				}
				text := one + "\n" + two + "\nshow"
				got := impl.RunScript(c, text)
				if want := (impl.ScriptResult{Cluster: behind, Said: said}); !sameScripts(got, want) {
					t.Fatalf("%q of %s = %s, want %s", text, textOfCluster(c), textOfScript(got), textOfScript(want))
				}
			}
		}
	}
}

// clusterWithoutFault comes of calls, of lives or of no calls at all.
func (d *dice) clusterWithoutFault() impl.Cluster {
	configs := d.realm()
	c := impl.NewCluster(configs, d.anyBad(configs[0].F)).Cluster
	switch d.below(6) {
	case 0:
		return c
	case 1:
		for range d.below(10) {
			c = d.livelier(c, d.claim(configs, wantReach(configs, c.Shares).List))
		}
		return c
	case 2:
		for {
			if c := d.handMade(); wantClusterFault(c) == impl.OK {
				return c
			}
		}
	case 3:
		return crowd(int(d.below(3))+118, int(d.below(3))+38)
	}
	f := d.below(2) + 1
	w := newWorld(withF(house(), f), d.anyBad(f)...)
	for range d.below(60) {
		_, deed := d.anyDeed(w, false)
		deed.work(w)
	}
	return w.cluster()
}

// told is the text of what may be said here in most draws, and of no statement in some.
func (d *dice) told(w *world) string {
	x := d.word(w)
	if d.below(3) == 0 {
		x = d.claim(w.configs, wantReach(w.configs, w.shares).List)
	}
	if wantStatementFault(x) != impl.OK {
		none := []string{"issue 2 2 {}", "issue 0 2 {1}", "revoke 2 5 {1}", "next 2 8", "take 10 1", "take 2", "issue 2 2 {2,1}"}
		return none[d.below(int64(len(none)))]
	}
	return textOfSaid(x)
}

// signed is the text of an issue that is signed, if there is one.
func (d *dice) signed(w *world) string {
	issues := slices.DeleteFunc(wantSigned(w.cluster()), func(x impl.Statement) bool { return x.Kind != impl.SayIssue })
	if len(issues) == 0 {
		return d.told(w)
	}
	return textOfSaid(issues[d.below(int64(len(issues)))])
}

func (d *dice) command(w *world) string {
	by := d.anyId(w)
	switch d.below(16) {
	case 0, 1, 2, 3:
		return fmt.Sprintf("ask %d %s", by, d.told(w))
	case 4, 5:
		return "all " + d.told(w)
	case 6, 7:
		if len(w.bad) > 0 && d.below(4) > 0 {
			by = w.bad[d.below(int64(len(w.bad)))]
		}
		return fmt.Sprintf("forge %d %s", by, d.told(w))
	case 8, 9, 10:
		return fmt.Sprintf("sync %d", by)
	case 11:
		return fmt.Sprintf("crash %d %d", by, d.below(4))
	case 12:
		return "check " + d.told(w)
	case 13:
		return "check " + d.signed(w)
	case 14:
		return "all " + strings.Replace(d.signed(w), "issue", "revoke", 1)
	}
	return "show"
}

// bent is a line with a byte more, less or another one.
func (d *dice) bent(line string) string {
	at := int(d.below(int64(len(line) + 1)))
	bytes := []string{"", " ", "1", "x", "\t", "\xff", "{"}
	return line[:at] + bytes[d.below(7)] + line[min(at+int(d.below(2)), len(line)):]
}

func (d *dice) line(w *world) string {
	line := d.command(w)
	switch d.below(12) {
	case 0:
		return ""
	case 1:
		return strings.Repeat(" ", int(d.below(4)))
	case 2:
		return d.bent(line)
	case 3:
		return "  " + strings.ReplaceAll(line, " ", strings.Repeat(" ", int(d.below(3))+1)) + " "
	}
	return line
}

// script is drawn on what the lines ahead make of the cluster; it is as long as a script may be at most.
func (d *dice) script(c impl.Cluster, count int64) string {
	w, text := worldOf(c), ""
	for range count {
		line := d.line(w)
		w.line(line)
		if len(text)+len(line) >= 1200 {
			break
		}
		text += line + "\n"
	}
	if d.below(3) == 0 {
		return strings.TrimSuffix(text, "\n")
	}
	return text
}

// checkCut runs a script in two parts, cut behind each line feed.
func checkCut(t *testing.T, c impl.Cluster, text string, whole impl.ScriptResult) {
	t.Helper()
	for at := range len(text) {
		if text[at] != '\n' {
			continue
		}
		first := impl.RunScript(c, text[:at+1])
		second := impl.RunScript(first.Cluster, text[at+1:])
		both := impl.ScriptResult{Cluster: second.Cluster, Said: first.Said + second.Said}
		if first.Code != impl.OK || second.Code != impl.OK || !sameScripts(both, whole) {
			t.Fatalf("%q and %q of %s say %s, then %s, want %s", text[:at+1], text[at+1:], textOfCluster(c), textOfScript(first), textOfScript(second), textOfScript(whole))
		}
	}
}

// checkLineByLine cuts it behind all line feeds at once, and tells what codes and words there were.
func checkLineByLine(t *testing.T, c impl.Cluster, text string, whole impl.ScriptResult, codes map[int64]int, words map[string]int) {
	t.Helper()
	all := impl.ScriptResult{Cluster: c}
	for _, line := range lineForm.FindAllString(text, -1) {
		step := impl.RunScript(all.Cluster, line)
		if step.Code != impl.OK {
			t.Fatalf("%q has code %d", line, step.Code)
		}
		alone := impl.StepScript(all.Cluster, strings.TrimSuffix(line, "\n"))
		codes[alone.Code]++
		if first := wantWords(strings.TrimSuffix(line, "\n")); alone.Code == impl.OK && len(first) > 0 {
			words[first[0]]++
		} else if alone.Code == impl.OK {
			words[""]++
		}
		all = impl.ScriptResult{Cluster: step.Cluster, Said: all.Said + step.Said}
	}
	if !sameScripts(all, whole) {
		t.Fatalf("%q of %s line by line is %s, want %s", text, textOfCluster(c), textOfScript(all), textOfScript(whole))
	}
}

func TestAScriptInTwoPartsIsThatInOne(t *testing.T) { // P17
	codes, words, changed, revoked := map[int64]int{}, map[string]int{}, 0, 0
	for seed := range int64(240) {
		d := dice(seed + 2100)
		k := deskOf(d.clusterWithoutFault())
		if k.fault != impl.OK {
			t.Fatalf("seed %d: fault %d", seed, k.fault)
		}
		count := d.below(14)
		if seed%12 == 0 {
			count = 40
		}
		text := d.script(k.c, count)
		whole := k.ran(t, "drawn", text)
		if t.Failed() {
			return
		}
		if whole.Code != impl.OK || impl.ClusterFault(whole.Cluster) != impl.OK {
			t.Fatalf("%q of %s is worked out as %s", text, textOfCluster(k.c), textOfScript(whole))
		}
		if !sameClusters(impl.ClusterResult{Cluster: whole.Cluster}, impl.ClusterResult{Cluster: k.c}) {
			changed++
		}
		if strings.Contains(whole.Said, "revoked\n") {
			revoked++
		}
		checkCut(t, k.c, text, whole)
		checkLineByLine(t, k.c, text, whole, codes, words)
	}
	checkCodes(t, "a line", codes, impl.OK, impl.ErrForm, impl.ErrMany, impl.ErrRange, impl.ErrNone, impl.ErrText, impl.ErrTaken, impl.ErrSign, impl.ErrPolicy, impl.ErrOld, impl.ErrState)
	for _, word := range []string{"", "ask", "all", "forge", "sync", "crash", "check", "show"} {
		if words[word] < 20 {
			t.Errorf("%d lines of %q had no code", words[word], word)
		}
	}
	if changed < 120 || revoked < 3 {
		t.Errorf("%d clusters were changed, %d scripts tell that something is revoked", changed, revoked)
	}
}

// goesWithAll tells whether each replica by itself may say x and be sure of it, and whether there is room for all their shares.
func (w *world) goesWithAll(x impl.Statement) bool {
	count := len(w.shares)
	for _, id := range w.ids {
		trial := worldOf(w.cluster())
		if trial.ask(id, x) != impl.OK || trial.sync(id) != impl.OK {
			return false
		}
		count += len(trial.shares) - len(w.shares)
	}
	return count <= 120
}

// checkAllSign asks it by the call, by a line and by a script.
func checkAllSign(t *testing.T, c impl.Cluster, x impl.Statement) {
	t.Helper()
	text := textOfSaid(x)
	call, line, script := impl.AskAll(c, x), impl.StepScript(c, "all "+text), impl.RunScript(c, "all "+text+"\nshow\n")
	if call.Code != impl.OK || line.Code != impl.OK || line.Said != "ok" || script.Code != impl.OK || !strings.HasPrefix(script.Said, "ok\nreplica 1 ") {
		t.Fatalf("%q of %s: %d, %d %q, %d %q", text, textOfCluster(c), call.Code, line.Code, line.Said, script.Code, script.Said)
	}
	for _, behind := range []impl.Cluster{call.Cluster, line.Cluster, script.Cluster} {
		signers := wantSigners(behind.Shares, x)
		if !impl.IsSigned(behind.Shares, c.Configs[0].F, x) || len(signers) != len(c.Replicas) || !slices.Contains(impl.SignedOf(behind).Said, x) {
			t.Fatalf("%q was asked of all %s, and is signed by %v: %s", text, textOfCluster(c), signers, textOfCluster(behind))
		}
		if stood := impl.StoodBy(behind, x); stood != (impl.IntResult{Value: int64(len(c.Replicas))}) {
			t.Fatalf("%q was asked of all %s, and stood by %+v: %s", text, textOfCluster(c), stood, textOfCluster(behind))
		}
	}
	if strings.Count(script.Said, "\nsigned "+text+"\n") != 1 || !strings.HasSuffix(script.Said, impl.ClusterText(line.Cluster).Text) {
		t.Fatalf("%q was asked of all %s, and what is shown is %q", text, textOfCluster(c), script.Said)
	}
	check := impl.CheckText(call.Cluster, x)
	if isIssue := x.Kind == impl.SayIssue; isIssue && check.Text != "accepted" && check.Text != "revoked" || !isIssue && check != (impl.TextResult{Code: impl.ErrForm}) {
		t.Fatalf("%q was asked of all %s, and its check is %+v", text, textOfCluster(c), check)
	}
}

func TestWhatAllAreAskedIsSignedWhereNobodyIsBad(t *testing.T) { // P14: also where some said more than others, crashed, or are not sure of all
	signed, not := map[int64]int{}, 0
	for seed := range int64(60) {
		d := dice(seed + 2500)
		configs := d.realm()
		if seed%3 == 0 {
			configs = withF(house(), seed%2+1)
		}
		w := newWorld(configs)
		for range 24 {
			x := d.claim(configs, wantReach(configs, w.shares).List)
			if d.below(2) == 0 {
				x = d.word(w)
			}
			c := w.cluster()
			if wantStatementFault(x) == impl.OK && x.Kind != impl.SayTake && w.goesWithAll(x) {
				signed[x.Kind]++
				checkAllSign(t, c, x)
			} else if wantStatementFault(x) == impl.OK {
				not++
				k := desk{c, impl.OK}
				k.told(t, "not all go with it", "all "+textOfSaid(x))
			}
			for range d.below(4) {
				w.line(d.command(w))
			}
		}
		if t.Failed() {
			return
		}
	}
	checkCodes(t, "by kind", signed, impl.SayIssue, impl.SayRevoke, impl.SayNext)
	if signed[impl.SayIssue] < 100 || not < 100 {
		t.Errorf("signed by kind %v, and %d were not", signed, not)
	}
}

func TestAllStatementsAskedOfAllByLines(t *testing.T) { // P14: of a new cluster, just what each one of it may say is signed
	for f := int64(1); f <= 2; f++ {
		fresh := impl.NewCluster(withF(house(), f), nil).Cluster
		show := impl.ClusterText(fresh).Text
		m := newTeller(fresh.Configs)
		signed, not := 0, 0
		for text, x := range saidTexts() {
			if x.Epoch > 3 || x.Kind == impl.SayRevoke && x.Set%8 != 5 || x.Kind == impl.SayIssue && x.Set > 31 && x.Set%16 != 7 {
				continue
			}
			if m.code(x) == impl.OK && x.Kind != impl.SayTake {
				checkAllSign(t, fresh, x)
				signed++
				continue
			}
			if got := impl.RunScript(fresh, "all "+text+"\nshow"); !sameScripts(got, impl.ScriptResult{Cluster: fresh, Said: "ok\n" + show}) {
				t.Fatalf("%q asked of all: %s", text, textOfScript(got))
			}
			not++
		}
		if signed < 50 || not < 50 {
			t.Errorf("%d are signed, %d are not", signed, not)
		}
	}
}

// linesToKeep are of each command, about what the case is about, and of none.
func (k clusterCase) linesToKeep() []string {
	text := "issue 5 5 {5}"
	if wantStatementFault(k.x) == impl.OK {
		text = textOfSaid(k.x)
	}
	return []string{
		fmt.Sprintf("ask %d %s", k.id, text), "all " + text, fmt.Sprintf("forge %d %s", k.id, text), fmt.Sprintf("sync %d", k.id),
		fmt.Sprintf("crash %d %d", k.id, k.kept), "check " + text, "show", "", "   ", "wink", " show \n",
	}
}

// scriptAnswers are all that the layer answers about a case.
type scriptAnswers struct {
	scripts []impl.ScriptResult
	texts   []impl.TextResult
	words   []impl.WordsResult
}

func (k clusterCase) scripted() scriptAnswers {
	var a scriptAnswers
	lines := k.linesToKeep()
	for _, line := range lines {
		a.scripts = append(a.scripts, impl.StepScript(k.c, line))
		a.words = append(a.words, impl.WordsOf(line))
	}
	for _, text := range []string{
		"", "\n", "wink\n", lines[5], lines[6], strings.Join(lines, "\n"), strings.Join(lines[:4], "\n") + "\n", strings.Repeat("\n", 41), strings.Repeat(" ", 1201),
	} {
		a.scripts = append(a.scripts, impl.RunScript(k.c, text))
	}
	a.texts = []impl.TextResult{impl.ClusterText(k.c), impl.CheckText(k.c, k.x), impl.CheckText(k.c, issue(2, 2, 1))}
	return a
}

// whole tells all that is in the memory of what is answered, also behind the ends of lists.
func (a scriptAnswers) whole() string {
	text := fmt.Sprint(a)
	for _, result := range a.scripts {
		text += clusterCase{c: result.Cluster}.whole()
	}
	return text
}

// scriptLists are all lists of answers, by what is in them.
type scriptLists struct {
	clusterLists
	words [][]string
}

func (l *scriptLists) addAnswers(a scriptAnswers) {
	for _, result := range a.scripts {
		l.add(result.Cluster)
	}
	for _, result := range a.words {
		l.words = append(l.words, result.Words)
	}
}

func (l *scriptLists) allHaveOwnMemory() bool {
	return l.haveOwnMemory() && haveOwnMemory(l.words)
}

func spoilCluster(c impl.Cluster) {
	for _, r := range c.Replicas {
		spoil(r.Said, impl.Statement{Kind: -7})
		spoil(r.Locks, impl.Lock{Form: -7})
	}
	spoil(c.Replicas, impl.Replica{Id: -7})
	spoil(c.Bad, -7)
	spoil(c.Shares, share(-7, impl.Statement{}))
	for _, config := range c.Configs {
		for _, form := range config.Forms {
			spoil(form.Parts, impl.Part{Kind: -7})
		}
	}
	replicaCase{configs: c.Configs}.spoil()
}

func TestScriptsToKeepHaveEachCode(t *testing.T) {
	var codes [3]map[int64]int
	for number := range codes {
		codes[number] = map[int64]int{}
	}
	for _, k := range clustersToKeep(t) {
		a := k.scripted()
		lines := len(a.words)
		for _, result := range a.scripts[:lines] {
			codes[0][result.Code]++
		}
		for _, result := range a.scripts[lines:] {
			codes[1][result.Code]++
		}
		for _, result := range a.texts {
			codes[2][result.Code]++
		}
	}
	checkCodes(t, "StepScript", codes[0], impl.OK, impl.ErrForm, impl.ErrMany, impl.ErrRange, impl.ErrNone, impl.ErrText, impl.ErrTaken, impl.ErrSign, impl.ErrState)
	checkCodes(t, "RunScript", codes[1], impl.OK, impl.ErrForm, impl.ErrMany, impl.ErrRange, impl.ErrTaken, impl.ErrSign)
	checkCodes(t, "a text", codes[2], impl.OK, impl.ErrForm, impl.ErrMany, impl.ErrRange, impl.ErrSign, impl.ErrState)
}

func TestScriptedClustersAreUnchanged(t *testing.T) { // P1: be there a code or not
	for _, k := range clustersToKeep(t) {
		for _, given := range []clusterCase{k, k.copied()} {
			before := given.whole()
			given.scripted()
			if behind := given.whole(); behind != before || given.x != k.x {
				t.Fatalf("%.900s was changed to %.900s", before, behind)
			}
		}
	}
}

func TestTextsHandedInAreUnchanged(t *testing.T) { // P1
	for _, c := range []impl.Cluster{newHouse(), township(t, 1), {}} {
		for _, text := range append(someScripts(), someLines()...) {
			given := []byte(text) // what is written to it would be seen, as it is no constant
			text = unsafe.String(unsafe.SliceData(given), len(given))
			before := strings.Clone(text)
			impl.StepScript(c, text)
			impl.RunScript(c, text)
			impl.WordsOf(text)
			if text != before {
				t.Fatalf("%q was changed to %q", before, text)
			}
		}
	}
}

func TestSameScriptsSameAnswers(t *testing.T) { // P1: nothing is kept from call to call
	var first []string
	for _, k := range clustersToKeep(t) {
		first = append(first, fmt.Sprint(k.scripted()))
	}
	for i, k := range slices.Backward(clustersToKeep(t)) {
		for range 2 {
			if again := fmt.Sprint(k.copied().scripted()); again != first[i] {
				t.Fatalf("%s: first %.600s, then %.600s", textOfCluster(k.c), first[i], again)
			}
		}
	}
}

func TestScriptsShareNoMemory(t *testing.T) { // P1: also where a line leaves the cluster as it is
	for _, k := range clustersToKeep(t) {
		given := k.copied()
		for _, result := range k.scripted().scripts {
			var own clusterLists
			own.add(result.Cluster)
			if !own.haveOwnMemory() {
				t.Fatalf("lists of an answer of %s share memory", textOfCluster(k.c))
			}
		}
		var all scriptLists
		all.add(given.c)
		for range 2 {
			all.addAnswers(given.scripted())
		}
		if !all.allHaveOwnMemory() {
			t.Fatalf("answers of %s share memory, or an answer and what was handed in", textOfCluster(k.c))
		}
	}
}

func TestAnswersOfScriptsStayBehindWhatIsHandedIn(t *testing.T) { // P1
	for _, k := range clustersToKeep(t) {
		given := k.copied()
		one, two := given.scripted(), given.scripted()
		want := one.whole()
		for _, result := range two.scripts {
			spoilCluster(result.Cluster)
		}
		for _, result := range two.words {
			spoil(result.Words, "spoiled")
		}
		if one.whole() != want || fmt.Sprint(given.scripted()) != fmt.Sprint(one) {
			t.Fatalf("what is answered for %s changes with another answer", textOfCluster(k.c))
		}
		spoilCluster(given.c)
		if one.whole() != want {
			t.Fatalf("what was answered for %s changes with what was handed in", textOfCluster(k.c))
		}
	}
}

// liesIn tells whether a text stands in the memory of another one.
func liesIn(word string, line string) bool {
	from, start := uintptr(unsafe.Pointer(unsafe.StringData(word))), uintptr(unsafe.Pointer(unsafe.StringData(line)))
	return len(word) > 0 && from >= start && from < start+uintptr(len(line))
}

func TestWordsStandInMemoryOfTheirOwn(t *testing.T) { // P1
	for _, line := range append(someLines(), "w", " w", "w ", "one", "a b", "  several   words ", strings.Repeat("long ", 240), strings.Repeat("w", 1200)) {
		given := strings.Clone(line)
		one, two := impl.WordsOf(given), impl.WordsOf(given)
		for at, word := range one.Words {
			if liesIn(word, given) || liesIn(word, two.Words[at]) {
				t.Fatalf("%q of %q lies in what was handed in, or in another answer", word, line)
			}
			for _, other := range one.Words[:at] {
				if liesIn(word, other) {
					t.Fatalf("two words of %q share memory", line)
				}
			}
		}
	}
	bytes := []byte(" ask 1 issue 2 2 {1} ")
	got := impl.WordsOf(unsafe.String(unsafe.SliceData(bytes), len(bytes)))
	spoil(bytes, 'x')
	if !slices.Equal(got.Words, []string{"ask", "1", "issue", "2", "2", "{1}"}) {
		t.Errorf("the words change with the line: %q", got.Words)
	}
}

func TestWhatIsSaidStaysBehindTheLine(t *testing.T) { // P1: it is no piece of the text that was handed in
	for _, text := range []string{"show", "check issue 2 2 {1}", "sync 1\nshow\ncheck issue 2 2 {1}\nwink\n", "wink"} {
		bytes := []byte(text)
		given := unsafe.String(unsafe.SliceData(bytes), len(bytes))
		step, run := impl.StepScript(township(t, 1), given), impl.RunScript(township(t, 1), given)
		before := textOfScript(step) + textOfScript(run)
		spoil(bytes, 'x')
		if behind := textOfScript(step) + textOfScript(run); behind != before {
			t.Errorf("what is said of %q changes to %q", text, behind)
		}
	}
}

func TestEmptyListsOfScriptsAreTheSameAsNil(t *testing.T) { // P1
	for f := int64(1); f <= 2; f++ {
		none := impl.Cluster{Configs: stair(f, 2, 3)}
		empty := impl.Cluster{Configs: stair(f, 2, 3), Bad: []int64{}, Shares: []impl.Share{}}
		for place := range empty.Configs {
			empty.Configs[place].Rules, empty.Configs[place].Forms, empty.Configs[place].Classes = []impl.Rule{}, []impl.Form{}, []int64{}
		}
		for id := range 3*f + 1 {
			none.Replicas = append(none.Replicas, impl.Replica{Id: id + 1})
			empty.Replicas = append(empty.Replicas, impl.Replica{Id: id + 1, Said: []impl.Statement{}, Locks: []impl.Lock{}})
		}
		for _, x := range said(issue(2, 2, 1), revoke(2, 1, 1), next(2, 1), take(2, 1), impl.Statement{}) {
			if a, b := fmt.Sprint(clusterCase{none, 1, 0, x}.scripted()), fmt.Sprint(clusterCase{empty, 1, 0, x}.scripted()); a != b {
				t.Errorf("%s and %s", a, b)
			}
		}
		for _, c := range []impl.Cluster{none, empty} {
			k := deskOf(c)
			for _, line := range someLines() {
				k.told(t, "lists without an element", line)
			}
		}
	}
	empty := impl.Cluster{Configs: []impl.Config{}, Bad: []int64{}, Replicas: []impl.Replica{}, Shares: []impl.Share{}}
	checkUnscripted(t, "empty", empty, impl.ErrMany)
}

func TestAnswersOfScriptsBesideACodeAreZero(t *testing.T) { // P1
	for _, k := range clustersToKeep(t) {
		a := k.scripted()
		for _, result := range a.scripts {
			if result.Code != impl.OK && !sameScripts(result, impl.ScriptResult{Code: result.Code}) {
				t.Errorf("%s: %s", textOfCluster(k.c), textOfScript(result))
			}
		}
		for _, result := range a.texts {
			if result.Code != impl.OK && result != (impl.TextResult{Code: result.Code}) {
				t.Errorf("%s: %+v", textOfCluster(k.c), result)
			}
		}
	}
}
