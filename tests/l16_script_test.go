package tests

import (
	"fmt"
	"regexp"
	"slices"
	"strings"
	"sync"
	"testing"

	"loop.example/g00338/impl"
)

// wantWords goes byte by byte.
func wantWords(line string) []string {
	var words []string
	inside := false
	for place := range len(line) {
		if line[place] == ' ' {
			inside = false
			continue
		}
		if !inside {
			words, inside = append(words, ""), true
		}
		words[len(words)-1] += line[place : place+1]
	}
	return words
}

var (
	orderForm = regexp.MustCompile(`^(?:(ask|forge) ([0-9]) ([^ ].*)|(all|check) (.+)|(sync) ([0-9])|(crash) ([0-9]) ([0-9])|(show))$`)
	blankForm = regexp.MustCompile(` +`)
	lineForm  = regexp.MustCompile(`[^\n]*\n|[^\n]+$`)
	saidTexts = sync.OnceValue(statementsByText)
)

var reasonTexts = []string{"accepted", "malformed", "too many", "out of range", "none", "unreadable", "taken", "not signed", "not allowed", "revoked", "wrong epoch"}

func (w *world) show() string {
	text := ""
	for at, id := range w.ids {
		text += fmt.Sprintf("replica %d %d %d %d\n", id, w.sure[at], len(w.tellers[at].said), len(w.tellers[at].locks))
	}
	for _, x := range wantSigned(w.cluster()) {
		text += "signed " + textOfSaid(x) + "\n"
	}
	return text
}

func (w *world) check(x impl.Statement) (string, int64) {
	made := wantMade(w.configs, w.shares, x)
	if made.Code != impl.OK {
		return "", made.Code
	}
	return reasonTexts[wantAccepted(w.configs, w.shares, made.Wallet)], impl.OK
}

// textOfSaid is told no text but of statements without a fault.
func textOfSaid(x impl.Statement) string {
	word := [5]string{"", "issue", "revoke", "next", "take"}[x.Kind]
	if x.Kind <= impl.SayRevoke {
		return fmt.Sprintf("%s %d %d %s", word, x.Epoch, x.Form, textOfSet(int(x.Set)))
	}
	return fmt.Sprintf("%s %d %d", word, x.Epoch, x.Next)
}

// line tells what is said, and which code there is; where there is one the world stays as it was.
func (w *world) line(line string) (string, int64) {
	line = strings.Trim(blankForm.ReplaceAllString(line, " "), " ")
	if line == "" {
		return "", impl.OK
	}
	read := orderForm.FindStringSubmatch(line)
	if read == nil {
		return "", impl.ErrText
	}
	text := read[3] + read[5]
	x, there := saidTexts()[text]
	if text != "" && !there {
		return "", impl.ErrText
	}
	number := func(place int) int64 { return int64(read[place][0] - '0') }
	switch read[1] + read[4] + read[6] + read[8] + read[11] {
	case "ask":
		return "ok", w.ask(number(2), x)
	case "forge":
		return "ok", w.forge(share(number(2), x))
	case "all":
		return "ok", w.askAll(x)
	case "check":
		return w.check(x)
	case "sync":
		return "ok", w.sync(number(7))
	case "crash":
		return "ok", w.crash(number(9), number(10))
	}
	return w.show(), impl.OK
}

// desk is a cluster that is told lines, beside its fault as the tests work it out, once for all lines.
type desk struct {
	c     impl.Cluster
	fault int64
}

func deskOf(c impl.Cluster) desk {
	return desk{c, wantClusterFault(c)}
}

func (k desk) step(line string) impl.ScriptResult {
	if k.fault != impl.OK {
		return impl.ScriptResult{Code: k.fault}
	}
	w := worldOf(k.c)
	text, code := w.line(line)
	if code != impl.OK {
		return impl.ScriptResult{Code: code}
	}
	return impl.ScriptResult{Cluster: w.cluster(), Said: text}
}

func (k desk) run(text string) impl.ScriptResult {
	if k.fault != impl.OK {
		return impl.ScriptResult{Code: k.fault}
	}
	lines := lineForm.FindAllString(text, -1)
	if len(text) >= 1201 || len(lines) >= 41 {
		return impl.ScriptResult{Code: impl.ErrMany}
	}
	w := worldOf(k.c)
	all := ""
	for _, line := range lines {
		said, code := w.line(strings.TrimSuffix(line, "\n"))
		switch {
		case code != impl.OK:
			all += fmt.Sprintf("! %d\n", code)
		case said != "":
			all += strings.TrimSuffix(said, "\n") + "\n"
		}
	}
	return impl.ScriptResult{Cluster: w.cluster(), Said: all}
}

func (k desk) show() impl.TextResult {
	if k.fault != impl.OK {
		return impl.TextResult{Code: k.fault}
	}
	return impl.TextResult{Text: worldOf(k.c).show()}
}

func (k desk) check(x impl.Statement) impl.TextResult {
	if k.fault != impl.OK {
		return impl.TextResult{Code: k.fault}
	}
	text, code := worldOf(k.c).check(x)
	return impl.TextResult{Code: code, Text: text}
}

func sameScripts(a impl.ScriptResult, b impl.ScriptResult) bool {
	return a.Code == b.Code && a.Said == b.Said && sameClusters(impl.ClusterResult{Cluster: a.Cluster}, impl.ClusterResult{Cluster: b.Cluster})
}

func textOfScript(r impl.ScriptResult) string {
	return fmt.Sprintf("code %d, said %q, %s", r.Code, r.Said, textOfCluster(r.Cluster))
}

// told holds what StepScript answers against what is worked out, and hands that out.
func (k desk) told(t *testing.T, name string, line string) impl.ScriptResult {
	t.Helper()
	want, got := k.step(line), impl.StepScript(k.c, line)
	if !sameScripts(got, want) {
		t.Errorf("%s: StepScript(%s, %q) = %s, want %s", name, textOfCluster(k.c), line, textOfScript(got), textOfScript(want))
	}
	return want
}

func (k desk) ran(t *testing.T, name string, text string) impl.ScriptResult {
	t.Helper()
	want, got := k.run(text), impl.RunScript(k.c, text)
	if !sameScripts(got, want) {
		t.Errorf("%s: RunScript(%s, %q) = %s, want %s", name, textOfCluster(k.c), text, textOfScript(got), textOfScript(want))
	}
	return want
}

// checkStep asks for the code and for what is said as well as for what is worked out, so that neither can be wrong alone.
func (k desk) checkStep(t *testing.T, line string, code int64, said string) impl.Cluster {
	t.Helper()
	want := k.told(t, "by hand", line)
	if want.Code != code || want.Said != said {
		t.Errorf("%q of %s is worked out as %d %q, not %d %q", line, textOfCluster(k.c), want.Code, want.Said, code, said)
	}
	return want.Cluster
}

func (k desk) checkRun(t *testing.T, name string, text string, said string) impl.Cluster {
	t.Helper()
	want := k.ran(t, name, text)
	if want.Code != impl.OK || want.Said != said {
		t.Errorf("%s: %q of %s is worked out as %d %q, not %q", name, text, textOfCluster(k.c), want.Code, want.Said, said)
	}
	return want.Cluster
}

func (k desk) checkTooMany(t *testing.T, name string, text string) {
	t.Helper()
	if want := k.ran(t, name, text); want.Code != impl.ErrMany {
		t.Errorf("%s: %q is worked out as %d", name, text, want.Code)
	}
}

func (k desk) checkShow(t *testing.T, name string, text string) {
	t.Helper()
	want, got := k.show(), impl.ClusterText(k.c)
	if want != (impl.TextResult{Text: text}) {
		t.Errorf("%s: the text of %s is worked out as %+v, not %q", name, textOfCluster(k.c), want, text)
	}
	if got != want {
		t.Errorf("%s: ClusterText(%s) = %+v, want %+v", name, textOfCluster(k.c), got, want)
	}
}

func (k desk) checkCheck(t *testing.T, name string, x impl.Statement, code int64, text string) {
	t.Helper()
	want, got := k.check(x), impl.CheckText(k.c, x)
	if want != (impl.TextResult{Code: code, Text: text}) {
		t.Errorf("%s: the check of %+v by %s is worked out as %+v, not %d %q", name, x, textOfCluster(k.c), want, code, text)
	}
	if got != want {
		t.Errorf("%s: CheckText(%s, %+v) = %+v, want %+v", name, textOfCluster(k.c), x, got, want)
	}
}

// someLines have all commands, and what is none: to a cluster with a fault they are all the same.
func someLines() []string {
	return []string{
		"ask 1 issue 2 2 {1}", "ask 0 take 2 1", "all revoke 2 1 {1}", "all take 9 7", "forge 4 next 2 1", "forge 3 next 2 1", "forge 9 take 2 1",
		"sync 1", "sync 9", "crash 1 0", "crash 9 9", "check issue 2 2 {1}", "check next 2 1", "show",
		"", " ", "wink", "show\n", "\n", "ask 1 issue 0 0 {}", "sync 12", "sync -1",
	}
}

func someScripts() []string {
	lines := someLines()
	return []string{
		"", "\n", "show", "show\n", "wink\n", strings.Join(lines, "\n"), strings.Repeat("\n", 40), strings.Repeat("\n", 41), strings.Repeat(" ", 1200), strings.Repeat(" ", 1201),
		strings.Repeat("sync 1\n", 200),
	}
}

// checkUnscripted asks that the fault of a cluster is told ahead of all else.
func checkUnscripted(t *testing.T, name string, c impl.Cluster, code int64) {
	t.Helper()
	if want := wantClusterFault(c); want != code || code == impl.OK {
		t.Errorf("%s: the fault of %s is worked out as %d, not %d", name, textOfCluster(c), want, code)
	}
	for _, line := range someLines() {
		if got := impl.StepScript(c, line); !sameScripts(got, impl.ScriptResult{Code: code}) {
			t.Errorf("%s: StepScript(%s, %q) = %s, want code %d", name, textOfCluster(c), line, textOfScript(got), code)
		}
	}
	for _, text := range someScripts() {
		if got := impl.RunScript(c, text); !sameScripts(got, impl.ScriptResult{Code: code}) {
			t.Errorf("%s: RunScript(%s, %q) = %s, want code %d", name, textOfCluster(c), text, textOfScript(got), code)
		}
	}
	if got := impl.ClusterText(c); got != (impl.TextResult{Code: code}) {
		t.Errorf("%s: ClusterText(%s) = %+v, want code %d", name, textOfCluster(c), got, code)
	}
	for _, x := range said(issue(2, 2, 1), issue(9, 1, 1), revoke(2, 2, 1), next(2, 1), take(2, 1), issue(0, 1, 1), impl.Statement{}) {
		if got := impl.CheckText(c, x); got != (impl.TextResult{Code: code}) {
			t.Errorf("%s: CheckText(%s, %+v) = %+v, want code %d", name, textOfCluster(c), x, got, code)
		}
	}
}

func TestScriptsOfFaults(t *testing.T) { // the ClusterFault is ahead of all else, in each of its kinds and in its order
	base := township(t, 2)
	flaws := clusterFlaws()
	for i, one := range flaws {
		checkUnscripted(t, one.name, turnedCluster(base, one.turn), one.code)
		for _, two := range flaws[i+1:] {
			c := copyCluster(base)
			two.turn(&c) // the other way about there may be no list left to turn
			one.turn(&c)
			checkUnscripted(t, one.name+", and "+two.name, c, one.code)
		}
	}
	checkUnscripted(t, "nothing", impl.Cluster{}, impl.ErrMany)
}

func TestScriptsOfFaultsByTheirKinds(t *testing.T) {
	codes := map[int64]int{}
	for f := int64(1); f <= 2; f++ {
		base := township(t, f)
		check := func(name string, code int64, turn func(*impl.Cluster)) {
			t.Helper()
			checkUnscripted(t, name, turnedCluster(base, turn), code)
			codes[code]++
		}
		for _, k := range badCases(f) {
			check(k.name, k.code, func(c *impl.Cluster) { c.Bad = k.bad })
		}
		for _, k := range wrongConfigs() {
			check(k.name, wantConfigsFault([]impl.Config{k.config}), func(c *impl.Cluster) { c.Configs = []impl.Config{k.config} })
		}
		for code, turns := range replicaTurns() {
			for _, turn := range turns {
				check("a replica", code, func(c *impl.Cluster) { turn(&c.Replicas[f]) })
			}
		}
		for _, k := range wrongStatements() {
			check(k.name, k.want, func(c *impl.Cluster) { c.Shares = append(c.Shares, share(c.Bad[0], k.x)) })
		}
		check("no replicas", impl.ErrForm, func(c *impl.Cluster) { c.Replicas = nil })
		check("a bad one among the replicas", impl.ErrForm, func(c *impl.Cluster) { c.Replicas[0].Id = c.Bad[0] })
		check("121 shares", impl.ErrMany, func(c *impl.Cluster) { c.Shares = distinctShares(121) })
		check("a share that nobody stands by", impl.ErrSign, func(c *impl.Cluster) { c.Shares = append(c.Shares, share(c.Replicas[0].Id, issue(2, 1, 1))) })
		check("a take unseen", impl.ErrSign, func(c *impl.Cluster) { c.Replicas[2].Said = append(c.Replicas[2].Said, take(2, 2)) })
		check("a share of a take", impl.ErrForm, func(c *impl.Cluster) { c.Shares = append(c.Shares, share(c.Bad[0], take(2, 1))) })
		check("a share twice", impl.ErrTaken, func(c *impl.Cluster) { c.Shares = append(c.Shares, c.Shares[1]) })
	}
	checkCodes(t, "a fault", codes, impl.ErrForm, impl.ErrMany, impl.ErrRange, impl.ErrState)
}

func checkWords(t *testing.T, line string, words ...string) {
	t.Helper()
	if want := wantWords(line); !slices.Equal(want, words) {
		t.Errorf("the words of %.300q are worked out as %.300q, not %.300q", line, want, words)
	}
	if got := impl.WordsOf(line); got.Code != impl.OK || !slices.Equal(got.Words, words) {
		t.Errorf("WordsOf(%.300q) = %d %.300q, want %.300q", line, got.Code, got.Words, words)
	}
}

func TestWordsOfByHand(t *testing.T) {
	checkWords(t, "")
	checkWords(t, " ")
	checkWords(t, "     ")
	checkWords(t, "a", "a")
	checkWords(t, "show", "show")
	checkWords(t, " show", "show")
	checkWords(t, "show ", "show")
	checkWords(t, "   show   ", "show")
	checkWords(t, "a b", "a", "b")
	checkWords(t, " a  b ", "a", "b")
	checkWords(t, "    crash 1    2", "crash", "1", "2")
	checkWords(t, "ask 1 issue 2 2 {1,3}", "ask", "1", "issue", "2", "2", "{1,3}")
	checkWords(t, "a a  a   a", "a", "a", "a", "a")
	checkWords(t, "{1, 3}", "{1,", "3}")
	checkWords(t, "\t", "\t") // what is no blank stands in a word, whatever it is
	checkWords(t, " a\tb\nc ", "a\tb\nc")
	checkWords(t, "\n", "\n")
	checkWords(t, "show\n", "show\n")
	checkWords(t, "\n show", "\n", "show")
	checkWords(t, "\r\n \v \f \x00", "\r\n", "\v", "\f", "\x00")
	checkWords(t, "\u00a0\u2003 \u3000", "\u00a0\u2003", "\u3000")
	checkWords(t, "é ß 漢字", "é", "ß", "漢字")
	checkWords(t, "\x80 \xff\xfe \xc3 \xa0", "\x80", "\xff\xfe", "\xc3", "\xa0")
	checkWords(t, "\x1f \x21", "\x1f", "!")
	checkWords(t, "\xc3 \xa9", "\xc3", "\xa9") // a blank between the bytes of a rune
	for _, count := range []int{1, 2, 40, 600, 1199, 1200, 1201, 20000} {
		checkWords(t, strings.Repeat(" ", count))
		checkWords(t, strings.Repeat("w", count), strings.Repeat("w", count))
		checkWords(t, strings.Repeat(" ", count)+"w", "w")
		checkWords(t, "w"+strings.Repeat(" ", count)+"v", "w", "v")
		checkWords(t, strings.Repeat("w ", count), slices.Repeat([]string{"w"}, count)...)
		checkWords(t, strings.Repeat("  \xe9", count), slices.Repeat([]string{"\xe9"}, count)...)
	}
	for b := range 256 {
		if one := string([]byte{byte(b)}); b != ' ' {
			checkWords(t, one, one)
			checkWords(t, " "+one+one+"  "+one, one+one, one)
		}
	}
}

func TestWordsOfAllShortLines(t *testing.T) {
	letters := []string{" ", "a", "1", "\t", "\n", "\xa0"}
	lines := []string{""}
	for range 5 {
		for _, line := range lines {
			for _, letter := range letters {
				if len(line) < 5 {
					lines = append(lines, line+letter)
				}
			}
		}
		slices.Sort(lines)
		lines = slices.Compact(lines)
	}
	if len(lines) != 1+6+36+216+1296+7776 {
		t.Fatalf("%d lines", len(lines))
	}
	for _, line := range lines {
		got := impl.WordsOf(line)
		if got.Code != impl.OK || !slices.Equal(got.Words, wantWords(line)) {
			t.Fatalf("WordsOf(%q) = %+v", line, got)
		}
		if strings.Join(got.Words, "") != strings.ReplaceAll(line, " ", "") {
			t.Fatalf("something of %q is not in %q", line, got.Words)
		}
		for _, word := range got.Words {
			if word == "" || strings.Contains(word, " ") {
				t.Fatalf("%q of %q is no word", word, line)
			}
		}
	}
}

func TestClusterTextByHand(t *testing.T) {
	for f := int64(1); f <= 2; f++ {
		for _, bad := range badOnes(f) {
			text := ""
			for _, id := range goodOf(f, bad...) {
				text += fmt.Sprintf("replica %d 0 0 0\n", id)
			}
			c := impl.NewCluster(withF(house(), f), bad).Cluster
			deskOf(c).checkShow(t, "a new one", text)
			for _, id := range bad { // who is bad is no replica, and what is not signed is not told
				c = done(t, c, forges(id, next(9, 7)), forges(id, issue(2, 2, 1)))
			}
			deskOf(c).checkShow(t, "what is forged is not signed", text)
		}
	}
	deskOf(township(t, 1)).checkShow(t, "the township of four",
		"replica 1 5 6 4\nreplica 2 3 4 1\nreplica 4 3 4 1\n"+
			"signed issue 2 2 {1}\nsigned revoke 2 4 {1,4}\nsigned next 2 1\n")
	deskOf(township(t, 2)).checkShow(t, "the township of seven",
		"replica 1 6 7 4\nreplica 3 4 5 1\nreplica 4 4 5 1\nreplica 6 5 5 1\nreplica 7 4 4 1\n"+
			"signed revoke 2 1 {1,2}\nsigned issue 2 2 {1}\nsigned revoke 2 4 {1,4}\nsigned next 2 1\n")
	deskOf(crowd(120, 40)).checkShow(t, "a crowd", "replica 1 0 40 0\nreplica 2 0 0 0\nreplica 3 0 0 0\nreplica 4 0 0 0\nreplica 5 0 0 0\n")
}

func TestClusterTextStepByStep(t *testing.T) {
	c := impl.NewCluster(house(), nil).Cluster
	for _, k := range []struct {
		deed deed
		text string
	}{
		{asks(2, revoke(2, 4, 255)), "replica 1 0 0 0\nreplica 2 0 1 0\nreplica 3 0 0 0\nreplica 4 0 0 0\n"}, // without a lock
		{asks(2, issue(2, 3, 7)), "replica 1 0 0 0\nreplica 2 0 2 3\nreplica 3 0 0 0\nreplica 4 0 0 0\n"},    // with one for each of three
		{crashes(2, 1), "replica 1 0 0 0\nreplica 2 1 1 0\nreplica 3 0 0 0\nreplica 4 0 0 0\n"},              // it is sure of what is left, without a share
		{asks(3, revoke(2, 4, 255)), "replica 1 0 0 0\nreplica 2 1 1 0\nreplica 3 0 1 0\nreplica 4 0 0 0\n"},
		{asks(4, revoke(2, 4, 255)), "replica 1 0 0 0\nreplica 2 1 1 0\nreplica 3 0 1 0\nreplica 4 0 1 0\n"},
		{syncs(4), "replica 1 0 0 0\nreplica 2 1 1 0\nreplica 3 0 1 0\nreplica 4 1 1 0\n"},
		{asks(4, issue(2, 2, 2)), "replica 1 0 0 0\nreplica 2 1 1 0\nreplica 3 0 1 0\nreplica 4 1 2 1\n"},
		{asksAll(issue(2, 2, 4)), "replica 1 1 1 1\nreplica 2 2 2 1\nreplica 3 2 2 1\nreplica 4 3 3 2\nsigned revoke 2 4 {1,2,3,4,5,6,7,8}\nsigned issue 2 2 {3}\n"},
		{asksAll(issue(2, 3, 1)), "replica 1 2 2 2\nreplica 2 3 3 2\nreplica 3 3 3 2\nreplica 4 4 4 3\n" +
			"signed revoke 2 4 {1,2,3,4,5,6,7,8}\nsigned issue 2 2 {3}\nsigned issue 2 3 {1}\n"},
	} {
		c = after(t, c, k.deed)
		deskOf(c).checkShow(t, k.deed.name, k.text)
	}
}

func TestClusterTextInTheOrderOfSignedOf(t *testing.T) { // by first shares, not by what is signed first
	for f := int64(1); f <= 2; f++ {
		list := said(revoke(2, 4, 8), next(2, 2), issue(2, 2, 2), revoke(2, 1, 1), issue(2, 3, 5))
		for by := range list {
			turned := slices.Concat(list[by:], list[:by])
			c := impl.NewCluster(withF(house(), f), []int64{3}).Cluster
			text := ""
			for _, x := range turned {
				c = done(t, c, forges(3, x))
				text += "signed " + textOfSaid(x) + "\n"
			}
			for _, x := range list {
				if x.Kind != impl.SayNext {
					c = done(t, c, asksAll(x))
				}
			}
			c = done(t, c, asksAll(next(2, 2)))
			if got := impl.ClusterText(c); !strings.HasSuffix(got.Text, "\n"+text) || strings.Count(got.Text, "signed") != len(list) {
				t.Errorf("%+v, want %q at the end", got, text)
			}
			if want := deskOf(c).show(); impl.ClusterText(c) != want {
				t.Errorf("%+v, want %+v", impl.ClusterText(c), want)
			}
		}
	}
}

func TestCheckTextByHand(t *testing.T) {
	for f := int64(1); f <= 2; f++ {
		k := deskOf(township(t, f))
		k.checkCheck(t, "signed", issue(2, 2, 1), impl.OK, "accepted")
		k.checkCheck(t, "signed by one alone", issue(2, 3, 6), impl.ErrSign, "")
		k.checkCheck(t, "said by one who is not sure", issue(3, 1, 2), impl.ErrSign, "")
		k.checkCheck(t, "revoked, but never issued", issue(2, 4, 9), impl.ErrSign, "")
		k.checkCheck(t, "not allowed", issue(2, 2, 3), impl.ErrSign, "")
		k.checkCheck(t, "an epoch that is not reached", issue(4, 1, 1), impl.ErrState, "")
		k.checkCheck(t, "an epoch below", issue(1, 2, 1), impl.ErrState, "")
		k.checkCheck(t, "forged, of an epoch that is not reached", issue(9, 4, 255), impl.ErrState, "")
		for _, x := range said(revoke(2, 4, 9), revoke(2, 2, 1), revoke(9, 1, 1), next(2, 1), next(2, 2), next(9, 7), take(2, 1), take(9, 7)) {
			k.checkCheck(t, "no issue, be it signed or not", x, impl.ErrForm, "")
		}
		for _, wrong := range wrongStatements() {
			k.checkCheck(t, wrong.name, wrong.x, wrong.want, "")
		}
		gone := deskOf(done(t, k.c, asksAll(revoke(2, 2, 1))))
		gone.checkCheck(t, "revoked", issue(2, 2, 1), impl.OK, "revoked")
		gone.checkCheck(t, "the revoke", revoke(2, 2, 1), impl.ErrForm, "")
		for _, x := range said(revoke(2, 2, 3), revoke(2, 3, 1), revoke(2, 1, 1)) {
			other := deskOf(done(t, k.c, asksAll(x)))
			other.checkCheck(t, "something else is revoked", issue(2, 2, 1), impl.OK, "accepted")
		}
		good := goodOf(f, k.c.Bad...)
		few := done(t, k.c, asks(good[0], revoke(2, 2, 1)), syncs(good[0]))
		for _, id := range k.c.Bad {
			few = done(t, few, forges(id, revoke(2, 2, 1)))
		}
		deskOf(few).checkCheck(t, "revoked by too few", issue(2, 2, 1), impl.OK, "accepted")
	}
}

func TestCheckTextBySigners(t *testing.T) { // just from as many on as have to sign, be they bad or not
	for f := int64(1); f <= 2; f++ {
		for _, bad := range badOnes(f) {
			c := impl.NewCluster(withF(house(), f), bad).Cluster
			x, gone := issue(2, 3, 5), revoke(2, 3, 5)
			for count, id := range turned(listOfSet(1<<(3*f+1)-1), 1) {
				c = done(t, c, signs(c, id, x)...)
				if int64(count)+1 <= 2*f {
					deskOf(c).checkCheck(t, "too few", x, impl.ErrSign, "")
				} else {
					deskOf(c).checkCheck(t, "enough", x, impl.OK, "accepted")
				}
			}
			for count, id := range turned(listOfSet(1<<(3*f+1)-1), 2) {
				c = done(t, c, signs(c, id, gone)...)
				want := "accepted"
				if int64(count)+1 > 2*f {
					want = "revoked"
				}
				deskOf(c).checkCheck(t, "revoked", x, impl.OK, want)
			}
		}
	}
}

func TestCheckTextOfEachEpoch(t *testing.T) { // behind as many steps as lead there
	for f := int64(1); f <= 2; f++ {
		for _, way := range waysInTheHouse() {
			c := impl.NewCluster(withF(house(), f), []int64{2}).Cluster
			list := said(issue(2, 2, 2))
			c = done(t, c, asksAll(list[0]))
			for _, step := range way.steps {
				x := issue(step.Epoch+1, 1, 1<<step.Next) // what the place it leads to allows, and no other one of its epoch
				deskOf(c).checkCheck(t, "ahead of the step", x, impl.ErrState, "")
				c = done(t, c, asksAll(step))
				deskOf(c).checkCheck(t, "ahead of the take", x, impl.ErrSign, "")
				c = done(t, c, asksAll(take(step.Epoch, step.Next)), asksAll(x))
				list = append(list, x)
			}
			for _, x := range list {
				deskOf(c).checkCheck(t, "each epoch", x, impl.OK, "accepted")
			}
			last := list[len(list)-1]
			c = done(t, c, asksAll(revoke(last.Epoch, last.Form, last.Set)))
			deskOf(c).checkCheck(t, "the last one", last, impl.OK, "revoked")
			if len(list) > 1 {
				deskOf(c).checkCheck(t, "the one ahead", list[len(list)-2], impl.OK, "accepted")
			}
		}
	}
	c := impl.NewCluster(tower(), []int64{1, 7}).Cluster
	for _, step := range climb(1, 7) {
		c = done(t, c, asksAll(step), asksAll(take(step.Epoch, step.Next)))
	}
	c = done(t, c, asksAll(issue(8, 2, 255)))
	deskOf(c).checkCheck(t, "the longest way", issue(8, 2, 255), impl.OK, "accepted")
	deskOf(c).checkCheck(t, "beyond it", issue(9, 2, 255), impl.ErrState, "")
}

func TestStepScriptByHand(t *testing.T) {
	k := deskOf(township(t, 1)) // 3 is bad
	show := "replica 1 5 6 4\nreplica 2 3 4 1\nreplica 4 3 4 1\nsigned issue 2 2 {1}\nsigned revoke 2 4 {1,4}\nsigned next 2 1\n"
	for _, c := range []struct {
		line string
		code int64
		said string
	}{
		{"ask 1 issue 3 2 {1}", impl.OK, "ok"},
		{"ask 2 issue 3 2 {3}", impl.OK, "ok"},
		{"ask 4 issue 2 2 {1}", impl.OK, "ok"}, // it said it already
		{"ask 4 issue 2 3 {1,2,3}", impl.ErrOld, ""},
		{"ask 4 issue 3 2 {1}", impl.ErrNone, ""}, // it knows no configuration of that epoch
		{"ask 1 issue 3 2 {2}", impl.ErrTaken, ""},
		{"ask 1 issue 3 1 {1}", impl.ErrPolicy, ""},
		{"ask 1 issue 3 4 {1}", impl.ErrPolicy, ""},
		{"ask 3 issue 2 2 {1}", impl.ErrNone, ""},
		{"ask 0 issue 2 2 {1}", impl.ErrNone, ""},
		{"ask 5 issue 2 2 {1}", impl.ErrNone, ""},
		{"ask 9 issue 2 2 {1}", impl.ErrNone, ""},
		{"ask 1 revoke 3 1 {2}", impl.OK, "ok"},
		{"ask 2 revoke 2 4 {1,2,3,4,5,6,7,8}", impl.OK, "ok"},
		{"ask 4 revoke 3 1 {2}", impl.ErrNone, ""},
		{"ask 1 next 3 3", impl.OK, "ok"},
		{"ask 2 next 3 6", impl.OK, "ok"},
		{"ask 4 next 2 1", impl.OK, "ok"},
		{"ask 4 next 2 2", impl.ErrTaken, ""},
		{"ask 1 next 3 7", impl.ErrRange, ""},
		{"ask 1 next 3 1", impl.ErrState, ""},
		{"ask 4 next 3 3", impl.ErrNone, ""},
		{"ask 4 take 2 1", impl.OK, "ok"},
		{"ask 1 take 2 1", impl.OK, "ok"},
		{"ask 4 take 2 2", impl.ErrSign, ""},
		{"ask 1 take 3 7", impl.ErrSign, ""}, // ahead of the place that is not there
		{"ask 3 take 2 2", impl.ErrNone, ""}, // ahead of what is not signed
		{"ask 9 take 9 7", impl.ErrNone, ""},
		{"all issue 2 2 {1}", impl.OK, "ok"}, // all said it, and are sure of all else then
		{"all issue 3 2 {1}", impl.OK, "ok"},
		{"all issue 9 4 {8}", impl.OK, "ok"}, // nobody knows of it
		{"all revoke 2 2 {1}", impl.OK, "ok"},
		{"all next 2 2", impl.OK, "ok"},
		{"all next 3 3", impl.OK, "ok"},
		{"all take 2 1", impl.OK, "ok"},
		{"all take 2 2", impl.OK, "ok"},
		{"forge 3 issue 2 3 {2,3}", impl.OK, "ok"},
		{"forge 3 issue 9 4 {1,2,3,4,5,6,7,8}", impl.OK, "ok"}, // it is there
		{"forge 3 revoke 1 1 {1}", impl.OK, "ok"},
		{"forge 3 next 9 7", impl.OK, "ok"},
		{"forge 3 take 2 1", impl.ErrForm, ""},
		{"forge 1 issue 2 2 {1}", impl.ErrSign, ""}, // it is there, but 1 is not bad
		{"forge 4 next 2 2", impl.ErrSign, ""},
		{"forge 2 revoke 2 2 {1}", impl.ErrSign, ""},
		{"forge 1 take 2 1", impl.ErrForm, ""}, // ahead of who is not bad
		{"forge 0 issue 2 2 {1}", impl.ErrRange, ""},
		{"forge 5 next 2 2", impl.ErrRange, ""},
		{"forge 9 take 2 1", impl.ErrRange, ""}, // ahead of what is a take
		{"sync 1", impl.OK, "ok"},
		{"sync 2", impl.OK, "ok"},
		{"sync 4", impl.OK, "ok"},
		{"sync 3", impl.ErrNone, ""},
		{"sync 0", impl.ErrNone, ""},
		{"sync 5", impl.ErrNone, ""},
		{"sync 9", impl.ErrNone, ""},
		{"crash 1 0", impl.OK, "ok"},
		{"crash 1 1", impl.OK, "ok"},
		{"crash 2 0", impl.OK, "ok"},
		{"crash 1 2", impl.ErrRange, ""},
		{"crash 4 9", impl.ErrRange, ""},
		{"crash 3 0", impl.ErrNone, ""},
		{"crash 0 0", impl.ErrNone, ""},
		{"crash 9 9", impl.ErrNone, ""}, // ahead of how many are kept
		{"check issue 2 2 {1}", impl.OK, "accepted"},
		{"check issue 2 3 {2,3}", impl.ErrSign, ""},
		{"check issue 3 1 {2}", impl.ErrSign, ""},
		{"check issue 4 1 {2}", impl.ErrState, ""}, // ahead of what is not signed
		{"check issue 9 4 {1,2,3,4,5,6,7,8}", impl.ErrState, ""},
		{"check revoke 2 4 {1,4}", impl.ErrForm, ""},
		{"check next 2 1", impl.ErrForm, ""},
		{"check take 9 7", impl.ErrForm, ""},
		{"show", impl.OK, show},
		{"", impl.OK, ""},
		{" ", impl.OK, ""},
		{"                    ", impl.OK, ""},
		{"wink", impl.ErrText, ""},
	} {
		got := k.checkStep(t, c.line, c.code, c.said)
		if words := wantWords(c.line); c.code == impl.OK && (len(words) == 0 || words[0] == "check" || words[0] == "show") && !sameClusters(impl.ClusterResult{Cluster: got}, impl.ClusterResult{Cluster: k.c}) {
			t.Errorf("%q changes %s to %s", c.line, textOfCluster(k.c), textOfCluster(got))
		}
	}
}

// clerk tells lines to a cluster, one behind the other.
func clerk(t *testing.T, c impl.Cluster, lines ...string) impl.Cluster {
	t.Helper()
	for _, line := range lines {
		want := deskOf(c).told(t, "a line", line)
		if want.Code != impl.OK {
			t.Fatalf("%q of %s has code %d", line, textOfCluster(c), want.Code)
		}
		c = want.Cluster
	}
	return c
}

func TestStepScriptDoesWhatItsCallDoes(t *testing.T) { // each command by each kind of statement, told by lines and by calls
	saids := map[string]impl.Statement{
		"issue 2 2 {1}": issue(2, 2, 1), "issue 2 3 {1,2,3}": issue(2, 3, 7), "issue 3 1 {2}": issue(3, 1, 2), "issue 3 2 {3}": issue(3, 2, 4), "issue 9 4 {1,2,3,4,5,6,7,8}": issue(9, 4, 255),
		"revoke 2 2 {1}": revoke(2, 2, 1), "revoke 2 4 {1,4}": revoke(2, 4, 9), "revoke 9 1 {8}": revoke(9, 1, 128),
		"next 2 1": next(2, 1), "next 2 2": next(2, 2), "next 3 3": next(3, 3), "next 9 7": next(9, 7), "next 3 0": next(3, 0),
		"take 2 1": take(2, 1), "take 2 2": take(2, 2), "take 3 3": take(3, 3), "take 9 0": take(9, 0),
	}
	codes := map[int64]int{}
	for f := int64(1); f <= 2; f++ {
		c := township(t, f)
		hold := func(line string, call impl.ClusterResult) {
			t.Helper()
			want := impl.ScriptResult{Code: call.Code, Cluster: call.Cluster}
			if call.Code == impl.OK {
				want.Said = "ok"
			}
			if got := impl.StepScript(c, line); !sameScripts(got, want) {
				t.Errorf("%q of %s = %s, want %s", line, textOfCluster(c), textOfScript(got), textOfScript(want))
			}
			codes[call.Code]++
		}
		for n := range int64(10) {
			for text, x := range saids {
				hold(fmt.Sprintf("ask %d %s", n, text), impl.AskCluster(c, n, x))
				hold(fmt.Sprintf("forge %d %s", n, text), impl.ForgeCluster(c, share(n, x)))
			}
			hold(fmt.Sprintf("sync %d", n), impl.SyncCluster(c, n))
			for kept := range int64(10) {
				hold(fmt.Sprintf("crash %d %d", n, kept), impl.CrashCluster(c, n, kept))
			}
		}
		for text, x := range saids {
			hold("all "+text, impl.AskAll(c, x))
			check := impl.CheckText(c, x)
			want := impl.ScriptResult{Code: check.Code, Said: check.Text}
			if check.Code == impl.OK {
				want.Cluster = c
			}
			if got := impl.StepScript(c, "check "+text); !sameScripts(got, want) {
				t.Errorf("check %q = %s, want %s", text, textOfScript(got), textOfScript(want))
			}
		}
	}
	checkCodes(t, "a line", codes, impl.OK, impl.ErrForm, impl.ErrRange, impl.ErrNone, impl.ErrTaken, impl.ErrSign, impl.ErrOld)
}

func TestStepScriptUpToItsBounds(t *testing.T) {
	full := deskOf(crowd(120, 39))
	full.checkStep(t, "ask 1 revoke 2 3 {1}", impl.OK, "ok")
	full.checkStep(t, "sync 1", impl.ErrMany, "")
	full.checkStep(t, "sync 2", impl.OK, "ok")
	full.checkStep(t, "forge 6 next 2 1", impl.ErrMany, "")
	full.checkStep(t, "forge 7 take 2 1", impl.ErrForm, "")
	full.checkStep(t, "forge 6 revoke 9 1 {1}", impl.OK, "ok") // it is there
	full.checkStep(t, "all revoke 2 3 {1}", impl.OK, "ok")     // there is no room: nobody says it
	full.checkStep(t, "crash 1 9", impl.OK, "ok")
	said40 := deskOf(crowd(119, 40))
	said40.checkStep(t, "ask 1 revoke 2 3 {1}", impl.ErrMany, "")
	said40.checkStep(t, "ask 1 revoke 2 4 {1}", impl.OK, "ok") // it said it
	said40.checkStep(t, "ask 1 revoke 3 4 {1}", impl.ErrNone, "")
	said40.checkStep(t, "ask 1 take 2 1", impl.ErrSign, "")
	said40.checkStep(t, "forge 6 next 2 1", impl.OK, "ok")
	said40.checkStep(t, "sync 1", impl.ErrMany, "")
}

func TestLinesThatAreNone(t *testing.T) {
	lines := []string{
		"wink", "Show", "SHOW", "shows", "sho", "ok", "accepted", "!", "! 5", "replica", "replica 1 0 0 0", "signed issue 2 2 {1}", "1", "{1}", "#", "//",
		"issue 2 2 {1}", "revoke 2 2 {1}", "next 2 1", "take 2 1", "no words", "all", "ask", "forge", "sync", "crash", "check",
		"show 1", "show show", "show issue 2 2 {1}", "1 show",
		"sync", "sync 1 1", "sync 1 issue 2 2 {1}", "sync one", "sync {1}", "sync 01", "sync 10", "sync 12", "sync +1", "sync -1", "sync 1.", "sync 1,", "sync \u0661", "sync \uff11", "sync ¹", "1 sync", "sync1", "sync\t1", "sync\xa01",
		"crash 1", "crash", "crash 1 0 0", "crash 10", "crash 1 00", "crash 01 0", "crash 1 10", "crash 1 -1", "crash -1 0", "crash a 0", "crash 1 a", "crash 1 {}", "crash 1,0", "crash 1 0 issue 2 2 {1}", "0 crash 1",
		"all 1 issue 2 2 {1}", "all issue 2 2", "all issue 2 {1}", "all issue 2 2 {1} {1}", "all issue 2 2 {1} 1", "all next 2", "all next 2 1 1", "all take", "all all issue 2 2 {1}",
		"ask issue 2 2 {1}", "ask 1", "ask 1 issue", "ask 1 issue 2", "ask 1 issue 2 2", "ask 1 issue 2 2 {1} 1", "ask 1 1 issue 2 2 {1}", "ask 12 issue 2 2 {1}", "ask 01 issue 2 2 {1}", "ask x issue 2 2 {1}", "ask -1 issue 2 2 {1}", "ask {1} issue 2 2 {1}",
		"issue 2 2 {1} ask 1", "issue ask 1 2 2 {1}", "1 ask issue 2 2 {1}", "ask issue 1 2 2 {1}",
		"ask 1 2 issue 2 {1}", "ask 1 issue {1} 2 2", "ask 1 issue 2 {1} 2", "ask 1 {1} 2 2 issue", "ask 1 2 2 issue {1}", "ask 1 2 next 1", "ask 1 2 1 next", "all 2 next 1", "check {1} issue 2 2",
		"ask 1 issue 0 2 {1}", "ask 1 issue 10 2 {1}", "ask 1 issue 2 0 {1}", "ask 1 issue 2 5 {1}", "ask 1 issue 2 2 {}", "ask 1 issue 2 2 {9}", "ask 1 issue 2 2 {0}", "ask 1 issue 2 2 {2,1}", "ask 1 issue 2 2 {1,1}", "ask 1 issue 2 2 {1,}", "ask 1 issue 2 2 {1, 2}", "ask 1 issue 2 2 { 1 }", "ask 1 issue 2 2 1", "ask 1 issue 02 2 {1}", "ask 1 issue 2 02 {1}",
		"ask 1 next 0 1", "ask 1 next 10 1", "ask 1 next 2 8", "ask 1 next 2 9", "ask 1 next 2 -1", "ask 1 next 2 01", "ask 1 next 2 {1}", "ask 1 take 2 8", "ask 1 take 2", "ask 1 give 2 1", "ask 1 Issue 2 2 {1}", "ask 1 issues 2 2 {1}", "ask 1 revoked 2 2 {1}",
		"forge issue 2 2 {1}", "forge 4", "forge 44 issue 2 2 {1}", "forge 4 issue 2 2 {1} 4", "forge 4 4", "forge 4 show", "forge 4 ask 1 issue 2 2 {1}",
		"check", "check 1 issue 2 2 {1}", "check issue 2 2 {9}", "check issue 2 2 {1} now", "check show", "check accepted",
		"show\n", "\nshow", "sh\now", "\n", "\n\n", " \n ", "sync 1\n", "\nsync 1", "sync\n1", "sync \n1", "sync 1\nsync 1", "sync 1 \n", "ask 1 issue 2 2 {1}\n", "ask 1\nissue 2 2 {1}", "ask 1 issue 2 2\n{1}", "ask 1 issue 2 2 {1,\n2}",
		"show\r", "show\t", "\tshow", "show\x00", "show\v", "\u00a0show", "\ufeffshow", "show\xff", "show;", "show # all", "\"show\"",
	}
	for _, c := range []impl.Cluster{impl.NewCluster(house(), []int64{4}).Cluster, township(t, 1), township(t, 2)} {
		k := deskOf(c)
		for _, line := range lines {
			k.checkStep(t, line, impl.ErrText, "")
			if spread := "  " + strings.ReplaceAll(line, " ", "   ") + "  "; spread != line {
				k.checkStep(t, spread, impl.ErrText, "")
			}
		}
	}
}

// rightLines are of each command, by each kind of statement.
func rightLines() []string {
	return []string{
		"show", "sync 2", "crash 3 0", "ask 1 issue 2 2 {1}", "ask 2 issue 2 3 {1,2,3}", "ask 3 revoke 9 4 {2,4,8}", "ask 1 next 2 1", "ask 1 take 2 1", "all issue 2 2 {3}", "all revoke 2 1 {1}", "all next 2 2", "all take 2 7",
		"forge 4 issue 9 4 {1,2,3,4,5,6,7,8}", "forge 4 revoke 1 1 {5,6}", "forge 4 next 9 0", "forge 4 take 2 1", "check issue 2 2 {1}", "check revoke 2 2 {1}", "check next 2 1", "check take 2 1", "",
	}
}

func TestBlanksAroundWords(t *testing.T) { // however many they are, a line is told the same
	for _, c := range []impl.Cluster{impl.NewCluster(house(), []int64{4}).Cluster, township(t, 1)} {
		k := deskOf(c)
		for _, line := range rightLines() {
			want := k.told(t, "right", line)
			if want.Code == impl.ErrText {
				t.Errorf("%q cannot be read", line)
			}
			for _, ahead := range []int{0, 1, 2, 700} {
				for _, between := range []int{1, 2, 3, 400} {
					for _, behind := range []int{0, 1, 5, 2000} {
						spread := strings.Repeat(" ", ahead) + strings.ReplaceAll(line, " ", strings.Repeat(" ", between)) + strings.Repeat(" ", behind)
						if got := impl.StepScript(c, spread); !sameScripts(got, want) {
							t.Fatalf("%q is told %s, and with %d blanks ahead, %d between and %d behind %s", line, textOfScript(want), ahead, between, behind, textOfScript(got))
						}
					}
				}
			}
		}
	}
}

func TestLinesOneWordAway(t *testing.T) {
	k := deskOf(impl.NewCluster(stair(1, 2, 3, 3), []int64{4}).Cluster)
	unread, read := 0, 0
	tell := func(words []string) {
		t.Helper()
		if want := k.told(t, "a word away", strings.Join(words, " ")); want.Code == impl.ErrText {
			unread++
		} else {
			read++
		}
	}
	others := []string{"ask", "all", "forge", "sync", "crash", "check", "show", "issue", "revoke", "next", "take", "0", "1", "2", "5", "8", "9", "10", "{1}", "{1,8}", "{}", "x"}
	for _, line := range rightLines() {
		words := wantWords(line)
		for at := range words {
			tell(slices.Delete(slices.Clone(words), at, at+1))
			tell(slices.Insert(slices.Clone(words), at, words[at]))
			for to := range at {
				changed := slices.Clone(words)
				changed[at], changed[to] = changed[to], changed[at]
				tell(changed)
			}
			for _, other := range others {
				changed := slices.Clone(words)
				changed[at] = other
				tell(changed)
			}
		}
		for at := range len(words) + 1 {
			for _, other := range others {
				tell(slices.Insert(slices.Clone(words), at, other))
			}
		}
	}
	if unread < 2000 || read < 300 {
		t.Errorf("%d cannot be read, and %d can", unread, read)
	}
}

func TestLinesOneByteAway(t *testing.T) {
	k := deskOf(impl.NewCluster(stair(1, 2, 3, 3), []int64{4}).Cluster)
	unread, read := 0, 0
	tell := func(line string) {
		t.Helper()
		if want := k.told(t, "a byte away", line); want.Code == impl.ErrText {
			unread++
		} else {
			read++
		}
	}
	for _, line := range rightLines() {
		for at := range len(line) + 1 {
			for _, b := range "0129 k{,}\n\t\x00\u00a0" {
				tell(line[:at] + string(b) + line[at:])
				if at < len(line) {
					tell(line[:at] + string(b) + line[at+1:])
				}
			}
			tell(line[:at] + "\xa0" + line[at:])
			if at < len(line) {
				tell(line[:at] + line[at+1:])
			}
		}
	}
	if unread < 8000 || read < 400 {
		t.Errorf("%d cannot be read, and %d can", unread, read)
	}
}

func TestLinesOfAllStatements(t *testing.T) { // each one is read, behind each word that takes one
	c := impl.NewCluster(stair(1, 2, 3, 3), []int64{4}).Cluster
	at := 0
	for text, x := range saidTexts() {
		at++
		if x.Kind <= impl.SayRevoke && x.Epoch*7+x.Form*3+x.Set > 60 && (x.Epoch+x.Form+x.Set)%17 != 0 {
			continue
		}
		want := impl.ForgeCluster(c, share(4, x))
		if got := impl.StepScript(c, "forge 4 "+text); got.Code != want.Code || !sameClusters(impl.ClusterResult{Cluster: got.Cluster}, impl.ClusterResult{Cluster: want.Cluster}) {
			t.Fatalf("%q: %s", text, textOfScript(got))
		}
		want = impl.AskCluster(c, 1, x)
		if got := impl.StepScript(c, "ask 1 "+text); got.Code != want.Code || !sameClusters(impl.ClusterResult{Cluster: got.Cluster}, impl.ClusterResult{Cluster: want.Cluster}) {
			t.Fatalf("%q: %s", text, textOfScript(got))
		}
		want = impl.AskAll(c, x)
		if got := impl.StepScript(c, "all "+text); got.Code != want.Code || !sameClusters(impl.ClusterResult{Cluster: got.Cluster}, impl.ClusterResult{Cluster: want.Cluster}) {
			t.Fatalf("%q: %s", text, textOfScript(got))
		}
		if got := impl.StepScript(c, "check "+text).Code; got != impl.CheckText(c, x).Code || got == impl.OK || got == impl.ErrText {
			t.Fatalf("%q: %d", text, got)
		}
	}
	if at != 18504 {
		t.Errorf("%d statements", at)
	}
}
