package tests

import (
	"math"
	"regexp"
	"slices"
	"strconv"
	"strings"
	"testing"

	"loop.example/hive/impl"
)

var (
	eventWords = []string{"want", "make", "bind", "oust", "grow", "shrink", "tick", "come", "load", "die"}
	writeWords = []string{"want", "low", "make", "kill", "bind", "oust", "nom", "ask", "idle", "drop"}
)

func textLine(word string, numbers ...int) string {
	for _, n := range numbers {
		word += " " + strconv.Itoa(n)
	}
	return word
}

// modelCfgText is the chapter's text of what is asked once more, be it ok or not.
func modelCfgText(c impl.Cfg) string {
	lines := []string{textLine("cfg", c.Start, c.Calm, c.Idle, c.Back)}
	for _, w := range c.Works {
		lines = append(lines, textLine("work", w.Size.Cpu, w.Size.Mem, w.Min, w.Max, w.Target, w.Limit, w.Tol, w.Rank))
	}
	for _, g := range c.Groups {
		lines = append(lines, textLine("group", g.Size.Cpu, g.Size.Mem, g.Min, g.Max, g.Boot))
	}
	return strings.Join(lines, "\n")
}

func modelStateText(s impl.State) string {
	lines := []string{textLine("state", s.NextPod, s.NextNode)}
	for _, w := range s.Works {
		lines = append(lines, textLine("work", w.Want, w.Load, w.Low))
	}
	for _, g := range s.Groups {
		lines = append(lines, textLine("group", g.Asked, g.Rest, g.Fails))
	}
	for _, n := range s.Nodes {
		lines = append(lines, textLine("node", n.Id, n.Group, n.Boot, n.Idle))
	}
	for _, p := range s.Pods {
		lines = append(lines, textLine("pod", p.Id, p.Work, p.Node, p.Nom, p.Wait))
	}
	return strings.Join(lines, "\n")
}

// wordForm is the lines of a word with so many numbers, as they are written.
func wordForm(word string, numbers int) string {
	return word + strings.Repeat(` (?:0|-?[1-9][0-9]*)`, numbers)
}

var (
	cfgForm   = regexp.MustCompile(`\A` + wordForm("cfg", 4) + `(?:\n` + wordForm("work", 8) + `)*(?:\n` + wordForm("group", 5) + `)*\z`)
	stateForm = regexp.MustCompile(`\A` + wordForm("state", 2) + `(?:\n` + wordForm("work", 3) + `)*(?:\n` + wordForm("group", 3) + `)*(?:\n` + wordForm("node", 4) + `)*(?:\n` + wordForm("pod", 5) + `)*\z`)
	eventForm = regexp.MustCompile(`\A` + wordForm(`(?:`+strings.Join(eventWords, "|")+`)`, 2) + `\z`)
	aNumber   = regexp.MustCompile(`-?[0-9]+`)
	aWord     = regexp.MustCompile(`[a-z]+`)
)

// modelLines is the words of the lines of a text that has the form, and their numbers; false, if it has not, or a number is
// not -StateMaxId to StateMaxId.
func modelLines(text string, form *regexp.Regexp) ([]string, [][]int, bool) {
	if !form.MatchString(text) {
		return nil, nil, false
	}
	var words []string
	var numbers [][]int
	for _, l := range strings.Split(text, "\n") {
		var row []int
		for _, number := range strings.Split(l, " ")[1:] {
			n, err := strconv.ParseInt(number, 10, 64)
			if err != nil || n < -1000000 || n > 1000000 {
				return nil, nil, false
			}
			row = append(row, int(n))
		}
		words, numbers = append(words, strings.Split(l, " ")[0]), append(numbers, row)
	}
	return words, numbers, true
}

// modelCfgRead is the chapter's TextCfgRead once more.
func modelCfgRead(text string) (impl.Cfg, bool) {
	words, numbers, ok := modelLines(text, cfgForm)
	if !ok || len(text) > 4000 {
		return impl.Cfg{}, false
	}
	var c impl.Cfg
	for i, n := range numbers {
		switch words[i] {
		case "cfg":
			c.Start, c.Calm, c.Idle, c.Back = n[0], n[1], n[2], n[3]
		case "work":
			c.Works = append(c.Works, impl.CfgWork{Size: size(n[0], n[1]), Min: n[2], Max: n[3], Target: n[4], Limit: n[5], Tol: n[6], Rank: n[7]})
		case "group":
			c.Groups = append(c.Groups, impl.CfgGroup{Size: size(n[0], n[1]), Min: n[2], Max: n[3], Boot: n[4]})
		}
	}
	if !impl.CfgOk(c) {
		return impl.Cfg{}, false
	}
	return c, true
}

// modelStateRead is the chapter's TextStateRead once more.
func modelStateRead(text string) (impl.State, bool) {
	words, numbers, ok := modelLines(text, stateForm)
	if !ok || len(text) > 4000 {
		return impl.State{}, false
	}
	var s impl.State
	for i, n := range numbers {
		switch words[i] {
		case "state":
			s.NextPod, s.NextNode = n[0], n[1]
		case "work":
			s.Works = append(s.Works, impl.WorkState{Want: n[0], Load: n[1], Low: n[2]})
		case "group":
			s.Groups = append(s.Groups, impl.GroupState{Asked: n[0], Rest: n[1], Fails: n[2]})
		case "node":
			s.Nodes = append(s.Nodes, impl.Node{Id: n[0], Group: n[1], Boot: n[2], Idle: n[3]})
		case "pod":
			s.Pods = append(s.Pods, impl.Pod{Id: n[0], Work: n[1], Node: n[2], Nom: n[3], Wait: n[4]})
		}
	}
	return s, true
}

// modelEventRead is the chapter's TextEventRead once more.
func modelEventRead(text string) (impl.LoopEvent, bool) {
	words, numbers, ok := modelLines(text, eventForm)
	if !ok {
		return impl.LoopEvent{}, false
	}
	return impl.LoopEvent{Kind: 1 + slices.Index(eventWords, words[0]), A: numbers[0][0], N: numbers[0][1]}, true
}

func wantCfgRead(t *testing.T, why string, text string, want impl.Cfg, ok bool) {
	t.Helper()
	if got, read := impl.TextCfgRead(text); read != ok || !sameCfg(got, want) {
		t.Errorf("%s: TextCfgRead of %q is %v and %v, want %v and %v", why, text, got, read, want, ok)
	}
}

func wantStateRead(t *testing.T, why string, text string, want impl.State, ok bool) {
	t.Helper()
	if got, read := impl.TextStateRead(text); read != ok || !sameState(got, want) {
		t.Errorf("%s: TextStateRead of %q is %v and %v, want %v and %v", why, text, got, read, want, ok)
	}
}

func wantEventRead(t *testing.T, why string, text string, want impl.LoopEvent, ok bool) {
	t.Helper()
	if got, read := impl.TextEventRead(text); read != ok || got != want {
		t.Errorf("%s: TextEventRead of %q is %v and %v, want %v and %v", why, text, got, read, want, ok)
	}
}

// wantNotRead asks that nothing reads the text, and that beside the false there is nothing.
func wantNotRead(t *testing.T, why string, text string) {
	t.Helper()
	wantCfgRead(t, why, text, impl.Cfg{}, false)
	wantStateRead(t, why, text, impl.State{}, false)
	wantEventRead(t, why, text, impl.LoopEvent{}, false)
}

// wantCfgText asks that what is asked has the text, and that this is read as it was, and as nothing else.
func wantCfgText(t *testing.T, why string, c impl.Cfg, want string) {
	t.Helper()
	if got := impl.TextCfg(c); got != want {
		t.Errorf("%s: TextCfg is %q, want %q: %v", why, got, want, c)
	}
	wantCfgRead(t, why, want, c, true)
	wantStateRead(t, why, want, impl.State{}, false)
	wantEventRead(t, why, want, impl.LoopEvent{}, false)
}

// wantNoCfgText asks that what is asked is not ok and has no text, and that the one it would have is not read.
func wantNoCfgText(t *testing.T, why string, c impl.Cfg) {
	t.Helper()
	if impl.CfgOk(c) {
		t.Fatalf("%s: ok: %v", why, c)
	}
	if got := impl.TextCfg(c); got != "" {
		t.Errorf("%s: TextCfg is %q: %v", why, got, c)
	}
	wantNotRead(t, why, modelCfgText(c))
}

// wantCfgTextIfOk asks one or the other.
func wantCfgTextIfOk(t *testing.T, why string, c impl.Cfg, ok bool) {
	t.Helper()
	if ok {
		wantCfgText(t, why, c, modelCfgText(c))
	} else {
		wantNoCfgText(t, why, c)
	}
}

// wantStateText asks that what there is has the text, and that this is read as it was, and as nothing else.
func wantStateText(t *testing.T, why string, s impl.State, want string) {
	t.Helper()
	if got := impl.TextState(s); got != want {
		t.Errorf("%s: TextState is %q, want %q: %v", why, got, want, s)
	}
	wantStateRead(t, why, want, s, true)
	wantCfgRead(t, why, want, impl.Cfg{}, false)
	wantEventRead(t, why, want, impl.LoopEvent{}, false)
}

// wantOnlyWritten asks that what there is has the text, but that this is not read.
func wantOnlyWritten(t *testing.T, why string, s impl.State, want string) {
	t.Helper()
	if got := impl.TextState(s); got != want {
		t.Errorf("%s: TextState is %q, want %q: %v", why, got, want, s)
	}
	wantNotRead(t, why, want)
}

// wantEventText asks that the event has the text, and that this is read as it was, and as nothing else; an empty text is
// none.
func wantEventText(t *testing.T, why string, e impl.LoopEvent, want string) {
	t.Helper()
	if got := impl.TextEvent(e); got != want {
		t.Errorf("%s: TextEvent of %v is %q, want %q", why, e, got, want)
	}
	if want == "" {
		return
	}
	wantEventRead(t, why, want, e, true)
	wantCfgRead(t, why, want, impl.Cfg{}, false)
	wantStateRead(t, why, want, impl.State{}, false)
}

func wantWriteText(t *testing.T, why string, w impl.Write, want string) {
	t.Helper()
	if got := impl.TextWrite(w); got != want {
		t.Errorf("%s: TextWrite of %v is %q, want %q", why, w, got, want)
	}
}

// wantReads is P15 of any text: it is read just as the chapter says, and what is read has just this text. It tells whether
// anything was read.
func wantReads(t *testing.T, why string, text string) bool {
	t.Helper()
	c, asked := modelCfgRead(text)
	wantCfgRead(t, why, text, c, asked)
	s, is := modelStateRead(text)
	wantStateRead(t, why, text, s, is)
	e, happens := modelEventRead(text)
	wantEventRead(t, why, text, e, happens)
	if asked && impl.TextCfg(c) != text || is && impl.TextState(s) != text || happens && impl.TextEvent(e) != text {
		t.Errorf("%s: %q is read, but is not what is written", why, text)
	}
	return asked || is || happens
}

// The limit of the document's table.
func TestTextLimits(t *testing.T) {
	if impl.TextMax != 4000 {
		t.Errorf("TextMax is %d", impl.TextMax)
	}
}

func TestTextCfg(t *testing.T) {
	// No two numbers of a line are alike.
	apart := impl.Cfg{
		Works:  []impl.CfgWork{{Size: size(11, 12), Min: 3, Max: 5, Target: 70, Limit: 90, Tol: 60, Rank: 7}},
		Groups: []impl.CfgGroup{{Size: size(13, 14), Min: 1, Max: 2, Boot: 8}},
		Start:  6, Calm: 5, Idle: 4, Back: 3,
	}
	few := wideCfg()
	few.Works, few.Groups = few.Works[1:2], few.Groups[:2]
	for _, x := range []struct {
		why  string
		c    impl.Cfg
		want string
	}{
		{"of the desk", plainCfg(), "cfg 1 2 2 1\nwork 2 1 1 4 100 150 0 1\nwork 1 3 1 2 10 20 0 0\ngroup 4 6 0 3 2"},
		{"as many kinds as may be", wideCfg(), "cfg 3 4 5 6\nwork 2 1 2 4 100 150 100 9\nwork 1 3 1 7 10 20 500 0\nwork 0 2 3 5 7 9 0 4\ngroup 9 9 1 2 3\ngroup 0 0 0 6 7\ngroup 4 7 2 8 1"},
		{"the greatest numbers", tightCfg(), "cfg 8 8 8 8" + strings.Repeat("\nwork 10000 10000 1 8 9999 10000 0 9", 3) + strings.Repeat("\ngroup 10000 10000 0 8 8", 3)},
		{"the least numbers", leastCfg(), "cfg 1 1 2 1\nwork 0 1 1 1 1 2 0 0\ngroup 0 0 0 0 1"},
		{"all told apart", apart, "cfg 6 5 4 3\nwork 11 12 3 5 70 90 60 7\ngroup 13 14 1 2 8"},
		{"a work and two groups", few, "cfg 3 4 5 6\nwork 1 3 1 7 10 20 500 0\ngroup 9 9 1 2 3\ngroup 0 0 0 6 7"},
	} {
		wantCfgText(t, x.why, x.c, x.want)
	}
}

// Each limit of what is asked just met, and one more; numbers of any greatness.
func TestTextCfgAtTheLimits(t *testing.T) {
	for _, start := range okCfgs() {
		c := copyCfg(start)
		for _, f := range cfgFields(&c) {
			was := *f.at
			for _, n := range append([]int{f.least - 1, f.least, f.least + 1, f.most - 1, f.most, f.most + 1}, wildNumbers...) {
				*f.at = n
				wantCfgTextIfOk(t, f.why, c, f.least <= n && n <= f.most)
			}
			*f.at = was
		}
		wantCfgText(t, "put back", c, modelCfgText(start))
	}
	for _, x := range []struct {
		target, limit, tol int
		ok                 bool
	}{
		{1, 2, 0, true}, {0, 2, 0, false}, {-1, 2, 0, false}, {2, 2, 0, false}, {9999, 10000, 0, true}, {9999, 10001, 0, false}, {10000, 10000, 0, false},
		{100, 200, 500, true}, {100, 200, 501, false}, {100, 200, -1, false}, {100, 150, 499, true}, {100, 150, 500, false},
	} {
		c := oneWork(impl.CfgWork{Min: 1, Max: 3, Target: x.target, Limit: x.limit, Tol: x.tol})
		wantCfgTextIfOk(t, "a load", c, x.ok)
	}
}

// As many kinds as may be, none, and one more.
func TestTextCfgOfEachNumberOfKinds(t *testing.T) {
	for works := range 6 {
		for groups := range 6 {
			c := wideCfg()
			c.Works = slices.Repeat(c.Works[:1], works)
			c.Groups = slices.Repeat(c.Groups[:1], groups)
			wantCfgTextIfOk(t, "kinds", c, works >= 1 && works <= 3 && groups >= 1 && groups <= 3)
		}
	}
	wantNoCfgText(t, "nothing", impl.Cfg{})
	for _, x := range wrongLooks() {
		wantCfgTextIfOk(t, x.why, x.c, impl.CfgOk(x.c))
	}
}

func TestTextState(t *testing.T) {
	for _, x := range []struct {
		why  string
		s    impl.State
		want string
	}{
		{"nothing", impl.State{}, "state 0 0"},
		{"empty lists", impl.State{Pods: []impl.Pod{}, Nodes: []impl.Node{}, Works: []impl.WorkState{}, Groups: []impl.GroupState{}}, "state 0 0"},
		{"open", impl.StateOpen(plainCfg()), "state 1 1\nwork 1 0 0\nwork 1 0 0\ngroup 0 0 0"},
		{"plain", plainState(), "state 5 3\nwork 1 0 0\nwork 2 15 0\ngroup 1 0 0\nnode 1 0 0 0\nnode 2 0 2 0\npod 1 0 1 0 1\npod 2 1 1 0 0\npod 4 1 0 1 0"},
		{"wide", wideState(), "state 20 10\nwork 3 250 2\nwork 1 0 4\nwork 5 1000000 0\ngroup 1 48 3\ngroup 0 0 0\ngroup 2 5 1\n" +
			"node 2 0 0 0\nnode 3 1 7 0\nnode 5 2 0 2\nnode 6 2 1 1\nnode 9 2 0 5\n" +
			"pod 1 0 2 0 0\npod 2 1 5 0 3\npod 4 2 2 0 1\npod 6 0 0 5 0\npod 7 1 0 0 0\npod 9 2 5 0 0\npod 10 1 2 0 0\npod 13 2 0 2 0"},
		{"a work alone", impl.State{Works: []impl.WorkState{{Want: 1, Load: 2, Low: 3}}}, "state 0 0\nwork 1 2 3"},
		{"a group alone", impl.State{Groups: []impl.GroupState{{Asked: 1, Rest: 2, Fails: 3}}}, "state 0 0\ngroup 1 2 3"},
		{"a node alone", impl.State{Nodes: []impl.Node{{Id: 1, Group: 2, Boot: 3, Idle: 4}}}, "state 0 0\nnode 1 2 3 4"},
		{"a pod alone", impl.State{Pods: []impl.Pod{{Id: 1, Work: 2, Node: 3, Nom: 4, Wait: 5}}}, "state 0 0\npod 1 2 3 4 5"},
		{"one of each, all told apart", impl.State{
			Pods: []impl.Pod{{Id: 1, Work: 2, Node: 3, Nom: 4, Wait: 5}}, Nodes: []impl.Node{{Id: 6, Group: 7, Boot: 8, Idle: 9}},
			Works: []impl.WorkState{{Want: 10, Load: 11, Low: 12}}, Groups: []impl.GroupState{{Asked: 13, Rest: 14, Fails: 15}},
			NextPod: 16, NextNode: 17,
		}, "state 16 17\nwork 10 11 12\ngroup 13 14 15\nnode 6 7 8 9\npod 1 2 3 4 5"},
		{"numbers below 0", impl.State{
			Pods: []impl.Pod{{Id: -1, Work: -20, Node: -300, Nom: -4000, Wait: -50000}}, NextPod: -1000000, NextNode: -10,
		}, "state -1000000 -10\npod -1 -20 -300 -4000 -50000"},
		{"pods alike, in any order", impl.State{Pods: []impl.Pod{{Id: 7}, {Id: 3}, {Id: 7}, {Id: 7}}}, "state 0 0\npod 7 0 0 0 0\npod 3 0 0 0 0\npod 7 0 0 0 0\npod 7 0 0 0 0"},
		{"nodes alike, in any order", impl.State{Nodes: []impl.Node{{Id: 7}, {Id: 3}, {Id: 7}}}, "state 0 0\nnode 7 0 0 0\nnode 3 0 0 0\nnode 7 0 0 0"},
	} {
		wantStateText(t, x.why, x.s, x.want)
	}
}

// What there is, be it ok or not, is read as it was.
func TestTextOfAllThatThereIs(t *testing.T) {
	for _, x := range append(okStates(), wrongStates()...) {
		if text := modelStateText(x.s); len(text) <= impl.TextMax && stateIsSmall(x.s) {
			wantStateText(t, x.why, x.s, text)
		} else {
			wantOnlyWritten(t, x.why, x.s, text)
		}
	}
}

func stateIsSmall(s impl.State) bool {
	s = copyState(s)
	return !slices.ContainsFunc(everyField(&s), func(n *int) bool { return *n < -impl.StateMaxId || *n > impl.StateMaxId })
}

// Numbers just within what is read and just beyond it, of any greatness, in each place of what there is.
func TestTextStateAtTheLimits(t *testing.T) {
	for _, x := range append(okStates(), stateCase{"nothing", impl.Cfg{}, impl.State{}}) {
		s := copyState(x.s)
		for _, at := range everyField(&s) {
			was := *at
			for _, n := range []int{-impl.StateMaxId, -impl.StateMaxId + 1, -10, -9, -1, 0, 1, 9, 10, 99, 100, impl.StateMaxId - 1, impl.StateMaxId} {
				*at = n
				wantStateText(t, x.why, s, modelStateText(s))
			}
			for _, n := range []int{-impl.StateMaxId - 1, impl.StateMaxId + 1, 10 * impl.StateMaxId, math.MinInt, math.MinInt + 1, math.MaxInt, 1 << 32, 1 << 62} {
				*at = n
				wantOnlyWritten(t, x.why, s, modelStateText(s))
			}
			*at = was
		}
	}
	wantOnlyWritten(t, "the ends of numbers", impl.State{NextPod: math.MinInt, NextNode: math.MaxInt, Nodes: []impl.Node{{Id: math.MinInt, Idle: math.MaxInt}}},
		"state -9223372036854775808 9223372036854775807\nnode -9223372036854775808 0 0 9223372036854775807")
}

// Of two that are not the same the texts are two.
func TestTextTellsApart(t *testing.T) {
	seen := map[string]string{}
	add := func(why string, text string) {
		if other, found := seen[text]; found {
			t.Errorf("%s and %s have one text: %q", why, other, text)
		}
		seen[text] = why
	}
	s := copyState(wideState())
	for i, at := range everyField(&s) {
		*at += 3000 + i
		add("the number "+strconv.Itoa(i)+" of what there is", impl.TextState(s))
		*at -= 3000 + i
	}
	for kind := 1; kind <= 10; kind++ {
		for _, a := range []int{-1, 0, 1, 11} {
			for _, n := range []int{-1, 0, 1, 11} {
				e := impl.LoopEvent{Kind: kind, A: a, N: n}
				add("an event", impl.TextEvent(e))
			}
		}
	}
}

func TestTextEvent(t *testing.T) {
	for _, x := range []struct {
		e    impl.LoopEvent
		want string
	}{
		{impl.LoopEvent{Kind: impl.LoopWant, A: 0, N: -1}, "want 0 -1"},
		{impl.LoopEvent{Kind: impl.LoopMake, A: 1, N: 2}, "make 1 2"},
		{impl.LoopEvent{Kind: impl.LoopBind, A: -1, N: 0}, "bind -1 0"},
		{impl.LoopEvent{Kind: impl.LoopOust, A: 0, N: 3}, "oust 0 3"},
		{impl.LoopEvent{Kind: impl.LoopGrow, A: 10, N: 20}, "grow 10 20"},
		{impl.LoopEvent{Kind: impl.LoopShrink, A: 0, N: 0}, "shrink 0 0"},
		{impl.LoopEvent{Kind: impl.LoopTick}, "tick 0 0"},
		{impl.LoopEvent{Kind: impl.LoopCome, A: 1, N: -1}, "come 1 -1"},
		{impl.LoopEvent{Kind: impl.LoopLoad, A: 2, N: 1000000}, "load 2 1000000"},
		{impl.LoopEvent{Kind: impl.LoopDie, A: 1000000, N: -1000000}, "die 1000000 -1000000"},
		{impl.LoopEvent{Kind: 0, A: 1, N: 2}, ""},
		{impl.LoopEvent{}, ""},
		{impl.LoopEvent{Kind: 11, A: 1, N: 2}, ""},
		{impl.LoopEvent{Kind: 12}, ""},
		{impl.LoopEvent{Kind: -1, A: 1, N: 2}, ""},
		{impl.LoopEvent{Kind: -10}, ""},
	} {
		wantEventText(t, "by hand", x.e, x.want)
	}
}

// Each kind with numbers just within what is read and just beyond it, and of any greatness.
func TestTextEventAtTheLimits(t *testing.T) {
	numbers := append([]int{-impl.StateMaxId - 1, -impl.StateMaxId, -impl.StateMaxId + 1, -10, -1, 0, 1, 9, 10, 11, impl.StateMaxId - 1, impl.StateMaxId, impl.StateMaxId + 1}, wildNumbers...)
	isSmall := func(n int) bool { return n >= -impl.StateMaxId && n <= impl.StateMaxId }
	for _, kind := range append([]int{0, 1, 2, 3, 4, 5, 6, 7, 8, 9, 10, 11, 12, -1}, wildNumbers...) {
		for _, a := range numbers {
			for _, n := range numbers {
				e, want := impl.LoopEvent{Kind: kind, A: a, N: n}, ""
				if kind >= 1 && kind <= 10 {
					want = textLine(eventWords[kind-1], a, n)
				}
				if !isSmall(a) || !isSmall(n) {
					wantNotRead(t, "too great", want)
					want = ""
				}
				wantEventText(t, "at the limits", e, want)
			}
		}
	}
}

func TestTextWrite(t *testing.T) {
	wants := []string{"none", "want 3 5", "low 3 5", "make 3", "kill 3", "bind 3 4", "oust 3", "nom 3 4", "ask 3", "idle 3 5", "drop 3", "none", "none"}
	for kind, want := range wants {
		wantWriteText(t, "by kind", impl.Write{Kind: kind, A: 3, B: 4, N: 5}, want)
	}
	for _, x := range []struct {
		w    impl.Write
		want string
	}{
		{impl.Write{}, "none"},
		{setWant(0, 4), "want 0 4"},
		{setLow(1, 0), "low 1 0"},
		{makePod(0), "make 0"},
		{kill(12), "kill 12"},
		{bind(7, 2), "bind 7 2"},
		{oust(1000000), "oust 1000000"},
		{nom(4, 0), "nom 4 0"},
		{ask(2), "ask 2"},
		{setIdle(9, 1), "idle 9 1"},
		{drop(10), "drop 10"},
		{impl.Write{Kind: impl.WriteWant, A: -1, B: 8, N: -20}, "want -1 -20"},
		{impl.Write{Kind: impl.WriteNom, A: -1, B: -3, N: 7}, "nom -1 -3"},
		{impl.Write{Kind: impl.WriteDrop, A: math.MinInt, B: 1, N: 1}, "drop -9223372036854775808"},
		{impl.Write{Kind: impl.WriteIdle, A: math.MaxInt, N: math.MinInt}, "idle 9223372036854775807 -9223372036854775808"},
		{impl.Write{Kind: impl.WriteBind, A: math.MinInt, B: math.MaxInt}, "bind -9223372036854775808 9223372036854775807"},
	} {
		wantWriteText(t, "by hand", x.w, x.want)
	}
}

// modelWriteText is the chapter's TextWrite once more.
func modelWriteText(w impl.Write) string {
	if w.Kind < 1 || w.Kind > 10 {
		return "none"
	}
	word, numbers := writeWords[w.Kind-1], []int{w.A}
	if slices.Contains([]string{"bind", "nom"}, word) {
		numbers = append(numbers, w.B)
	}
	if slices.Contains([]string{"want", "low", "idle"}, word) {
		numbers = append(numbers, w.N)
	}
	return textLine(word, numbers...)
}

// Of numbers of any greatness too there is a text.
func TestTextWriteOfWildNumbers(t *testing.T) {
	numbers := append([]int{-impl.StateMaxId - 1, -1, 0, 1, 10, impl.StateMaxId, impl.StateMaxId + 1}, wildNumbers...)
	for _, kind := range append([]int{0, 1, 2, 3, 4, 5, 6, 7, 8, 9, 10, 11, 12, -1}, wildNumbers...) {
		for i, a := range numbers {
			b, n := numbers[(i+3)%len(numbers)], numbers[(i+8)%len(numbers)]
			for _, w := range []impl.Write{{Kind: kind, A: a, B: b, N: n}, {Kind: kind, A: b, B: n, N: a}, {Kind: kind, A: a, B: a, N: a}} {
				wantWriteText(t, "wild", w, modelWriteText(w))
			}
		}
	}
	for _, w := range someChanges() {
		wantWriteText(t, "some", w, modelWriteText(w))
	}
}

// Texts that nothing has, written out by hand.
func TestTextThatIsNone(t *testing.T) {
	for _, text := range []string{
		"", " ", "\n", "\n\n", "none", "cfg", "state", "work", "group", "node", "pod", "want", "tick", "die", "0", "1 1", "-", "cfg\n", "state\n", "tick\n",
		"\x00", "\xff", "\xff\xfe\xfd", "cfg\x00", "\xef\xbb\xbfstate 0 0", strings.Repeat("\x00", 100), strings.Repeat("\xff", 4001), "state\u00a00 0",

		// Of what is asked: with too few, too many, and other numbers.
		"cfg 1 1 2 1", "cfg 1 1 2 1\nwork 0 1 1 1 1 2 0 0", "cfg 1 1 2 1\ngroup 0 0 0 0 1", "work 0 1 1 1 1 2 0 0\ngroup 0 0 0 0 1",
		"cfg 1 1 2\nwork 0 1 1 1 1 2 0 0\ngroup 0 0 0 0 1", "cfg 1 1 2 1 1\nwork 0 1 1 1 1 2 0 0\ngroup 0 0 0 0 1", "cfg\nwork 0 1 1 1 1 2 0 0\ngroup 0 0 0 0 1",
		"cfg 1 1 2 1\nwork 0 1 1 1 1 2 0\ngroup 0 0 0 0 1", "cfg 1 1 2 1\nwork 0 1 1 1 1 2 0 0 0\ngroup 0 0 0 0 1",
		"cfg 1 1 2 1\nwork 0 1 1 1 1 2 0 0\ngroup 0 0 0 0", "cfg 1 1 2 1\nwork 0 1 1 1 1 2 0 0\ngroup 0 0 0 0 1 1",
		"cfg 1 1 1 1\nwork 0 1 1 1 1 2 0 0\ngroup 0 0 0 0 1", "cfg 1 1 2 1\nwork 0 0 1 1 1 2 0 0\ngroup 0 0 0 0 1", "cfg 1 1 2 1\nwork 0 1 1 1 1 2 0 0\ngroup 0 0 0 0 0",
		"cfg 01 1 2 1\nwork 0 1 1 1 1 2 0 0\ngroup 0 0 0 0 1", "cfg 1 1 2 1\nwork 00 1 1 1 1 2 0 0\ngroup 0 0 0 0 1", "cfg 1 1 2 1\nwork -0 1 1 1 1 2 0 0\ngroup 0 0 0 0 1",
		"cfg 1 1 2 +1\nwork 0 1 1 1 1 2 0 0\ngroup 0 0 0 0 1", "cfg 1 1 2 1\nwork 0 1 1 1 1 2 0 0\ngroup 0 0 0 0 01",
		// Its lines in another order, other lines among them, and other ends.
		"cfg 1 1 2 1\ngroup 0 0 0 0 1\nwork 0 1 1 1 1 2 0 0", "work 0 1 1 1 1 2 0 0\ncfg 1 1 2 1\ngroup 0 0 0 0 1", "work 0 1 1 1 1 2 0 0\ngroup 0 0 0 0 1\ncfg 1 1 2 1",
		"cfg 1 1 2 1\nwork 0 1 1 1 1 2 0 0\ngroup 0 0 0 0 1\nwork 0 1 1 1 1 2 0 0", "cfg 1 1 2 1\ncfg 1 1 2 1\nwork 0 1 1 1 1 2 0 0\ngroup 0 0 0 0 1",
		"cfg 1 1 2 1\nwork 0 1 1 1 1 2 0 0\ngroup 0 0 0 0 1\ncfg 1 1 2 1", "cfg 1 1 2 1\nwork 0 1 1 1 1 2 0 0\ngroup 0 0 0 0 1\nnode 1 0 0 0", "state 1 1\nwork 0 1 1 1 1 2 0 0\ngroup 0 0 0 0 1",
		"cfg 1 1 2 1\nwork 0 1 1 1 1 2 0 0\ngroup 0 0 0 0 1\n", "\ncfg 1 1 2 1\nwork 0 1 1 1 1 2 0 0\ngroup 0 0 0 0 1", "cfg 1 1 2 1\n\nwork 0 1 1 1 1 2 0 0\ngroup 0 0 0 0 1",
		"cfg 1 1 2 1\r\nwork 0 1 1 1 1 2 0 0\r\ngroup 0 0 0 0 1", "cfg 1 1 2 1\rwork 0 1 1 1 1 2 0 0\rgroup 0 0 0 0 1", "cfg 1 1 2 1 work 0 1 1 1 1 2 0 0 group 0 0 0 0 1",
		"cfg 1 1 2 1\nWork 0 1 1 1 1 2 0 0\ngroup 0 0 0 0 1", "CFG 1 1 2 1\nwork 0 1 1 1 1 2 0 0\ngroup 0 0 0 0 1", "cfg 1 1 2 1\nwork 0 1 1 1 1 2 0 0\ngroups 0 0 0 0 1",

		// Of what there is.
		"state 1", "state 1 1 1", "state 1 1\n", "\nstate 1 1", " state 1 1", "state 1 1 ", "state  1 1", "state 1  1", "state\t1 1", "state 1\t1", "state 1 1\r", "state 1 1\t", "state 1\n1",
		"State 1 1", "STATE 1 1", "stat 1 1", "states 1 1", "state1 1", "state 1 1\nstate 1 1", "state 1 1\nwork 1 0 0\nstate 1 1", "work 1 0 0\nstate 1 1", "work 1 0 0", "pod 1 0 0 0 0",
		"state 01 1", "state 1 01", "state 1 00", "state 00 1", "state -0 1", "state 1 -0", "state -01 1", "state 1 -01", "state +1 1", "state 1 +0", "state 1 ", "state  1", "state 1 -", "state --1 1",
		"state 1 1-", "state 1 1.0", "state 1 0x1", "state 1 1e1", "state 1 1_0", "state 1 1,0", "state 1 '1'", "state 1 one", "state 1 \u0661", "state 1 \uff11", "state 1 \u22121", "state 1 \u00b2",
		"state 1000001 1", "state 1 -1000001", "state 1 9223372036854775807", "state 1 -9223372036854775808", "state 1 9223372036854775808", "state 1 18446744073709551617", "state 4294967297 1",
		"state 1 123456789012345678901234567890", "state -123456789012345678901234567890 1", "state 1 000000000000000000000000000001", "state 1 " + strings.Repeat("9", 3000),
		"state 1 1\nwork 1 0", "state 1 1\nwork 1 0 0 0", "state 1 1\nwork", "state 1 1\ngroup 0 0", "state 1 1\ngroup 0 0 0 0", "state 1 2\nnode 1 0 0", "state 1 2\nnode 1 0 0 0 0", "state 2 1\npod 1 0 0 0", "state 2 1\npod 1 0 0 0 0 0",
		"state 1 1\ngroup 0 0 0\nwork 1 0 0", "state 1 2\nnode 1 0 0 0\nwork 1 0 0", "state 1 2\nnode 1 0 0 0\ngroup 0 0 0", "state 2 2\npod 1 0 0 0 0\nnode 1 0 0 0", "state 2 1\npod 1 0 0 0 0\ngroup 0 0 0", "state 2 1\npod 1 0 0 0 0\nwork 1 0 0",
		"state 1 1\nwork 1 0 0\ngroup 0 0 0\nwork 1 0 0", "state 3 2\npod 1 0 0 0 0\nnode 1 0 0 0\npod 2 0 0 0 0", "state 1 1\n\nwork 1 0 0", "state 1 1\nwork 1 0 0\n", "state 1 1\nwork 1 0 0\n\n", "state 1 1\n work 1 0 0", "state 1 1\nwork 1 0 0 ",
		"state 1 1\npods 1 0 0 0 0", "state 1 1\nPod 1 0 0 0 0", "state 1 1\npo 1 0 0 0 0", "state 1 1\ncfg 1 1 2 1", "state 1 1\ntick 0 0", "state 1 1\nnone", "state 1 1\n0 0 0",

		// Of an event.
		"tick", "tick 0", "tick 0 0 0", "tick 0 0\n", "\ntick 0 0", " tick 0 0", "tick 0 0 ", "tick  0 0", "tick 0  0", "tick\t0 0", "tick 0 0\r", "tick 0\n0", "tick 0 0\ntick 0 0", "0 0", " 0 0", "tick 0 0\x00", "\x00tick 0 0",
		"Tick 0 0", "TICK 0 0", "tic 0 0", "ticks 0 0", "tick0 0", "tick,0 0", "low 0 0", "kill 1 0", "nom 1 0", "ask 0 0", "idle 1 0", "drop 1 0", "none 0 0", "round 0 0", "event 0 0", "1 0 0", "work 0 0", "cfg 0 0",
		"come 01 1", "come 1 01", "come -0 1", "come 1 -0", "come 00 1", "come +1 1", "come 1 +1", "come 1 ", "come  1", "come 1 -", "come - 1", "come a 1", "come 1 1.", "come 1 0x1",
		"come 1000001 1", "come 1 1000001", "come -1000001 1", "come 1 -1000001", "come 1 9223372036854775808", "come 1 18446744073709551616", "come 123456789012345678901234567890 1",

		// Words of changes.
		"want 0", "low 0 1", "make 0", "kill 1", "oust 1", "ask 0", "idle 1 0", "drop 1", "nom 1 1",
	} {
		wantNotRead(t, "none", text)
		if wantReads(t, "none", text) {
			t.Errorf("%q is read", text)
		}
	}
}

// textsOf has texts of each kind: with no, one and several of each list, and numbers below 0, short and long.
func textsOf() []string {
	texts := []string{
		modelCfgText(plainCfg()), modelCfgText(leastCfg()), modelCfgText(wideCfg()), "state 0 0", "state -10 1000000", modelStateText(plainState()), modelStateText(impl.StateOpen(wideCfg())), modelStateText(wideState()),
		"state 2 2\nwork 1 0 0\nnode 1 0 -1 0\npod -10 0 100 0 0", "state 1 1\ngroup 0 0 0\ngroup 0 -10 20\npod 1 2 3 4 5",
	}
	for _, word := range eventWords {
		texts = append(texts, word+" 0 -1", word+" 10 1000000")
	}
	return texts
}

// bytesFor is what is put into a text: any bytes, but into a long one only some.
func bytesFor(text string) []byte {
	some := []byte("0123456789-+. _abcdegknoprtuwxCPS,\n\t\r\v\x00\x7f\x80\xa0\xff")
	if len(text) > 60 {
		return some
	}
	all := make([]byte, 256)
	for i := range all {
		all[i] = byte(i)
	}
	return all
}

// P15: each text with one byte taken away, put in, changed, or two of them in turn, at every place, and cut off there.
func TestTextWithOneByteOff(t *testing.T) {
	read, not := 0, 0
	reads := func(why string, text string) {
		t.Helper()
		if wantReads(t, why, text) {
			read++
		} else {
			not++
		}
	}
	for _, text := range textsOf() {
		if !wantReads(t, "as it is", text) {
			t.Errorf("not read: %q", text)
		}
		for at := range len(text) + 1 {
			reads("the beginning", text[:at])
			reads("the end", text[at:])
			for _, b := range bytesFor(text) {
				reads("put in", text[:at]+string([]byte{b})+text[at:])
				if at < len(text) {
					reads("changed", text[:at]+string([]byte{b})+text[at+1:])
				}
			}
			if at < len(text) {
				reads("taken away", text[:at]+text[at+1:])
				reads("twice", text[:at+1]+text[at:])
			}
			if at+1 < len(text) {
				reads("in turn", text[:at]+text[at+1:at+2]+text[at:at+1]+text[at+2:])
			}
		}
	}
	if read < 3000 || not < 30000 {
		t.Errorf("%d were read, %d were not", read, not)
	}
}

// replaced is the text with each of what is found in it replaced in turn.
func replaced(text string, found *regexp.Regexp, by []string, do func(text string)) {
	for _, at := range found.FindAllStringIndex(text, -1) {
		for _, other := range by {
			do(text[:at[0]] + other + text[at[1]:])
		}
	}
}

// P15: each number of each text being another one, or written in another way.
func TestTextOfOtherNumbers(t *testing.T) {
	right := []string{"0", "1", "7", "-1", "-10", "42", "999999", "1000000", "-999999", "-1000000"}
	wrong := []string{
		"", "-", "+", "--", "00", "01", "007", "-0", "-00", "-01", "-007", "+0", "+1", "+-1", "-+1", "--1", "1-", "1+", "- 1", "1 1", " 1", "1 ", "1 0 0", "\t1", "1\t", "1\n", "\n1", "1\r", "1\x00", "\x00", "\xff",
		"0x1", "0b1", "0o1", "1e1", "1.", "1.0", ".1", "1,0", "1_0", "_1", "1'0", "a", "one", "1a", "a1", "NaN", "Inf", "nil", "\u0661", "\u0967", "\uff11", "\u2170", "\u2212\u0031", "\u00b9", "1\u200b",
		"1000001", "-1000001", "1000010", "10000000", "9999999", "2147483648", "4294967296", "4294967297", "-4294967297", "9223372036854775807", "9223372036854775808", "-9223372036854775808", "-9223372036854775809",
		"18446744073709551615", "18446744073709551616", "18446744073709551617", "36893488147419103233", "123456789012345678901234567890", "-123456789012345678901234567890", "100000000000000000000000000000",
		"000000000000000000000000000001", "0000000", strings.Repeat("9", 1000), strings.Repeat("0", 1000) + "1",
	}
	read := 0
	for _, text := range textsOf() {
		replaced(text, aNumber, right, func(other string) {
			if wantReads(t, "another number", other) {
				read++
			}
			if !strings.HasPrefix(text, "cfg") && !wantReads(t, "another number", other) {
				t.Errorf("not read: %q", other)
			}
		})
		replaced(text, aNumber, wrong, func(other string) { wantReads(t, "a wrong number", other); wantNotRead(t, "a wrong number", other) })
	}
	if read < 1000 {
		t.Errorf("only %d were read", read)
	}
}

// P15: each word of each text being another one, that of another text among them.
func TestTextOfOtherWords(t *testing.T) {
	words := append([]string{
		"cfg", "state", "work", "group", "node", "pod", "none", "end", "event", "Work", "WORK", "wor", "works", "wwork", "worc", "no", "pods", "nod", "stat", "cf", "g", "a", "-", "0", "1", "work ", " work", "work 1", "work\n", "\nwork", "w\x00rk", "wörk", "\u0077ork\u0301", "",
		"tick tick", "shrin", "shrinks", "Tick", "LOAD", "wantmake",
	}, append(eventWords, writeWords...)...)
	read := 0
	for _, text := range textsOf() {
		replaced(text, aWord, words, func(other string) {
			if wantReads(t, "another word", other) {
				read++
			}
		})
		for _, word := range aWord.FindAllString(text, -1) {
			wantNotRead(t, "a capital", strings.Replace(text, word, strings.ToUpper(word[:1])+word[1:], 1))
			wantNotRead(t, "all capitals", strings.ToUpper(text))
			wantNotRead(t, "cut short", strings.Replace(text, word, word[:len(word)-1], 1))
			wantNotRead(t, "more behind it", strings.Replace(text, word, word+"s", 1))
		}
	}
	if read < 100 {
		t.Errorf("only %d were read", read)
	}
}

// eachOrder has do see the list in each order.
func eachOrder(list []string, do func(list []string)) {
	var turn func(n int)
	turn = func(n int) {
		if n == len(list) {
			do(list)
			return
		}
		for i := n; i < len(list); i++ {
			list[n], list[i] = list[i], list[n]
			turn(n + 1)
			list[n], list[i] = list[i], list[n]
		}
	}
	turn(0)
}

// P15: lines in each order, each of them left out, twice, and with others among them.
func TestTextOfOtherLines(t *testing.T) {
	read, not := 0, 0
	reads := func(why string, lines []string) {
		t.Helper()
		if wantReads(t, why, strings.Join(lines, "\n")) {
			read++
		} else {
			not++
		}
	}
	for _, text := range []string{
		"cfg 1 1 2 1\nwork 0 1 1 1 1 2 0 0\nwork 0 2 1 1 1 2 0 0\ngroup 0 0 0 0 1\ngroup 0 0 0 0 2",
		"state 3 3\nwork 1 0 0\ngroup 0 0 0\nnode 1 0 0 0\nnode 2 0 0 0\npod 2 0 0 0 0",
		"state 3 3\nwork 1 0 0\nwork 2 0 0\ngroup 0 0 0\npod 1 0 0 0 0\npod 2 0 0 0 0",
	} {
		lines := strings.Split(text, "\n")
		eachOrder(slices.Clone(lines), func(list []string) { reads("in another order", list) })
		for i := range len(lines) + 1 {
			for _, more := range append(lines, "", " ", "cfg 1 1 2 1", "state 3 3", "work 1 0 0", "work 0 1 1 1 1 2 0 0", "group 0 0 0", "group 0 0 0 0 1", "node 1 0 0 0", "pod 1 0 0 0 0", "tick 0 0", "none", "\r") {
				reads("one more", slices.Insert(slices.Clone(lines), i, more))
				if i < len(lines) {
					reads("another one", append(append(slices.Clone(lines[:i]), more), lines[i+1:]...))
				}
			}
			if i < len(lines) {
				reads("left out", slices.Delete(slices.Clone(lines), i, i+1))
			}
		}
	}
	if read < 50 || not < 1000 {
		t.Errorf("%d were read, %d were not", read, not)
	}
}

// ofSize is what there is with a text of so many bytes: as many of one line as there is room for, the rest in the numbers
// of the first one.
func ofSize(t *testing.T, bytes int, lineSize int, lines func(s *impl.State, n int)) impl.State {
	t.Helper()
	longer := []int{0, 10, 100, 1000, 10000, 100000, 1000000, -1000000}
	var s impl.State
	rest := bytes - len("state 0 0")
	lines(&s, rest/lineSize)
	rest %= lineSize
	s.NextPod, s.NextNode = longer[min(rest, 7)], longer[rest-min(rest, 7)]
	if text := modelStateText(s); len(text) != bytes {
		t.Fatalf("%d bytes, not %d: %q", len(text), bytes, text)
	}
	return s
}

// Texts of just as many bytes as are read, and of more.
func TestTextMax(t *testing.T) {
	for _, x := range []struct {
		why   string
		line  string
		lines func(s *impl.State, n int)
	}{
		{"pods", "\npod 0 0 0 0 0", func(s *impl.State, n int) { s.Pods = make([]impl.Pod, n) }},
		{"nodes", "\nnode 0 0 0 0", func(s *impl.State, n int) { s.Nodes = make([]impl.Node, n) }},
		{"groups", "\ngroup 0 0 0", func(s *impl.State, n int) { s.Groups = make([]impl.GroupState, n) }},
		{"works", "\nwork 0 0 0", func(s *impl.State, n int) { s.Works = make([]impl.WorkState, n) }},
	} {
		for _, bytes := range []int{9, 10, 100, 2000, 3990, 3998, 3999, 4000} {
			s := ofSize(t, bytes, len(x.line), x.lines)
			wantStateText(t, x.why, s, modelStateText(s))
		}
		for _, bytes := range []int{4001, 4002, 4003, 4010, 4095, 4096, 4097, 5000, 8000, 8001, 65536 + 4000, 1000000} {
			s := ofSize(t, bytes, len(x.line), x.lines)
			wantOnlyWritten(t, x.why, s, modelStateText(s))
		}
	}
	for _, bytes := range []int{3999, 4000, 4001, 100000} {
		for _, text := range []string{modelCfgText(plainCfg()), "state 0 0", "tick 0 0"} {
			more := bytes - len(text)
			for _, longer := range []string{text + strings.Repeat(" ", more), text + strings.Repeat("\n", more), text + strings.Repeat("0", more), strings.Repeat(" ", more) + text, strings.Repeat("\n", more) + text, text + strings.Repeat(" 1", more/2), text + strings.Repeat("x", more)} {
				wantNotRead(t, "longer", longer)
			}
		}
		wantNotRead(t, "many works", "cfg 1 1 2 1"+strings.Repeat("\nwork 0 1 1 1 1 2 0 0", bytes/21)+"\ngroup 0 0 0 0 1")
	}
}

// someText is one that is right, and mostly off by a few things then.
func someText(seed *uint32) string {
	c, s := someUnrest(seed)
	text := []string{modelCfgText(c), modelStateText(s), textLine(eventWords[nextNumber(seed, 10)], nextNumber(seed, 9)-1, nextNumber(seed, 2000)-900)}[nextNumber(seed, 3)]
	words := append([]string{"cfg", "state", "work", "group", "node", "pod"}, eventWords...)
	for range nextNumber(seed, 4) {
		lines := strings.Split(text, "\n")
		i, j, at := nextNumber(seed, len(lines)), nextNumber(seed, len(lines)), nextNumber(seed, len(text)+1)
		switch nextNumber(seed, 6) {
		case 0:
			lines[i], lines[j] = lines[j], lines[i]
		case 1:
			lines = slices.Insert(lines, i, lines[j])
		case 2:
			lines = slices.Delete(lines, i, i+1)
		case 3:
			lines[i] = aWord.ReplaceAllString(lines[i], words[nextNumber(seed, len(words))])
		case 4:
			lines[i] = strings.TrimSuffix(lines[i], " 0") + []string{"", " 0", "0", " 1", "7", "00"}[nextNumber(seed, 6)]
		case 5:
			lines = strings.Split(text[:at]+[]string{"", "0", "1", "-", " ", "\n", "9"}[nextNumber(seed, 7)]+text[at:], "\n")
		}
		text = strings.Join(lines, "\n")
	}
	return text
}

func TestTextOfManyWays(t *testing.T) {
	read, not := 0, 0
	seed := uint32(14)
	for range 3000 {
		if wantReads(t, "some", someText(&seed)) {
			read++
		} else {
			not++
		}
	}
	if read < 800 || not < 800 {
		t.Errorf("%d were read, %d were not", read, not)
	}
}

// Texts of any bytes, most of them such as are in texts.
func TestTextOfAnyBytes(t *testing.T) {
	seed := uint32(15)
	for i := range 30000 {
		bytes := make([]byte, nextNumber(&seed, 40))
		for at := range bytes {
			bytes[at] = byte(nextNumber(&seed, 256))
			if i%2 == 0 {
				bytes[at] = "cfgstatework 0123-\n"[nextNumber(&seed, 19)]
			}
		}
		wantReads(t, "any bytes", string(bytes))
		wantReads(t, "any numbers", "state "+string(bytes))
		wantReads(t, "any lines", "state 0 0\n"+string(bytes))
		wantReads(t, "any event", "die "+string(bytes))
	}
}

// P15 on long ways: what there is and what happens are read as they were, and go on as they would have.
func TestTextOnLongWays(t *testing.T) {
	seed := uint32(16)
	for range 100 {
		c, s := someUnrest(&seed)
		wantCfgText(t, "on a long way", c, modelCfgText(c))
		for range 20 {
			wantStateText(t, "on a long way", s, modelStateText(s))
			e := someEvent(&seed, c, s)
			e.N = min(e.N, impl.StateMaxId) // some loads are greater
			wantEventText(t, "on a long way", e, textLine(eventWords[e.Kind-1], e.A, e.N))
			for _, w := range impl.LoopPlan(c, s, e.Kind) {
				wantWriteText(t, "on a long way", w, modelWriteText(w))
			}
			asked, _ := impl.TextCfgRead(impl.TextCfg(c))
			is, _ := impl.TextStateRead(impl.TextState(s))
			happens, _ := impl.TextEventRead(impl.TextEvent(e))
			s = impl.LoopDo(c, s, e)
			if got := impl.LoopDo(asked, is, happens); !impl.StateSame(got, s) {
				t.Errorf("what was read goes on as %v, want %v", got, s)
			}
		}
	}
}

// Numbers of any greatness in each field of what there is and of what is asked.
func TestTextOfWildNumbers(t *testing.T) {
	eachWild(func(why string, c impl.Cfg, s impl.State) {
		wantCfgTextIfOk(t, why, c, impl.CfgOk(c))
		if stateIsSmall(s) {
			wantStateText(t, why, s, modelStateText(s))
		} else {
			wantOnlyWritten(t, why, s, modelStateText(s))
		}
	})
}

// Neither the lists of what there is nor what lies behind their ends are written into; what is read is new memory each
// time, and no two lists of it share any.
func TestTextStateMemory(t *testing.T) {
	for _, x := range append(memoryCases(), stateCase{"wide", wideCfg(), wideState()}) {
		text := modelStateText(x.s)
		wantOwnMemory(t, x.why, x.c, x.s, nil, func(c impl.Cfg, s impl.State, _ []impl.Write) impl.State {
			if got := impl.TextState(s); got != text {
				t.Errorf("%s: TextState is %q, want %q", x.why, got, text)
			}
			got, _ := impl.TextStateRead(text)
			return got
		})
		wantStateRead(t, x.why+", once more", text, x.s, true)
	}
}

// Likewise of what is asked.
func TestTextCfgMemory(t *testing.T) {
	for _, x := range memoryCases() {
		text := impl.TextCfg(x.c)
		wantKeepsCfg(t, x, func(c impl.Cfg) {
			if got := impl.TextCfg(c); got != text {
				t.Errorf("%s: TextCfg is %q, want %q", x.why, got, text)
			}
		})
		a, _ := impl.TextCfgRead(text)
		b, _ := impl.TextCfgRead(text)
		for i := range a.Works[:cap(a.Works)] {
			a.Works[:cap(a.Works)][i] = impl.CfgWork{Min: 99}
		}
		if !slices.Equal(a.Groups, x.c.Groups) {
			t.Errorf("%s: two lists of one answer share memory: %v", x.why, a)
		}
		for i := range a.Groups[:cap(a.Groups)] {
			a.Groups[:cap(a.Groups)][i] = impl.CfgGroup{Min: 99}
		}
		if !sameCfg(b, x.c) {
			t.Errorf("%s: two answers share memory: %v, want %v", x.why, b, x.c)
		}
		wantCfgRead(t, x.why+", once more", text, x.c, true)
	}
}

// Nothing is kept between two calls: the same is answered whatever was read and written in between.
func TestTextKeepsNothing(t *testing.T) {
	seed := uint32(17)
	for range 300 {
		text, between := someText(&seed), someText(&seed)
		wantReads(t, "first", text)
		impl.TextCfgRead(between)
		impl.TextStateRead(between)
		impl.TextEventRead(between)
		impl.TextState(wideState())
		impl.TextCfg(impl.Cfg{})
		impl.TextEvent(impl.LoopEvent{Kind: 11})
		impl.TextWrite(impl.Write{})
		wantReads(t, "again", text)
	}
}
