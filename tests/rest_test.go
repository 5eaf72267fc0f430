package tests

import (
	"math"
	"slices"
	"testing"

	"loop.example/hive/impl"
)

// modelRestWant is the chapter's RestWant once more, without a division, for what is asked rightly.
func modelRestWant(w impl.CfgWork, load int) int {
	n := w.Min
	for n < w.Max && n*w.Target < load {
		n++
	}
	return n
}

// modelRestNear is the chapter's RestNear once more, by the least and the greatest load that so many pods let be.
func modelRestNear(w impl.CfgWork, load int, pods int) bool {
	if pods < w.Min || pods > w.Max {
		return false
	}
	least, greatest := (1000-w.Tol)*pods*w.Target, (1000+w.Tol)*pods*w.Target
	return pods == modelRestWant(w, load) || least <= 1000*load && 1000*load <= greatest
}

// isReady says whether the pod is on a node and has started.
func isReady(p impl.Pod) bool { return p.Node != 0 && p.Wait == 0 }

// isJustSize is what P14 says of what is at rest: as many pods as the load asks for, all ready, and no node that nobody
// needs.
func isJustSize(c impl.Cfg, s impl.State) bool {
	for _, p := range s.Pods {
		if !isReady(p) {
			return false
		}
	}
	for work, w := range c.Works {
		if !modelRestNear(w, s.Works[work].Load, podsOf(s, work)) {
			return false
		}
	}
	for _, n := range s.Nodes {
		holds := slices.ContainsFunc(s.Pods, func(p impl.Pod) bool { return p.Node == n.Id })
		if !holds && nodesOf(s, n.Group) > c.Groups[n.Group].Min {
			return false
		}
	}
	return true
}

// modelRestOk is the chapter's RestOk once more, for what is ok.
func modelRestOk(c impl.Cfg, s impl.State) bool {
	for work, stands := range s.Works {
		if podsOf(s, work) != stands.Want {
			return false
		}
	}
	for group, stands := range s.Groups {
		if stands.Asked > 0 || nodesOf(s, group) < c.Groups[group].Min {
			return false
		}
	}
	boots := slices.ContainsFunc(s.Nodes, func(n impl.Node) bool { return n.Boot > 0 })
	return !boots && isJustSize(c, s)
}

// modelRestSame is the chapter's RestSame once more: all is the same but what goes on at rest.
func modelRestSame(a impl.State, b impl.State) bool { return sameState(unlooked(a), unlooked(b)) }

// unlooked is s with nothing in it that RestSame does not look at.
func unlooked(s impl.State) impl.State {
	s = copyState(s)
	s.Groups = nil
	for i := range s.Works {
		s.Works[i].Load, s.Works[i].Low = 0, 0
	}
	for i := range s.Nodes {
		s.Nodes[i].Idle = 0
	}
	return s
}

// modelRestAt goes through the rounds one by one, for what is ok and no more rounds than the test can wait for.
func modelRestAt(c impl.Cfg, s impl.State, order int, most int) int {
	for rounds := range most + 1 {
		if modelRestOk(c, s) {
			return rounds
		}
		s = impl.LoopRound(c, s, order+rounds)
	}
	return -1
}

func wantRestWant(t *testing.T, why string, c impl.Cfg, work int, load int, want int) {
	t.Helper()
	if got := impl.RestWant(c, work, load); got != want {
		t.Errorf("%s: RestWant of the work %d and the load %d is %d, want %d: %v", why, work, load, got, want, c)
	}
}

func wantRestNear(t *testing.T, why string, c impl.Cfg, work int, load int, pods int, want bool) {
	t.Helper()
	if got := impl.RestNear(c, work, load, pods); got != want {
		t.Errorf("%s: RestNear of the work %d, the load %d and %d pods is %v, want %v: %v", why, work, load, pods, got, want, c)
	}
}

func wantRestOk(t *testing.T, why string, c impl.Cfg, s impl.State, want bool) {
	t.Helper()
	if got := impl.RestOk(c, s); got != want {
		t.Errorf("%s: RestOk is %v, want %v: %v of %v", why, got, want, s, c)
	}
}

func wantRestSame(t *testing.T, why string, a impl.State, b impl.State, want bool) {
	t.Helper()
	if impl.RestSame(a, b) != want || impl.RestSame(b, a) != want {
		t.Errorf("%s: RestSame is not %v of %v and %v", why, want, a, b)
	}
}

func wantRestAt(t *testing.T, why string, c impl.Cfg, s impl.State, order int, most int, want int) {
	t.Helper()
	if got := impl.RestAt(c, s, order, most); got != want {
		t.Errorf("%s: RestAt with the order %d and at most %d is %d, want %d: %v of %v", why, order, most, got, want, s, c)
	}
}

// wantStays is P14: through these rounds what is at rest stays so, each the same as the one ahead, no component plans
// anything but counts of looks, and there is just what the load asks for.
func wantStays(t *testing.T, why string, c impl.Cfg, s impl.State, orders ...int) {
	t.Helper()
	for _, order := range append(orders, 0) {
		wantRestOk(t, why+", and it stays", c, s, true)
		wantRestAt(t, why+", and it stays", c, s, order, 0, 0)
		if !isJustSize(c, s) {
			t.Errorf("%s: at rest is %v of %v", why, s, c)
		}
		for kind := 1; kind <= 6; kind++ {
			for _, w := range impl.LoopPlan(c, s, kind) {
				if w.Kind != impl.WriteLow && w.Kind != impl.WriteIdle {
					t.Errorf("%s: at rest the component %d plans %v: %v of %v", why, kind, w, s, c)
				}
			}
		}
		behind := impl.LoopRound(c, s, order)
		wantRestSame(t, why+", behind a round more", s, behind, true)
		s = behind
	}
}

// wantComesToRest is P13 and P14: the loop is at rest within CfgBound rounds, first where RestAt says, and stays so.
func wantComesToRest(t *testing.T, why string, c impl.Cfg, s impl.State, order int) int {
	t.Helper()
	if !impl.CfgRoomy(c) || !impl.StateOk(c, s) {
		t.Fatalf("%s: not roomy, or not ok: %v of %v", why, s, c)
	}
	rounds := impl.RestAt(c, s, order, impl.CfgBound(c, 1))
	if rounds < 0 {
		t.Fatalf("%s: with the order %d not at rest within %d: %v of %v", why, order, impl.CfgBound(c, 1), s, c)
	}
	for i := range rounds {
		wantRestOk(t, why+", ahead of rest", c, s, false)
		s = impl.LoopRound(c, s, order+i)
	}
	wantStays(t, why, c, s, order+rounds, order+rounds+1, -order, 7*rounds, 719-rounds)
	return rounds
}

// oneRest is a work and a group that has room for it, with such a Min, Max, Target and Tol.
func oneRest(least int, most int, target int, limit int, tol int) impl.Cfg {
	return oneWork(impl.CfgWork{Min: least, Max: most, Target: target, Limit: limit, Tol: tol})
}

func TestRestWant(t *testing.T) {
	for _, x := range []struct {
		why                       string
		least, most, target, load int
		want                      int
	}{
		{"as Target divides it", 1, 8, 100, 300, 3},
		{"one more", 1, 8, 100, 301, 4},
		{"one less", 1, 8, 100, 299, 3},
		{"Target", 1, 8, 100, 100, 1},
		{"one more than Target", 1, 8, 100, 101, 2},
		{"one less than Target", 1, 8, 100, 99, 1},
		{"1", 1, 8, 100, 1, 1},
		{"no load", 1, 8, 100, 0, 1},
		{"no load, a Min of 3", 3, 8, 100, 0, 3},
		{"below Min", 3, 8, 100, 200, 3},
		{"just Min", 3, 8, 100, 300, 3},
		{"one above Min", 3, 8, 100, 301, 4},
		{"one below Max", 3, 6, 100, 500, 5},
		{"just Max", 3, 6, 100, 600, 6},
		{"the last of Max", 3, 6, 100, 501, 6},
		{"one above Max", 3, 6, 100, 601, 6},
		{"far above Max", 3, 6, 100, 9000, 6},
		{"above all that they carry", 3, 6, 100, 901, 6},
		{"Min is Max, below", 5, 5, 100, 10, 5},
		{"Min is Max, above", 5, 5, 100, 1000, 5},
		{"Target 1", 1, 8, 1, 5, 5},
		{"Target 1, no load", 1, 8, 1, 0, 1},
		{"Target 7", 1, 8, 7, 49, 7},
		{"Target 7, one more", 1, 8, 7, 50, 8},
		{"Target 7, one less", 1, 8, 7, 48, 7},
		{"the greatest Target", 1, 8, 9999, 29997, 3},
		{"the greatest Target, one more", 1, 8, 9999, 29998, 4},
		{"the greatest load", 1, 8, 9999, impl.CfgMaxLoad, 8},
		{"the greatest load, Target 1", 1, 8, 1, impl.CfgMaxLoad, 8},
		{"the greatest load, Max 1", 1, 1, 1, impl.CfgMaxLoad, 1},
		{"one more than the greatest load", 1, 8, 100, impl.CfgMaxLoad + 1, 0},
		{"below 0", 1, 8, 100, -1, 0},
		{"far below 0", 1, 8, 100, -300, 0},
		{"the greatest number", 1, 8, 100, math.MaxInt, 0},
		{"the least number", 1, 8, 100, math.MinInt, 0},
	} {
		for _, tol := range []int{0, 400} {
			c := oneRest(x.least, x.most, x.target, x.target+x.target/2+1, tol)
			if c.Works[0].Target == 9999 {
				c.Works[0].Limit, c.Works[0].Tol = 10000, 0
			}
			if !impl.CfgOk(c) {
				t.Fatalf("%s: not ok: %v", x.why, c)
			}
			wantRestWant(t, x.why, c, 0, x.load, x.want)
		}
	}
}

// Each work has its own numbers; of a work that there is not nothing is told.
func TestRestOfEachWork(t *testing.T) {
	c := wideCfg() // of 2 to 4, 1 to 7 and 3 to 5 pods, with a Target of 100, 10 and 7, and a Tol of 100, 500 and 0
	for load, want := range map[int][3]int{0: {2, 1, 3}, 21: {2, 3, 3}, 29: {2, 3, 5}, 50: {2, 5, 5}, 201: {3, 7, 5}, 350: {4, 7, 5}, impl.CfgMaxLoad: {4, 7, 5}} {
		for work, n := range want {
			wantRestWant(t, "wide", c, work, load, n)
			for pods := range 9 {
				wantRestNear(t, "wide", c, work, load, pods, modelRestNear(c.Works[work], load, pods))
			}
			wantRestNear(t, "wide", c, work, load, n, true)
		}
		for _, work := range append([]int{3, 4, -1, -2, -3}, wildNumbers...) {
			if work >= 0 && work < 3 {
				continue
			}
			wantRestWant(t, "no such work", c, work, load, 0)
			for pods := range 9 {
				wantRestNear(t, "no such work", c, work, load, pods, false)
			}
		}
	}
	wantRestNear(t, "the Tol of the first", c, 0, 220, 2, true)
	wantRestNear(t, "the Tol of the first, one more", c, 0, 221, 2, false)
	wantRestNear(t, "the Tol of the second", c, 1, 30, 2, true)
	wantRestNear(t, "the Tol of the second, one more", c, 1, 31, 2, false)
	wantRestNear(t, "the Tol of the last", c, 2, 29, 4, false)
	wantRestNear(t, "of the last as many as are asked for", c, 2, 28, 4, true)
}

func TestRestNear(t *testing.T) {
	for _, x := range []struct {
		why                      string
		least, most, target, tol int
		load, pods               int
		want                     bool
	}{
		{"as many as are asked for", 1, 8, 100, 0, 300, 3, true},
		{"as many, rounded up", 1, 8, 100, 0, 201, 3, true},
		{"one fewer, one above Target", 1, 8, 100, 0, 201, 2, false},
		{"one more", 1, 8, 100, 0, 300, 4, false},
		{"one fewer", 1, 8, 100, 0, 300, 2, false},
		{"on Target, rounded up", 1, 8, 100, 0, 299, 3, true},

		{"a Tol of 100, above", 1, 8, 100, 100, 330, 3, true},
		{"a Tol of 100, one more", 1, 8, 100, 100, 331, 3, false},
		{"a Tol of 100, below", 1, 8, 100, 100, 270, 3, true},
		{"a Tol of 100, below by a pod", 1, 8, 100, 100, 720, 8, true}, // asks for 8
		{"a Tol of 150, below by just as much", 1, 8, 100, 150, 680, 8, true},
		{"a Tol of 150, below by one more", 1, 8, 100, 150, 679, 8, false},
		{"a Tol of 150, above by just as much", 1, 8, 100, 150, 690, 6, true},
		{"a Tol of 150, above by one more", 1, 8, 100, 150, 691, 6, false},
		{"a Tol of 400, below by just as much", 1, 8, 100, 400, 180, 3, true},
		{"a Tol of 400, below by one more", 1, 8, 100, 400, 179, 3, false},
		{"a Tol of 400, above by just as much", 1, 8, 100, 400, 420, 3, true},
		{"a Tol of 400, above by one more", 1, 8, 100, 400, 421, 3, false},
		{"a Tol of 400, of what one more would carry", 1, 8, 100, 400, 320, 4, true},
		{"of thousandths, below by just as much", 1, 8, 7, 250, 21, 4, true},
		{"of thousandths, below by one more", 1, 8, 7, 250, 20, 4, false},
		{"of thousandths, above by just as much", 1, 8, 7, 250, 35, 4, true},
		{"of thousandths, above by one more", 1, 8, 7, 250, 36, 4, false},
		{"a thousandth too few", 1, 8, 7, 249, 35, 4, false},
		{"a thousandth too few, below", 1, 8, 7, 249, 21, 4, false},

		{"no load, Min pods", 1, 8, 100, 0, 0, 1, true},
		{"no load, one more than Min", 1, 8, 100, 400, 0, 2, false},
		{"no load, a Min of 3", 3, 8, 100, 0, 0, 3, true},
		{"no load, one below Min", 3, 8, 100, 0, 0, 2, false},
		{"no load and no pods", 1, 8, 100, 0, 0, 0, false},
		{"far above, Max pods", 1, 4, 100, 0, 9000, 4, true},
		{"far above, one below Max", 1, 4, 100, 0, 9000, 3, false},
		{"far above, one more than Max", 1, 4, 100, 0, 9000, 5, false},
		{"the greatest load, Max pods", 1, 4, 100, 400, impl.CfgMaxLoad, 4, true},
		{"the greatest load, one below Max", 1, 4, 100, 400, impl.CfgMaxLoad, 3, false},
		{"one more than the greatest load", 1, 4, 100, 400, impl.CfgMaxLoad + 1, 4, false},
		{"a load below 0", 1, 4, 100, 400, -1, 1, false},
		{"a load near enough to below 0", 1, 4, 1, 400, -1, 1, false},

		{"near, but one below Min", 3, 8, 100, 400, 200, 2, false},
		{"near, and Min", 3, 8, 100, 400, 200, 3, true},
		{"near, but one above Max", 1, 4, 100, 400, 500, 5, false},
		{"near, and Max", 1, 4, 100, 400, 500, 4, true},
		{"near, one fewer than Max", 1, 4, 100, 400, 420, 3, true},
		{"pods below 0", 1, 8, 100, 400, 300, -3, false},
		{"none for no load", 1, 8, 100, 400, 0, -1, false},
		{"the greatest number of pods", 1, 8, 100, 400, 300, math.MaxInt, false},
		{"the least number of pods", 1, 8, 100, 400, 300, math.MinInt, false},
	} {
		c := oneRest(x.least, x.most, x.target, 2*x.target, x.tol)
		if !impl.CfgOk(c) {
			t.Fatalf("%s: not ok: %v", x.why, c)
		}
		wantRestNear(t, x.why, c, 0, x.load, x.pods, x.want)
	}
}

// For each load that can be told apart, and each number of pods: what a look at so many would not change is near, what it
// would is not.
func TestRestOfEveryLoad(t *testing.T) {
	near, asMany, off := 0, 0, 0
	for _, w := range someWorks() {
		c := oneWork(w)
		for load := -2; load <= min(w.Max*w.Limit+2, 3*w.Max*w.Target+3); load++ {
			want := 0
			if load >= 0 {
				want = modelRestWant(w, load)
			}
			wantRestWant(t, "each load", c, 0, load, want)
			for pods := -1; pods <= 9; pods++ {
				isNear := load >= 0 && modelRestNear(w, load, pods)
				wantRestNear(t, "each load", c, 0, load, pods, isNear)
				switch {
				case !isNear:
					off++
				case pods == want:
					asMany++
				default:
					near++
				}
			}
		}
		for pods := w.Min; pods <= w.Max; pods++ {
			for _, load := range []int{0, pods * w.Target, pods*w.Target + 1, pods * w.Limit, pods*w.Limit + 1, impl.CfgMaxLoad} {
				if s := loaded(c, pods, load); (impl.WantRaw(c, s, 0) == pods) != impl.RestNear(c, 0, load, pods) {
					t.Errorf("a look at %d pods and the load %d says %d: %v", pods, load, impl.WantRaw(c, s, 0), w)
				}
			}
		}
	}
	if near < 1000 || asMany < 1000 || off < 1000 {
		t.Errorf("%d were near, %d as many as asked for, %d neither", near, asMany, off)
	}
}

// P5 at rest: a greater load never asks for fewer, and what it asks for is Min to Max.
func TestRestWantAscends(t *testing.T) {
	for _, w := range someWorks() {
		c, last := oneWork(w), w.Min
		for load := 0; load <= impl.CfgMaxLoad; load += 1 + load/50 {
			got := impl.RestWant(c, 0, load)
			if got < last || got > w.Max {
				t.Fatalf("RestWant of the load %d is %d, of a lesser one %d: %v", load, got, last, w)
			}
			last = got
		}
	}
}

// restingCfg has room for all in its first group; of the others there are at least two, and one.
func restingCfg() impl.Cfg {
	return impl.Cfg{
		Works: []impl.CfgWork{
			{Size: size(2, 1), Min: 1, Max: 4, Target: 100, Limit: 150, Rank: 5},
			{Size: size(1, 3), Min: 2, Max: 5, Target: 10, Limit: 20, Tol: 500},
		},
		Groups: []impl.CfgGroup{
			{Size: size(9, 9), Max: 4, Boot: 3},
			{Size: size(4, 6), Min: 2, Max: 3, Boot: 1},
			{Size: size(3, 1), Min: 1, Max: 2, Boot: 2},
		},
		Start: 3, Calm: 4, Idle: 5, Back: 1,
	}
}

// restingState is of restingCfg, at rest: the first group holds all pods, the nodes of the others are just Min.
func restingState() impl.State {
	return impl.State{
		Pods:    []impl.Pod{{Id: 1, Node: 1}, {Id: 2, Node: 1}, {Id: 3, Work: 1, Node: 1}, {Id: 5, Node: 1}, {Id: 6, Work: 1, Node: 1}},
		Nodes:   []impl.Node{{Id: 1}, {Id: 2, Group: 1, Idle: 5}, {Id: 4, Group: 1, Idle: 2}, {Id: 7, Group: 2, Idle: 5}},
		Works:   []impl.WorkState{{Want: 3, Load: 250}, {Want: 2, Load: 22}},
		Groups:  []impl.GroupState{{}, {}, {}},
		NextPod: 8, NextNode: 9,
	}
}

// restChange is another thing that is asked, or that there is.
type restChange struct {
	why   string
	cfg   func(c *impl.Cfg)
	state func(s *impl.State)
}

func (x restChange) of(c impl.Cfg, s impl.State) (impl.Cfg, impl.State) {
	c, s = copyCfg(c), copyState(s)
	if x.cfg != nil {
		x.cfg(&c)
	}
	if x.state != nil {
		x.state(&s)
	}
	return c, s
}

// restOffs are what is at rest with one thing wrong by itself, all being ok.
func restOffs() []restChange {
	onState := func(why string, state func(s *impl.State)) restChange { return restChange{why: why, state: state} }
	onCfg := func(why string, cfg func(c *impl.Cfg)) restChange { return restChange{why: why, cfg: cfg} }
	one := func(work int, node int) func(s *impl.State) {
		return func(s *impl.State) { s.Pods = append(s.Pods, impl.Pod{Id: 7, Work: work, Node: node}) }
	}
	return []restChange{
		onState("the first pod waits", onNode(0, 0, 0)),
		onState("a middle pod waits", onNode(2, 0, 0)),
		onState("the last pod waits", onNode(4, 0, 0)),
		onState("a pod waits with a place", func(s *impl.State) { s.Pods[1].Node, s.Pods[1].Nom = 0, 1 }),
		onState("the first pod starts", onNode(0, 1, 1)),
		onState("a middle pod starts", onNode(2, 1, 2)),
		onState("the last pod starts", onNode(4, 1, 3)),
		onState("all start", func(s *impl.State) {
			for i := range s.Pods {
				s.Pods[i].Wait = 1
			}
		}),
		onState("one too few", func(s *impl.State) { s.Pods = s.Pods[1:] }),
		onState("one too few of the last work", func(s *impl.State) { s.Pods = s.Pods[:4] }),
		onState("no pods at all", func(s *impl.State) { s.Pods = nil }),
		onState("one too many", one(0, 2)),
		onState("one too many, though near", one(1, 2)),
		onState("Want is one more", func(s *impl.State) { s.Works[0].Want = 4 }),
		onState("Want is one less", func(s *impl.State) { s.Works[0].Want = 2 }),
		onState("Want of the last is one more", func(s *impl.State) { s.Works[1].Want = 3 }),
		onState("one fewer, and wanted so", func(s *impl.State) { s.Pods, s.Works[0].Want = s.Pods[1:], 2 }),
		onState("one more, and wanted so", func(s *impl.State) { one(0, 2)(s); s.Works[0].Want = 4 }),
		onState("the load is one too much", func(s *impl.State) { s.Works[0].Load = 301 }),
		onState("the load is one too little", func(s *impl.State) { s.Works[0].Load = 200 }),
		onState("no load", func(s *impl.State) { s.Works[0].Load = 0 }),
		onState("the greatest load", func(s *impl.State) { s.Works[0].Load = impl.CfgMaxLoad }),
		onState("the load of the last is one too much", func(s *impl.State) { s.Works[1].Load = 31 }),
		onState("the load of the last is one too little", func(s *impl.State) { one(1, 2)(s); s.Works[1].Want, s.Works[1].Load = 3, 14 }),
		onState("one of the first group is asked for", func(s *impl.State) { s.Groups[0].Asked = 1 }),
		onState("one of a middle group is asked for", func(s *impl.State) { s.Groups[1].Asked = 1 }),
		onState("one of the last group is asked for", func(s *impl.State) { s.Groups[2].Asked = 1 }),
		onState("several of the first group are asked for", func(s *impl.State) { s.Groups[0].Asked = 3 }),
		onState("too few nodes, and the others are asked for", func(s *impl.State) { s.Nodes, s.Groups[2].Asked = s.Nodes[:3], 1 }),
		onState("one node too few", func(s *impl.State) { s.Nodes = slices.Delete(s.Nodes, 2, 3) }),
		onState("one node too few of the last group", func(s *impl.State) { s.Nodes = s.Nodes[:3] }),
		onState("no nodes of two groups", func(s *impl.State) { s.Nodes = s.Nodes[:1] }),
		onCfg("one node too few of the first group", func(c *impl.Cfg) { c.Groups[0].Min = 2 }),
		onCfg("one node too few of a middle group", func(c *impl.Cfg) { c.Groups[1].Min = 3 }),
		onCfg("one node too few of the last group", func(c *impl.Cfg) { c.Groups[2].Min = 2 }),
		onState("a node boots", func(s *impl.State) { s.Nodes[1].Boot = 1 }),
		onState("a node boots for longer", func(s *impl.State) { s.Nodes[3].Boot = 2 }),
		onState("a node more boots", func(s *impl.State) { s.Nodes, s.NextNode = append(s.Nodes, impl.Node{Id: 9, Boot: 3}), 10 }),
		onState("a node more", func(s *impl.State) { s.Nodes, s.NextNode = append(s.Nodes, impl.Node{Id: 9}), 10 }),
		onState("a node more was idle for long", func(s *impl.State) { s.Nodes, s.NextNode = append(s.Nodes, impl.Node{Id: 9, Group: 2, Idle: 5}), 10 }),
		onCfg("one more than Min, idle for long", func(c *impl.Cfg) { c.Groups[1].Min = 1 }),
		onCfg("one more than no Min, idle for long", func(c *impl.Cfg) { c.Groups[2].Min = 0 }),
		onCfg("a lesser Target asks for one more", func(c *impl.Cfg) { c.Works[0].Target = 70 }),
		onCfg("a greater Target asks for one less", func(c *impl.Cfg) { c.Works[0].Target = 130 }),
		onCfg("no Tol, one less asked for", func(c *impl.Cfg) { c.Works[1].Tol = 0 }),
	}
}

// restLets are what is at rest with something that is let be.
func restLets() []restChange {
	onState := func(why string, state func(s *impl.State)) restChange { return restChange{why: why, state: state} }
	return []restChange{
		onState("as it is", nil),
		onState("the greatest load that is let be", func(s *impl.State) { s.Works[0].Load = 300 }),
		onState("the least load that is let be", func(s *impl.State) { s.Works[0].Load = 201 }),
		onState("the greatest load within Tol", func(s *impl.State) { s.Works[1].Load = 30 }),
		onState("as many as are asked for", func(s *impl.State) { s.Works[1].Load = 20 }),
		onState("no load, Min pods", func(s *impl.State) { s.Works[1].Load = 0 }),
		onState("the least load within Tol", func(s *impl.State) {
			s.Pods = append(s.Pods, impl.Pod{Id: 7, Work: 1, Node: 4})
			s.Works[1].Want, s.Works[1].Load = 3, 15
		}),
		onState("the greatest load, Max pods", func(s *impl.State) {
			s.Pods = append(s.Pods, impl.Pod{Id: 7, Node: 2})
			s.Works[0].Want, s.Works[0].Load = 4, impl.CfgMaxLoad
		}),
		onState("a look said fewer", func(s *impl.State) { s.Works[0].Low, s.Works[1].Low = 4, 3 }),
		onState("no node was idle at a look", func(s *impl.State) {
			for i := range s.Nodes {
				s.Nodes[i].Idle = 0
			}
		}),
		onState("one with pods was idle for long", func(s *impl.State) { s.Nodes[0].Idle = 5 }),
		onState("groups that rest", func(s *impl.State) {
			s.Groups = []impl.GroupState{{Rest: 8, Fails: 3}, {Rest: 1, Fails: 1}, {Rest: 2}}
		}),
		onState("other numbers", func(s *impl.State) { s.NextPod, s.NextNode = impl.StateMaxId, impl.StateMaxId }),
		onState("a pod on the node of another group", func(s *impl.State) { s.Pods[0].Node, s.Pods[2].Node = 2, 4 }),
		{"more than Min, but none idle", func(c *impl.Cfg) { c.Groups[1].Min = 0 }, func(s *impl.State) { s.Pods[0].Node, s.Pods[2].Node = 2, 4 }},
		{"another rank", func(c *impl.Cfg) { c.Works[1].Rank = 9 }, nil},
		{"as many nodes as there may be", func(c *impl.Cfg) { c.Groups[1].Max, c.Groups[2].Max = 2, 1 }, nil},
	}
}

func TestRestOk(t *testing.T) {
	for _, x := range restOffs() {
		c, s := x.of(restingCfg(), restingState())
		wantState(t, x.why, c, s, true)
		wantRestOk(t, x.why, c, s, false)
		wantRestAt(t, x.why, c, s, 0, 0, -1)
		if modelRestOk(c, s) {
			t.Errorf("%s: the model: %v of %v", x.why, s, c)
		}
		for order := range 7 {
			wantComesToRest(t, x.why, c, s, order*103)
		}
	}
	for _, x := range restLets() {
		c, s := x.of(restingCfg(), restingState())
		wantState(t, x.why, c, s, true)
		wantStays(t, x.why, c, s, 0, 1, 2, 77, 400, 719, -1, -720, math.MaxInt, math.MinInt)
		if !modelRestOk(c, s) {
			t.Errorf("%s: the model: %v of %v", x.why, s, c)
		}
		for _, y := range restOffs() {
			if d, one := y.of(c, s); impl.StateOk(d, one) {
				wantRestOk(t, x.why+", and "+y.why, d, one, modelRestOk(d, one))
			}
		}
	}
}

// In every order what is at rest stays as it is, also where looks go on and groups rest.
func TestRestStaysInEveryOrder(t *testing.T) {
	counts := restLets()[8]
	for order := range 720 {
		wantStays(t, "as it is", restingCfg(), restingState(), order)
		c, s := counts.of(restingCfg(), restingState())
		wantStays(t, counts.why, c, s, order, 719-order)
	}
}

func TestRestOkOfCases(t *testing.T) {
	for _, x := range loopCases() {
		wantRestOk(t, x.why, x.c, x.s, modelRestOk(x.c, x.s))
		x.s = copyState(x.s)
		for _, at := range everyField(&x.s) {
			was := *at
			for _, n := range []int{was - 1, was + 1, 0} {
				*at = n
				wantRestOk(t, x.why, x.c, x.s, impl.StateOk(x.c, x.s) && modelRestOk(x.c, x.s))
			}
			*at = was
		}
	}
}

func TestRestSame(t *testing.T) {
	for _, x := range []struct {
		why    string
		change func(s *impl.State)
		want   bool
	}{
		{"as it is", asItWas, true},
		{"another Low", func(s *impl.State) { s.Works[0].Low = 4 }, true},
		{"another Low of the last work", func(s *impl.State) { s.Works[1].Low = -1 }, true},
		{"another Load", func(s *impl.State) { s.Works[0].Load = 0 }, true},
		{"another Load of the last work", func(s *impl.State) { s.Works[1].Load = math.MaxInt }, true},
		{"another Idle", func(s *impl.State) { s.Nodes[0].Idle = 1 }, true},
		{"another Idle of the last node", func(s *impl.State) { s.Nodes[3].Idle = 0 }, true},
		{"another Asked", func(s *impl.State) { s.Groups[0].Asked = 1 }, true},
		{"another Rest", func(s *impl.State) { s.Groups[1].Rest = 8 }, true},
		{"another Fails", func(s *impl.State) { s.Groups[2].Fails = 3 }, true},
		{"a group more", func(s *impl.State) { s.Groups = append(s.Groups, impl.GroupState{Asked: 7}) }, true},
		{"a group fewer", func(s *impl.State) { s.Groups = s.Groups[:2] }, true},
		{"no groups", func(s *impl.State) { s.Groups = nil }, true},
		{"all counts of looks", func(s *impl.State) {
			s.Works[0].Low, s.Works[1].Low, s.Works[0].Load, s.Nodes[1].Idle, s.Nodes[3].Idle = 1, 2, 3, 4, 5
		}, true},

		{"a pod more", func(s *impl.State) { s.Pods = append(s.Pods, impl.Pod{}) }, false},
		{"a pod fewer", func(s *impl.State) { s.Pods = s.Pods[:4] }, false},
		{"no pods", func(s *impl.State) { s.Pods = nil }, false},
		{"a pod of another Id", func(s *impl.State) { s.Pods[3].Id = 4 }, false},
		{"a pod of another work", func(s *impl.State) { s.Pods[0].Work = 1 }, false},
		{"a pod on another node", func(s *impl.State) { s.Pods[0].Node = 2 }, false},
		{"a pod with another place", func(s *impl.State) { s.Pods[4].Nom = 1 }, false},
		{"a pod with another Wait", func(s *impl.State) { s.Pods[4].Wait = 1 }, false},
		{"pods in another order", func(s *impl.State) { s.Pods[0], s.Pods[1] = s.Pods[1], s.Pods[0] }, false},
		{"a node more", func(s *impl.State) { s.Nodes = append(s.Nodes, impl.Node{}) }, false},
		{"a node fewer", func(s *impl.State) { s.Nodes = s.Nodes[:3] }, false},
		{"no nodes", func(s *impl.State) { s.Nodes = nil }, false},
		{"a node of another Id", func(s *impl.State) { s.Nodes[2].Id = 5 }, false},
		{"a node of another group", func(s *impl.State) { s.Nodes[0].Group = 1 }, false},
		{"a node with another Boot", func(s *impl.State) { s.Nodes[3].Boot = 1 }, false},
		{"a node with another Boot and Idle", func(s *impl.State) { s.Nodes[3].Boot, s.Nodes[3].Idle = 1, 0 }, false},
		{"nodes in another order", func(s *impl.State) { s.Nodes[0], s.Nodes[1] = s.Nodes[1], s.Nodes[0] }, false},
		{"a work more", func(s *impl.State) { s.Works = append(s.Works, impl.WorkState{}) }, false},
		{"a work fewer", func(s *impl.State) { s.Works = s.Works[:1] }, false},
		{"no works", func(s *impl.State) { s.Works = nil }, false},
		{"another Want", func(s *impl.State) { s.Works[0].Want = 4 }, false},
		{"another Want of the last work", func(s *impl.State) { s.Works[1].Want = 0 }, false},
		{"works in another order", func(s *impl.State) { s.Works[0], s.Works[1] = s.Works[1], s.Works[0] }, false},
		{"another NextPod", func(s *impl.State) { s.NextPod++ }, false},
		{"another NextNode", func(s *impl.State) { s.NextNode-- }, false},
		{"NextPod and NextNode by each other", func(s *impl.State) { s.NextPod, s.NextNode = s.NextNode, s.NextPod }, false},
	} {
		s := restingState()
		x.change(&s)
		wantRestSame(t, x.why, restingState(), s, x.want)
		wantRestSame(t, x.why+", in lists of its own", s, copyState(s), true)
	}
}

// RestSame of any two, ok or not, and of any number in each field.
func TestRestSameOfAny(t *testing.T) {
	list := append(memoryCases(), stateCase{"nothing at all", impl.Cfg{}, impl.State{}})
	for _, x := range list {
		for _, y := range list {
			wantRestSame(t, x.why+" and "+y.why, x.s, y.s, modelRestSame(x.s, y.s))
		}
		s := copyState(x.s)
		for _, at := range everyField(&s) {
			was := *at
			for _, n := range append([]int{was + 1, was - 1}, wildNumbers...) {
				*at = n
				wantRestSame(t, x.why+", one field", x.s, s, modelRestSame(x.s, s))
			}
			*at = was
		}
	}
	empty := impl.State{Pods: []impl.Pod{}, Nodes: []impl.Node{}, Works: []impl.WorkState{}, Groups: []impl.GroupState{}}
	wantRestSame(t, "empty lists and none", impl.State{}, empty, true)
	wantRestSame(t, "nothing and a group", impl.State{}, impl.State{Groups: make([]impl.GroupState, 3)}, true)
	wantRestSame(t, "nothing and a work", impl.State{}, impl.State{Works: make([]impl.WorkState, 1)}, false)
}

// restCount is a change of what is at rest, an order, and behind how many rounds it is at rest again, reckoned by hand.
type restCount struct {
	change restChange
	order  int
	want   int
}

func restCounts() []restCount {
	missing := func(s *impl.State) { s.Pods = s.Pods[1:] }
	quick := func(c *impl.Cfg) { c.Start = 1 }
	more := func(s *impl.State) { s.Works[0].Load = 400 }
	few := func(s *impl.State) { s.Works[0].Load = 150 }
	return []restCount{
		{restChange{"at rest", nil, nil}, 0, 0},
		{restChange{"at rest", nil, nil}, 500, 0},
		// Nothing is to be done but that ticks go by.
		{restChange{"a pod starts", nil, onNode(0, 1, 1)}, 0, 1},
		{restChange{"a pod starts for 2 ticks", nil, onNode(2, 1, 2)}, 7, 2},
		{restChange{"a pod starts for 3 ticks", nil, onNode(4, 1, 3)}, 719, 3},
		{restChange{"a node boots for 1 tick", nil, func(s *impl.State) { s.Nodes[1].Boot = 1 }}, 300, 1},
		{restChange{"a node boots for 2 ticks", nil, func(s *impl.State) { s.Nodes[3].Boot = 2 }}, 0, 2},
		// It is put on the node 1 in the first round, in whatever order, and starts for Start.
		{restChange{"a pod waits", nil, onNode(0, 0, 0)}, 0, 3},
		{restChange{"a pod waits, Start 1", quick, onNode(0, 0, 0)}, 0, 1},
		{restChange{"a pod waits, Start 1", quick, onNode(0, 0, 0)}, 719, 1},
		// 1 2 3 4 5 6: it is made and put; 6 5 4 3 2 1: it is made, and put in the next round.
		{restChange{"a pod is missing, Start 1", quick, missing}, 0, 1},
		{restChange{"a pod is missing, Start 1", quick, missing}, 719, 2},
		{restChange{"a pod is missing", nil, missing}, 0, 3},
		{restChange{"a pod is missing", nil, missing}, 719, 4},
		// Want, make, bind: all in the first round; 6 5 4 3 2 1, then 1 2 3 4 5 6: one more.
		{restChange{"one more is asked for, Start 1", quick, more}, 0, 1},
		{restChange{"one more is asked for, Start 1", quick, more}, 719, 2},
		{restChange{"one more is asked for", nil, more}, 0, 3},
		// The greatest is 2 3 1 4 6 5, and the least, which comes behind it, is as it is: one is wanted; it is made and put.
		// The greatest but one is 1 3 2 4 6 5: one is wanted and made; it is put.
		{restChange{"one more is asked for, the greatest order", quick, more}, math.MaxInt, 2},
		{restChange{"one more is asked for, the greatest order but one", quick, more}, math.MaxInt - 1, 2},
		// Behind the least comes what is as the greatest but one: one is wanted; it is made; it is put.
		{restChange{"one more is asked for, the least order", quick, more}, math.MinInt, 3},
		// -1 is as 0, -2 as 1 (2 1 3 4 5 6: wanted behind make), -720 as 719.
		{restChange{"one more is asked for, below 0", quick, more}, -1, 1},
		{restChange{"one more is asked for, below 0", quick, more}, -2, 2},
		{restChange{"a pod is missing, far below 0", quick, missing}, -720, 2},
		{restChange{"a pod is missing, as with 0", quick, missing}, 720, 1},
		{restChange{"a pod is missing, as with 719", quick, missing}, 1439, 2},
		// One is wanted no longer with the fourth look, in 4 1 2 3 5 6, and goes at once; with the only look in 6 5 4 3 2 1,
		// and goes in the next round; with the second look in 2 1 3 4 5 6, and goes in the next one.
		{restChange{"one fewer is asked for", nil, few}, 0, 4},
		{restChange{"one fewer is asked for, Calm 1", func(c *impl.Cfg) { c.Calm = 1 }, few}, 0, 1},
		{restChange{"one fewer is asked for, Calm 1", func(c *impl.Cfg) { c.Calm = 1 }, few}, 719, 2},
		{restChange{"one fewer is asked for, at the third look", nil, func(s *impl.State) { few(s); s.Works[0].Low = 2 }}, 0, 3},
		// A node comes in the round in which it is asked for, and boots for one tick fewer behind it.
		{restChange{"a node of Boot 1 is missing", nil, func(s *impl.State) { s.Nodes = slices.Delete(s.Nodes, 2, 3) }}, 0, 1},
		{restChange{"a node of Boot 2 is missing", nil, func(s *impl.State) { s.Nodes = s.Nodes[:3] }}, 0, 2},
		{restChange{"a group rests for 6 ticks", nil, func(s *impl.State) {
			s.Nodes, s.Groups[1] = slices.Delete(s.Nodes, 2, 3), impl.GroupState{Rest: 6, Fails: 2}
		}}, 0, 7},
		{restChange{"a node that is needed is asked for", nil, func(s *impl.State) { s.Nodes, s.Groups[2].Asked = s.Nodes[:3], 1 }}, 0, 2},
		// One that nobody needs comes and lives behind the first round; in the second the node 2 goes, which was idle for long.
		{restChange{"a node that nobody needs is asked for", nil, func(s *impl.State) { s.Groups[1].Asked = 1 }}, 0, 2},
		// It boots till behind the third round, and goes at its fifth look.
		{restChange{"a node that nobody needs, of Boot 3", nil, func(s *impl.State) { s.Groups[0].Asked = 1 }}, 0, 8},
		{restChange{"a node more", nil, func(s *impl.State) { s.Nodes, s.NextNode = append(s.Nodes, impl.Node{Id: 9}), 10 }}, 0, 5},
		{restChange{"a node more, idle at 4 looks", nil, func(s *impl.State) { s.Nodes, s.NextNode = append(s.Nodes, impl.Node{Id: 9, Idle: 4}), 10 }}, 0, 1},
		{restChange{"one may go, and is idle for long", func(c *impl.Cfg) { c.Groups[1].Min = 1 }, nil}, 400, 1},
		// One goes in a round: the node 2 in the first, the node 4 at its fifth look in the third.
		{restChange{"two may go", func(c *impl.Cfg) { c.Groups[1].Min = 0 }, nil}, 0, 3},
	}
}

func TestRestAt(t *testing.T) {
	for _, x := range restCounts() {
		c, s := x.change.of(restingCfg(), restingState())
		wantRestAt(t, x.change.why, c, s, x.order, 1000, x.want)
		wantMosts(t, x.change.why, c, s, x.order, x.want)
		if got := modelRestAt(c, s, x.order, 50); got != x.want {
			t.Errorf("%s: the rounds one by one: %d, want %d", x.change.why, got, x.want)
		}
	}
}

// wantMosts asks of what is at rest behind so many rounds what is told of just as many, of fewer, and of more.
func wantMosts(t *testing.T, why string, c impl.Cfg, s impl.State, order int, rounds int) {
	t.Helper()
	for most := -2; most <= rounds+2; most++ {
		want := rounds
		if most < rounds {
			want = -1
		}
		wantRestAt(t, why, c, s, order, most, want)
	}
	for _, most := range []int{99999, 100000, 100001, 200000, math.MaxInt - 1, math.MaxInt} {
		wantRestAt(t, why, c, s, order, most, rounds)
	}
	for _, most := range []int{-100000, -100001, math.MinInt, math.MinInt + 1} {
		wantRestAt(t, why, c, s, order, most, -1)
	}
}

// The document's example of the desk, as far as this chapter tells of it.
func TestRestOfTheDesk(t *testing.T) {
	c := plainCfg()
	s := behind(c, impl.StateOpen(c), turnLoad(0, 350), turnLoad(1, 15))
	settle := func(why string, want int) {
		t.Helper()
		wantRestAt(t, why, c, s, 0, impl.CfgBound(c, 1), want)
		wantMosts(t, why, c, s, 0, want)
		for order := range want {
			wantRestOk(t, why, c, s, false)
			s = impl.LoopRound(c, s, order)
		}
		wantRestOk(t, why, c, s, true)
	}
	settle("from the beginning", 10)
	s = behind(c, s, turnLoad(0, 90))
	for order, rest := range []bool{false, true, true} {
		s = impl.LoopRound(c, s, order+1)
		wantRestOk(t, "fewer are asked for", c, s, rest)
	}
	settle("at rest", 0)
	s = impl.LoopPlay(c, s, []impl.LoopEvent{die(1).event(), whole(impl.LoopOust), whole(impl.LoopGrow), failToCome(0).event()})
	settle("a node died", 1)
	wantStays(t, "in the end", c, s, 0, 1, 2, 3)
}

// restBeginnings are roomy, from the beginning and from what is far from rest.
func restBeginnings() []stateCase {
	c := plainCfg()
	open := behind(c, impl.StateOpen(c), turnLoad(0, 350), turnLoad(1, 15))
	full := open
	for order := range 10 {
		full = impl.LoopRound(c, full, order)
	}
	failed := impl.LoopPlay(c, open, append(slices.Repeat([]impl.LoopEvent{whole(impl.LoopMake), whole(impl.LoopGrow)}, 1), failToCome(0).event()))
	broken := impl.LoopPlay(c, full, []impl.LoopEvent{die(2).event(), turnLoad(0, 90).event(), step(impl.LoopWant, 1), step(impl.LoopOust, 1), step(impl.LoopMake, 1), step(impl.LoopBind, 0)})
	return []stateCase{
		{"the beginning", c, open},
		{"no load any more", c, behind(c, full, turnLoad(0, 0), turnLoad(1, 0))},
		{"nodes died", c, behind(c, full, die(1), die(3))},
		{"all nodes died", c, behind(c, full, die(1), die(2), die(3))},
		{"a node failed to come", c, failed},
		{"broken off", c, broken},
		{"a pod that starts, one that waits", c, plainState()},
	}
}

// P13 in every order, and with each order again and again; in how many rounds is not all the same.
func TestRestInEveryOrder(t *testing.T) {
	different := 0
	for _, x := range restBeginnings() {
		seen := map[int]int{}
		for order := range 720 {
			rounds := impl.RestAt(x.c, x.s, order, impl.CfgBound(x.c, 1))
			if rounds < 0 {
				t.Errorf("%s: with the order %d not at rest", x.why, order)
			}
			seen[rounds]++
			if order%24 == 0 {
				wantRestAt(t, x.why, x.c, x.s, order+720, rounds, rounds)
				wantComesToRest(t, x.why, x.c, x.s, order)
				wantComesToRest(t, x.why, x.c, x.s, -order)
				wantRestWithOrders(t, x.why, x.c, x.s, func(int) int { return order })
			}
		}
		different += len(seen)
	}
	if different < 20 {
		t.Errorf("in all orders it takes one of %d", different)
	}
	wide := wideCfg()
	if !impl.CfgRoomy(wide) {
		t.Fatal("wide is not roomy")
	}
	for order := -720; order < 720; order += 11 {
		wantComesToRest(t, "wide", wide, wideState(), order)
	}
}

// wantRestWithOrders is P13 in whatever order each of the rounds is.
func wantRestWithOrders(t *testing.T, why string, c impl.Cfg, s impl.State, orderOf func(round int) int) {
	t.Helper()
	from, most := s, impl.CfgBound(c, 1)
	for round := range most + 1 {
		if impl.RestOk(c, s) {
			wantStays(t, why, c, s, orderOf(round+1), orderOf(round+2), orderOf(round+3))
			return
		}
		s = impl.LoopRound(c, s, orderOf(round))
	}
	t.Errorf("%s: not at rest within %d, from the order %d: %v of %v", why, most, orderOf(0), from, c)
}

// Orders at the ends of the numbers, and those behind them: as they wrap round, so do the rounds.
func TestRestAtTheEndsOfOrders(t *testing.T) {
	for _, x := range restBeginnings() {
		for off := range 12 {
			for _, order := range []int{math.MaxInt - off, math.MinInt + off, -off, off - 6, 720 - off, -720 - off, 1440*off - 3} {
				rounds := wantComesToRest(t, x.why, x.c, x.s, order)
				if want := modelRestAt(x.c, x.s, order, 200); rounds != want {
					t.Errorf("%s: with the order %d %d, want %d", x.why, order, rounds, want)
				}
			}
		}
	}
}

// withRoom makes a group of c be one that has just room for all pods, or for some more.
func withRoom(seed *uint32, c *impl.Cfg) {
	g := &c.Groups[nextNumber(seed, len(c.Groups))]
	pods := podsTogether(*c)
	slots := max((pods+7)/8, 1+nextNumber(seed, 4))
	for _, w := range c.Works {
		g.Size = size(max(g.Size.Cpu, slots*w.Size.Cpu), max(g.Size.Mem, slots*w.Size.Mem))
	}
	g.Max = min(8, max(g.Max, (pods+slots-1)/slots+nextNumber(seed, 3)*nextNumber(seed, 2)))
}

// restLoad is a load at which each number of pods is about as likely, or one far off.
func restLoad(seed *uint32, w impl.CfgWork) int {
	switch nextNumber(seed, 6) {
	case 0:
		return 0
	case 1:
		return nextNumber(seed, impl.CfgMaxLoad+1)
	case 2:
		return nextNumber(seed, w.Max*w.Limit+2)
	}
	return nextNumber(seed, w.Max*w.Target+2)
}

// retime has other waits, and what there is in the midst of them.
func retime(seed *uint32, c *impl.Cfg, s *impl.State) {
	c.Start, c.Calm, c.Back = 1+nextNumber(seed, 8), 1+nextNumber(seed, 8), 1+nextNumber(seed, 8)
	for i := range c.Groups {
		c.Groups[i].Boot = 1 + nextNumber(seed, 8)
		if nextNumber(seed, 3) == 0 {
			s.Groups[i].Rest, s.Groups[i].Fails = nextNumber(seed, 8*c.Back+1), nextNumber(seed, 4)
		}
	}
	for i := range s.Nodes {
		if n := &s.Nodes[i]; n.Boot > 0 {
			n.Boot = 1 + nextNumber(seed, c.Groups[n.Group].Boot)
		}
	}
	for i := range s.Pods {
		if p := &s.Pods[i]; p.Node > 0 {
			p.Wait = nextNumber(seed, c.Start+1)
		}
	}
}

// reload has other works but for their sizes and ranks, with as many pods wanted as may be, and any loads.
func reload(seed *uint32, c *impl.Cfg, s *impl.State) {
	for i := range c.Works {
		w := &c.Works[i]
		w.Max = max(podsOf(*s, i), 1+nextNumber(seed, 8))
		w.Min = 1 + nextNumber(seed, min(w.Max, 4))
		w.Target = 1 + nextNumber(seed, 40)
		w.Limit = w.Target + 1 + nextNumber(seed, 60)
		w.Tol = nextNumber(seed, 1+min(500, (1000*(w.Limit-w.Target)-1)/w.Target)) * nextNumber(seed, 2)
		s.Works[i] = impl.WorkState{Want: w.Min + nextNumber(seed, w.Max-w.Min+1), Load: restLoad(seed, *w), Low: nextNumber(seed, c.Calm+1)}
	}
}

// someUnrest is what there may be where there is room for all: laid out anyhow, and mostly behind a way of steps that were
// broken off anywhere, rounds, and what happens outside; the last of it is what load there is.
func someUnrest(seed *uint32) (impl.Cfg, impl.State) {
	c, s := someRest(seed)
	retime(seed, &c, &s)
	reload(seed, &c, &s)
	withRoom(seed, &c)
	for range nextNumber(seed, 3) * nextNumber(seed, 25) {
		if nextNumber(seed, 10) == 0 {
			s = impl.LoopRound(c, s, nextNumber(seed, 720))
			continue
		}
		s = impl.LoopDo(c, s, someEvent(seed, c, s))
	}
	for i, w := range c.Works {
		s = impl.PlantLoad(c, s, i, restLoad(seed, w))
	}
	return c, s
}

// restTold is of which kinds what came to rest was.
type restTold struct {
	soon, late, fails, waits, loses, idles, tight int
}

func (n *restTold) add(c impl.Cfg, s impl.State, rounds int) {
	switch {
	case rounds < 10:
		n.soon++
	case rounds > 40:
		n.late++
	}
	if slices.ContainsFunc(s.Groups, func(g impl.GroupState) bool { return g.Fails > 0 && g.Rest > 0 }) {
		n.fails++
	}
	if slices.ContainsFunc(s.Pods, func(p impl.Pod) bool { return p.Node == 0 }) {
		n.waits++
	}
	if len(s.Pods) > 0 && len(s.Nodes) == 0 {
		n.loses++
	}
	if slices.ContainsFunc(s.Nodes, func(one impl.Node) bool { return modelIdle(s, one.Id) }) {
		n.idles++
	}
	if !slices.ContainsFunc(c.Groups, func(g impl.CfgGroup) bool { return slotsTogether(c, g) > podsTogether(c) }) {
		n.tight++
	}
}

// P13 and P14 from whatever there is.
func TestRestOfManyWays(t *testing.T) {
	seed := uint32(44)
	var n restTold
	for range 700 {
		c, s := someUnrest(&seed)
		wantRestOk(t, "some", c, s, modelRestOk(c, s))
		rounds := wantComesToRest(t, "some", c, s, nextNumber(&seed, 4320)-2160)
		n.add(c, s, rounds)
		if nextNumber(&seed, 3) == 0 {
			from := nextNumber(&seed, 720)
			wantRestWithOrders(t, "in any orders", c, s, func(round int) int { return from + 77*round*round })
		}
	}
	if n.soon < 50 || n.late < 50 || n.fails < 50 || n.waits < 200 || n.loses < 50 || n.idles < 50 || n.tight < 50 {
		t.Errorf("of too few kinds: %+v", n)
	}
}

// Behind rest the outside goes on: the load turns, a node dies or a step is broken off, and it is at rest again.
func TestRestAgainAndAgain(t *testing.T) {
	seed := uint32(14)
	moved := 0
	for range 40 {
		c, s := someUnrest(&seed)
		for range 6 {
			order := nextNumber(&seed, 720)
			rounds := wantComesToRest(t, "again", c, s, order)
			for i := range rounds {
				s = impl.LoopRound(c, s, order+i)
			}
			if rounds > 0 {
				moved++
			}
			work := nextNumber(&seed, len(c.Works))
			s = impl.PlantLoad(c, s, work, restLoad(&seed, c.Works[work]))
			for range nextNumber(&seed, 4) {
				s = impl.LoopDo(c, s, someEvent(&seed, c, s))
			}
			s = impl.PlantLoad(c, s, work, restLoad(&seed, c.Works[work]))
		}
	}
	if moved < 100 {
		t.Errorf("%d times there was something to do", moved)
	}
}

// RestAt is as the rounds one by one, also where there is no room for all.
func TestRestAtOfManyWays(t *testing.T) {
	seed := uint32(130)
	never := 0
	for range 500 {
		c, s := someRest(&seed)
		for i, w := range c.Works {
			s = impl.PlantLoad(c, s, i, restLoad(&seed, w))
		}
		order, most := nextNumber(&seed, 1440)-720, nextNumber(&seed, 40)
		want := modelRestAt(c, s, order, most)
		wantRestAt(t, "some", c, s, order, most, want)
		if want < 0 {
			never++
		}
	}
	if never < 50 || never > 450 {
		t.Errorf("%d times it was not at rest", never)
	}
}

// Where there is no room for all the loop may never be at rest, however long one waits: that is told, and the call ends.
func TestRestNever(t *testing.T) {
	c := plainCfg()
	few := plainCfg()
	few.Groups[0].Max = 2
	none := plainCfg()
	none.Groups[0].Max = 0
	small := plainCfg()
	small.Groups[0].Size = size(1, 9)
	last := impl.StateOpen(c)
	last.NextNode = impl.StateMaxId
	lastPod := impl.StateOpen(c)
	lastPod.NextPod = impl.StateMaxId
	least := leastCfg()
	for _, x := range []stateCase{
		{"too few nodes", few, behind(few, impl.StateOpen(few), turnLoad(0, 350), turnLoad(1, 15))},
		{"no nodes", none, impl.StateOpen(none)},
		{"too small nodes", small, impl.StateOpen(small)},
		{"no room at all", least, impl.StateOpen(least)},
		// There is room for all, but nothing that is asked for can come.
		{"no number of a node is left", c, last},
		{"no number of a pod is left", c, lastPod},
	} {
		wantState(t, x.why, x.c, x.s, true)
		for _, most := range []int{-1, 0, 1, 500, 100000, 100001, math.MaxInt} {
			wantRestAt(t, x.why, x.c, x.s, 0, most, -1)
			wantRestAt(t, x.why, x.c, x.s, math.MaxInt-700, most, -1)
		}
		wantRestOk(t, x.why, x.c, x.s, false)
	}
	// Also without room for all it may be at rest, where the load asks for little.
	if impl.CfgRoomy(few) {
		t.Error("few is roomy")
	}
	quiet := behind(few, impl.StateOpen(few), turnLoad(0, 50), turnLoad(1, 5))
	wantMosts(t, "little is asked for", few, quiet, 0, modelRestAt(few, quiet, 0, 50))
	tight := tightState()
	if got := modelRestAt(tightCfg(), tight, 0, 50); got != 8 { // the last pod starts for 8 ticks
		t.Errorf("tight: at rest behind %d", got)
	}
	wantMosts(t, "tight", tightCfg(), tight, 0, 8)
}

// wantNoRest asks that nothing is at rest of what is not ok, however long one waits.
func wantNoRest(t *testing.T, why string, c impl.Cfg, s impl.State) {
	t.Helper()
	if impl.StateOk(c, s) {
		t.Fatalf("%s: ok: %v", why, s)
	}
	wantRestOk(t, why, c, s, false)
	for _, most := range []int{-1, 0, 1, 100000, math.MaxInt, math.MinInt} {
		wantRestAt(t, why, c, s, 0, most, -1)
		wantRestAt(t, why, c, s, math.MaxInt, most, -1)
	}
	wantRestSame(t, why, s, copyState(s), true)
}

func TestRestOfWrongState(t *testing.T) {
	for _, x := range append(wrongStates(), stateCase{"nothing at all", impl.Cfg{}, impl.State{}}, stateCase{"nothing is asked", impl.Cfg{}, restingState()}) {
		wantNoRest(t, x.why, x.c, x.s)
	}
	// What would be at rest, if it were ok.
	for _, x := range []restChange{
		{"too great a Want and too many pods", func(c *impl.Cfg) { c.Works[0].Max = 2 }, nil},
		{"a load below 0", nil, func(s *impl.State) { s.Works[0].Load = -1 }},
		{"too great a load", nil, func(s *impl.State) { s.Works[1].Load = impl.CfgMaxLoad + 1 }},
		{"too great a Low", nil, func(s *impl.State) { s.Works[1].Low = 5 }},
		{"too great an Idle", nil, func(s *impl.State) { s.Nodes[3].Idle = 6 }},
		{"too great a Rest", nil, func(s *impl.State) { s.Groups[0].Rest = 9 }},
		{"too many Fails", nil, func(s *impl.State) { s.Groups[2].Fails = 4 }},
		{"fewer asked for than none", nil, func(s *impl.State) { s.Groups[2].Asked = -1 }},
		{"a Boot below 0", nil, func(s *impl.State) { s.Nodes[3].Boot = -1 }},
		{"a Wait below 0", nil, func(s *impl.State) { s.Pods[0].Wait = -1 }},
		{"a place of one on a node", nil, func(s *impl.State) { s.Pods[0].Nom = 2 }},
		{"a node overfull", nil, func(s *impl.State) { s.Pods[0].Node, s.Pods[1].Node, s.Pods[3].Node = 2, 2, 2 }},
		{"pods turned round", nil, func(s *impl.State) { slices.Reverse(s.Pods) }},
		{"nodes turned round", nil, func(s *impl.State) { slices.Reverse(s.Nodes) }},
		{"NextPod is a pod's", nil, func(s *impl.State) { s.NextPod = 6 }},
		{"NextNode is a node's", nil, func(s *impl.State) { s.NextNode = 7 }},
		{"a work more", nil, func(s *impl.State) { s.Works = append(s.Works, impl.WorkState{}) }},
		{"a group fewer", nil, func(s *impl.State) { s.Groups = s.Groups[:2] }},
		{"all lists are empty", nil, func(s *impl.State) { *s = impl.State{NextPod: 1, NextNode: 1} }},
		{"nothing is asked of groups", func(c *impl.Cfg) { c.Groups = nil }, nil},
		{"nothing is asked of works", func(c *impl.Cfg) { c.Works = nil }, nil},
		{"a Calm of 0", func(c *impl.Cfg) { c.Calm = 0 }, nil},
		{"a Tol that lets Limit be", func(c *impl.Cfg) { c.Works[0].Tol = 500 }, nil},
	} {
		c, s := x.of(restingCfg(), restingState())
		wantNoRest(t, x.why, c, s)
	}
}

// What is asked not being ok, nothing is asked for, and no number of pods is near.
func TestRestOfWrongCfg(t *testing.T) {
	for _, x := range append(wrongLooks(), stateCase{"nothing", impl.Cfg{}, impl.State{}}) {
		if impl.CfgOk(x.c) {
			continue
		}
		for _, work := range append([]int{0, 1, 2}, wildNumbers...) {
			for _, load := range []int{0, 5, 100, impl.CfgMaxLoad, -1, math.MaxInt} {
				wantRestWant(t, x.why, x.c, work, load, 0)
				for pods := range 9 {
					wantRestNear(t, x.why, x.c, work, load, pods, false)
				}
			}
		}
	}
}

// Numbers of any greatness in each argument, and in each field of what there is and of what is asked.
func TestRestOfWildNumbers(t *testing.T) {
	for _, c := range okCfgs() {
		for _, n := range wildNumbers {
			for _, work := range []int{-1, 0, 1, 2, 3, n} {
				for _, load := range []int{-1, 0, 300, n} {
					isThere := work >= 0 && work < len(c.Works) && load >= 0 && load <= impl.CfgMaxLoad
					want := 0
					if isThere {
						want = modelRestWant(c.Works[work], load)
					}
					wantRestWant(t, "wild", c, work, load, want)
					for _, pods := range []int{1, 3, 8, n} {
						wantRestNear(t, "wild", c, work, load, pods, isThere && modelRestNear(c.Works[work], load, pods))
					}
				}
			}
		}
	}
	eachWild(func(why string, c impl.Cfg, s impl.State) {
		if !impl.StateOk(c, s) {
			wantNoRest(t, why, c, s)
			return
		}
		wantRestOk(t, why, c, s, modelRestOk(c, s))
		wantRestAt(t, why, c, s, 5, 1, modelRestAt(c, s, 5, 1))
	})
	for _, n := range wildNumbers {
		want := modelRestAt(plainCfg(), plainState(), n, 60)
		wantRestAt(t, "any order", plainCfg(), plainState(), n, 60, want)
		wantRestAt(t, "any most", plainCfg(), plainState(), 3, n, modelRestAt(plainCfg(), plainState(), 3, max(-1, min(n, 60))))
	}
}

// Nothing is written into the arguments, nor behind the ends of their lists; the same is answered once more.
func TestRestMemory(t *testing.T) {
	cases := append(memoryCases(), stateCase{"at rest", restingCfg(), restingState()})
	for _, x := range restOffs()[:30] {
		c, s := x.of(restingCfg(), restingState())
		cases = append(cases, stateCase{x.why, c, s})
	}
	for _, x := range cases {
		s, whole := spare(x.s)
		other, wholeOther := spare(x.s)
		was := copyState(whole)
		for range 2 {
			wantKeepsCfg(t, x, func(c impl.Cfg) {
				wantRestWant(t, x.why, c, 0, 33, impl.RestWant(x.c, 0, 33))
				wantRestNear(t, x.why, c, 0, 33, 2, impl.RestNear(x.c, 0, 33, 2))
				wantRestOk(t, x.why, c, s, impl.RestOk(x.c, x.s))
				wantRestAt(t, x.why, c, s, 3, 30, impl.RestAt(x.c, x.s, 3, 30))
			})
			wantRestSame(t, x.why, s, other, true)
		}
		if !sameState(whole, was) || !sameState(wholeOther, was) || !sameState(s, x.s) {
			t.Errorf("%s: an argument was written into: %v", x.why, whole)
		}
	}
}

// Nothing is kept between two calls: the same is answered whatever was asked in between.
func TestRestKeepsNothing(t *testing.T) {
	seed := uint32(5)
	for range 60 {
		c, s := someUnrest(&seed)
		d, other := someUnrest(&seed)
		rest, at := impl.RestOk(c, s), impl.RestAt(c, s, 9, 100)
		impl.RestAt(d, other, 8, 100)
		impl.RestOk(d, other)
		wantRestOk(t, "again", c, s, rest)
		wantRestAt(t, "again", c, s, 9, 100, at)
		wantRestSame(t, "again", s, other, modelRestSame(s, other))
	}
}
