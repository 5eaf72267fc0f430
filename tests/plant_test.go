package tests

import (
	"math"
	"slices"
	"testing"

	"loop.example/hive/impl"
)

// outside is something that happens outside, with what it happens to, and a load.
type outside struct {
	what string
	at   int
	load int
}

func tick() outside                    { return outside{what: "tick"} }
func come(group int) outside           { return outside{what: "come", at: group} }
func failToCome(group int) outside     { return outside{what: "fail", at: group} }
func turnLoad(work int, n int) outside { return outside{what: "load", at: work, load: n} }
func die(node int) outside             { return outside{what: "die", at: node} }
func ticks(n int) []outside            { return slices.Repeat([]outside{tick()}, n) }
func fails(group int, n int) []outside { return slices.Repeat([]outside{failToCome(group)}, n) }

func behind(c impl.Cfg, s impl.State, list ...outside) impl.State {
	for _, o := range list {
		s = o.do(c, s)
	}
	return s
}

func (o outside) do(c impl.Cfg, s impl.State) impl.State {
	switch o.what {
	case "tick":
		return impl.PlantTick(c, s)
	case "come":
		return impl.PlantCome(c, s, o.at, true)
	case "fail":
		return impl.PlantCome(c, s, o.at, false)
	case "load":
		return impl.PlantLoad(c, s, o.at, o.load)
	case "die":
		return impl.PlantDie(c, s, o.at)
	}
	panic("nothing outside: " + o.what)
}

// model is the chapter once more, for what is ok.
func (o outside) model(c impl.Cfg, s impl.State) impl.State {
	s = copyState(s)
	switch o.what {
	case "tick":
		modelTick(&s)
	case "come":
		modelCome(c, &s, o.at)
	case "fail":
		modelFail(c, &s, o.at)
	case "load":
		if o.at >= 0 && o.at < len(s.Works) {
			s.Works[o.at].Load = max(0, min(o.load, 1000000))
		}
	case "die":
		modelDie(&s, o.at)
	}
	return s
}

func modelTick(s *impl.State) {
	for i := range s.Nodes {
		s.Nodes[i].Boot = max(0, s.Nodes[i].Boot-1)
	}
	for i := range s.Pods {
		s.Pods[i].Wait = max(0, s.Pods[i].Wait-1)
	}
	for i := range s.Groups {
		s.Groups[i].Rest = max(0, s.Groups[i].Rest-1)
	}
}

func isAsked(s impl.State, group int) bool {
	return group >= 0 && group < len(s.Groups) && s.Groups[group].Asked > 0
}

func modelCome(c impl.Cfg, s *impl.State, group int) {
	if isAsked(*s, group) && s.NextNode < 1000000 {
		*s = comes(*s, group, c.Groups[group].Boot)
		s.Groups[group].Fails = 0
	}
}

func modelFail(c impl.Cfg, s *impl.State, group int) {
	if !isAsked(*s, group) {
		return
	}
	g := &s.Groups[group]
	switch g.Fails {
	case 0:
		g.Fails, g.Rest = 1, c.Back+c.Back
	case 1:
		g.Fails, g.Rest = 2, 4*c.Back
	default:
		g.Fails, g.Rest = 3, 8*c.Back
	}
	g.Asked--
}

func modelDie(s *impl.State, node int) {
	if !slices.Contains(someNodes(*s), node) {
		return
	}
	s.Nodes = slices.DeleteFunc(s.Nodes, func(n impl.Node) bool { return n.Id == node })
	for i := range s.Pods {
		p := &s.Pods[i]
		if p.Node == node {
			p.Node, p.Wait = 0, 0
		}
		if p.Nom == node {
			p.Nom = 0
		}
	}
}

// wantBehind asks what is behind something outside, and P11, that what there was being ok, what is behind is too.
func wantBehind(t *testing.T, why string, c impl.Cfg, s impl.State, o outside, want impl.State) {
	t.Helper()
	if !impl.StateOk(c, s) {
		t.Fatalf("%s: ahead of %v not StateOk of %v", why, o, s)
	}
	got := o.do(c, s)
	if !sameState(got, want) {
		t.Errorf("%s: behind %v is %v, want %v: %v of %v", why, o, got, want, s, c)
	}
	wantState(t, why, c, got, true)
}

// wantOutside asks of what is ok what the models say of all that can happen to it.
func wantOutside(t *testing.T, why string, c impl.Cfg, s impl.State) {
	t.Helper()
	for _, o := range allOutside(s) {
		wantBehind(t, why, c, s, o, o.model(c, s))
	}
}

// allOutside is all that can happen, with what is not there just ahead of and behind what is.
func allOutside(s impl.State) []outside {
	list := []outside{tick()}
	for group := -1; group <= len(s.Groups); group++ {
		list = append(list, come(group), failToCome(group))
	}
	for work := -1; work <= len(s.Works); work++ {
		for _, n := range []int{-1, 0, 7, impl.CfgMaxLoad, impl.CfgMaxLoad + 1} {
			list = append(list, turnLoad(work, n))
		}
	}
	for _, node := range askedNodes(s) {
		list = append(list, die(node))
	}
	return list
}

// outsideCase is something outside behind the change ahead (or none); behind is what it sets, or nil, if all is as it is.
type outsideCase struct {
	why    string
	ahead  func(s *impl.State)
	o      outside
	behind func(s *impl.State)
}

func wantBehinds(t *testing.T, c impl.Cfg, from impl.State, cases []outsideCase) {
	t.Helper()
	for _, x := range cases {
		s := copyState(from)
		if x.ahead != nil {
			x.ahead(&s)
		}
		want := copyState(s)
		if x.behind != nil {
			x.behind(&want)
		}
		wantBehind(t, x.why, c, s, x.o, want)
		if same := sameState(s, want); same != (x.behind == nil) {
			t.Errorf("%s: as it is: %v", x.why, same)
		}
	}
}

func TestPlantTick(t *testing.T) {
	wantBehinds(t, wideCfg(), wideState(), []outsideCase{
		{"all kinds", nil, tick(), func(s *impl.State) {
			s.Pods[1].Wait, s.Pods[2].Wait = 2, 0
			s.Nodes[1].Boot, s.Nodes[3].Boot = 6, 0
			s.Groups[0].Rest, s.Groups[2].Rest = 47, 4
		}},
		{"none", func(s *impl.State) {
			s.Pods[1].Wait, s.Pods[2].Wait = 0, 0
			s.Nodes[1].Boot, s.Nodes[3].Boot = 0, 0
			s.Groups[0].Rest, s.Groups[2].Rest = 0, 0
		}, tick(), nil},
		{"nodes alone, Boot of 1 and of 2", func(s *impl.State) {
			s.Pods = nil
			s.Nodes = []impl.Node{{Id: 1, Boot: 1, Idle: 3}, {Id: 4}, {Id: 9, Group: 1, Boot: 2}}
			s.Groups = make([]impl.GroupState, 3)
		}, tick(), func(s *impl.State) { s.Nodes[0].Boot, s.Nodes[2].Boot = 0, 1 }},
		{"pods alone, Wait of 1 and of 2", func(s *impl.State) {
			s.Pods[1].Wait, s.Pods[2].Wait, s.Pods[5].Wait = 1, 0, 2
			s.Nodes[1].Boot, s.Nodes[3].Boot = 0, 0
			s.Groups = make([]impl.GroupState, 3)
		}, tick(), func(s *impl.State) { s.Pods[1].Wait, s.Pods[5].Wait = 0, 1 }},
		{"groups alone, Rest of 1 and of 2", func(s *impl.State) {
			s.Pods, s.Nodes = nil, nil
			s.Groups = []impl.GroupState{{Rest: 2, Fails: 3}, {Rest: 1, Asked: 2}, {}}
		}, tick(), func(s *impl.State) { s.Groups[0].Rest, s.Groups[1].Rest = 1, 0 }},
	})
	wantBehind(t, "open", plainCfg(), impl.StateOpen(plainCfg()), tick(), impl.StateOpen(plainCfg()))
	wantBehinds(t, tightCfg(), tightState(), []outsideCase{
		{"as many as there may be", nil, tick(), func(s *impl.State) {
			for i := range s.Pods {
				s.Pods[i].Wait = max(0, i%9-1)
			}
			for i := range s.Groups {
				s.Groups[i].Rest = 63
			}
		}},
	})
}

// Behind as many ticks as each has it is done, not behind one fewer; all behind that are as none.
func TestPlantTickAgain(t *testing.T) {
	for _, x := range plantCases() {
		for n := range 70 {
			got := behind(x.c, x.s, ticks(n)...)
			want := copyState(x.s)
			for i := range want.Nodes {
				want.Nodes[i].Boot = max(0, want.Nodes[i].Boot-n)
			}
			for i := range want.Pods {
				want.Pods[i].Wait = max(0, want.Pods[i].Wait-n)
			}
			for i := range want.Groups {
				want.Groups[i].Rest = max(0, want.Groups[i].Rest-n)
			}
			if !sameState(got, want) {
				t.Errorf("%s: behind %d ticks is %v, want %v", x.why, n, got, want)
			}
			wantState(t, x.why, x.c, got, true)
		}
	}
}

// A node that comes lives behind as many ticks as its group boots, and can have a pod then; that one is ready behind Start.
func TestPlantTickUntilReady(t *testing.T) {
	for boot := 1; boot <= impl.CfgMaxWait; boot++ {
		c := plainCfg()
		c.Groups[0].Boot, c.Start = boot, impl.CfgMaxWait+1-boot
		s := asking(impl.StateOpen(c), 1)
		s, _ = impl.WriteDo(c, s, makePod(0))
		s = behind(c, s, come(0))
		for range boot {
			if _, may := impl.WriteDo(c, s, bind(1, 1)); may {
				t.Errorf("a node that boots for %d has a pod: %v", boot, s)
			}
			s = behind(c, s, tick())
		}
		s, may := impl.WriteDo(c, s, bind(1, 1))
		for range c.Start {
			if _, ready := impl.StatePods(s, 0); !may || ready != 0 {
				t.Errorf("behind a Boot of %d: %v", boot, s)
			}
			s = behind(c, s, tick())
		}
		if _, ready := impl.StatePods(s, 0); ready != 1 {
			t.Errorf("behind a Boot of %d and a Start of %d: %v", boot, c.Start, s)
		}
	}
}

func TestPlantCome(t *testing.T) {
	wantBehinds(t, wideCfg(), wideState(), []outsideCase{
		{"comes, one is asked for", nil, come(0), func(s *impl.State) {
			s.Groups[0] = impl.GroupState{Rest: 48}
			s.Nodes, s.NextNode = append(s.Nodes, impl.Node{Id: 10, Boot: 3}), 11
		}},
		{"comes, two are asked for", nil, come(2), func(s *impl.State) {
			s.Groups[2] = impl.GroupState{Asked: 1, Rest: 5}
			s.Nodes, s.NextNode = append(s.Nodes, impl.Node{Id: 10, Group: 2, Boot: 1}), 11
		}},
		{"comes, as many as may be are asked for", func(s *impl.State) { s.Groups[1].Asked = 5 }, come(1), func(s *impl.State) {
			s.Groups[1].Asked = 4
			s.Nodes, s.NextNode = append(s.Nodes, impl.Node{Id: 10, Group: 1, Boot: 7}), 11
		}},
		{"comes, no node was there", func(s *impl.State) { s.Pods, s.Nodes, s.NextNode = nil, nil, 1 }, come(0), func(s *impl.State) {
			s.Groups[0] = impl.GroupState{Rest: 48}
			s.Nodes, s.NextNode = []impl.Node{{Id: 1, Boot: 3}}, 2
		}},
		{"comes, numbers ahead of it are free", func(s *impl.State) { s.NextNode = 700 }, come(0), func(s *impl.State) {
			s.Groups[0] = impl.GroupState{Rest: 48}
			s.Nodes, s.NextNode = append(s.Nodes, impl.Node{Id: 700, Boot: 3}), 701
		}},
		{"comes, none is asked for", nil, come(1), nil},
		{"comes, none is asked for, and it failed", func(s *impl.State) { s.Groups[0].Asked = 0 }, come(0), nil},
		{"comes, no such group", nil, come(3), nil},
		{"comes, a group below 0", nil, come(-1), nil},

		{"fails the first time", func(s *impl.State) { s.Groups[2].Fails = 0 }, failToCome(2), func(s *impl.State) {
			s.Groups[2] = impl.GroupState{Asked: 1, Rest: 12, Fails: 1}
		}},
		{"fails the second time", nil, failToCome(2), func(s *impl.State) { s.Groups[2] = impl.GroupState{Asked: 1, Rest: 24, Fails: 2} }},
		{"fails the third time", func(s *impl.State) { s.Groups[2].Fails = 2 }, failToCome(2), func(s *impl.State) {
			s.Groups[2] = impl.GroupState{Asked: 1, Rest: 48, Fails: 3}
		}},
		{"fails the fourth time", func(s *impl.State) { s.Groups[2].Fails = 3 }, failToCome(2), func(s *impl.State) {
			s.Groups[2] = impl.GroupState{Asked: 1, Rest: 48, Fails: 3}
		}},
		{"fails the fourth time, and rests as long as it may", nil, failToCome(0), func(s *impl.State) { s.Groups[0].Asked = 0 }},
		{"fails the first time, and rests for longer", func(s *impl.State) { s.Groups[0].Fails = 0 }, failToCome(0), func(s *impl.State) {
			s.Groups[0] = impl.GroupState{Rest: 12, Fails: 1}
		}},
		{"fails, as many as may be are asked for", func(s *impl.State) { s.Groups[1].Asked = 5 }, failToCome(1), func(s *impl.State) {
			s.Groups[1] = impl.GroupState{Asked: 4, Rest: 12, Fails: 1}
		}},
		{"fails, none is asked for", nil, failToCome(1), nil},
		{"fails, none is asked for, and it failed", func(s *impl.State) { s.Groups[0].Asked = 0 }, failToCome(0), nil},
		{"fails, no such group", nil, failToCome(3), nil},
		{"fails, a group below 0", nil, failToCome(-1), nil},
	})
}

// The last number of a node is the one below StateMaxId; where it is gone, none comes, but one may still fail to.
func TestPlantComeOfLastNumbers(t *testing.T) {
	const last = impl.StateMaxId
	next := func(n int) func(s *impl.State) { return func(s *impl.State) { s.NextNode = n } }
	wantBehinds(t, wideCfg(), wideState(), []outsideCase{
		{"two numbers are left", next(last - 2), come(0), func(s *impl.State) {
			s.Groups[0] = impl.GroupState{Rest: 48}
			s.Nodes, s.NextNode = append(s.Nodes, impl.Node{Id: last - 2, Boot: 3}), last-1
		}},
		{"one number is left", next(last - 1), come(2), func(s *impl.State) {
			s.Groups[2] = impl.GroupState{Asked: 1, Rest: 5}
			s.Nodes, s.NextNode = append(s.Nodes, impl.Node{Id: last - 1, Group: 2, Boot: 1}), last
		}},
		{"no number is left", next(last), come(0), nil},
		{"no number is left, and it failed", next(last), come(2), nil},
		{"no number is left, none is asked for", next(last), come(1), nil},
		{"one number is left, fails", next(last - 1), failToCome(2), func(s *impl.State) { s.Groups[2] = impl.GroupState{Asked: 1, Rest: 24, Fails: 2} }},
		{"no number is left, fails", next(last), failToCome(2), func(s *impl.State) { s.Groups[2] = impl.GroupState{Asked: 1, Rest: 24, Fails: 2} }},
		{"no number is left, fails again", next(last), failToCome(0), func(s *impl.State) { s.Groups[0].Asked = 0 }},
		{"no number is left, fails, none is asked for", next(last), failToCome(1), nil},
	})
	s := wideState()
	s.NextNode = last - 1
	s = behind(wideCfg(), s, come(2), come(2), come(0), failToCome(0))
	want := wideState()
	want.NextNode, want.Nodes = last, append(want.Nodes, impl.Node{Id: last - 1, Group: 2, Boot: 1})
	want.Groups[2], want.Groups[0].Asked = impl.GroupState{Asked: 1, Rest: 5}, 0
	if !sameState(s, want) {
		t.Errorf("behind the last number is %v, want %v", s, want)
	}
}

// A group that fails again and again, for each Back, with ticks in between, and none; one that comes ends the row.
func TestPlantFailsAgain(t *testing.T) {
	for back := 1; back <= impl.CfgMaxWait; back++ {
		for between := range 3 {
			c := wideCfg()
			c.Back = back
			c.Groups[1].Max = 8
			s := asking(impl.StateOpen(c), 0, 7)
			wantGroup := func(o outside, asked int, rest int, fails int) {
				t.Helper()
				s = behind(c, s, o)
				if want := (impl.GroupState{Asked: asked, Rest: rest, Fails: fails}); s.Groups[1] != want {
					t.Errorf("Back of %d: behind %v is %v, want %v", back, o, s.Groups[1], want)
				}
				wantState(t, "fails again", c, s, true)
				s = behind(c, s, ticks(between)...)
			}
			wantGroup(failToCome(1), 6, 2*back, 1)
			wantGroup(failToCome(1), 5, 4*back, 2)
			wantGroup(failToCome(1), 4, 8*back, 3)
			wantGroup(failToCome(1), 3, 8*back, 3)
			wantGroup(come(1), 2, 8*back-between, 0)
			wantGroup(failToCome(1), 1, 2*back, 1)
			wantGroup(come(1), 0, 2*back-between, 0)
			if len(s.Nodes) != 2 || s.NextNode != 3 || s.Groups[0] != (impl.GroupState{}) || s.Groups[2] != (impl.GroupState{}) {
				t.Errorf("Back of %d: in the end is %v", back, s)
			}
		}
	}
}

// A group that failed can be asked behind as many ticks as it rests, not behind one fewer.
func TestPlantFailsAndRests(t *testing.T) {
	for back := 1; back <= impl.CfgMaxWait; back++ {
		for row, times := range []int{2, 4, 8, 8} {
			c := plainCfg()
			c.Back, c.Groups[0].Max, c.Groups[0].Min = back, 8, 1
			s := behind(c, asking(impl.StateOpen(c), row+1), fails(0, row+1)...)
			for range times * back {
				if _, may := impl.WriteDo(c, s, ask(0)); may || impl.GrowPick(c, s) != -1 {
					t.Errorf("Back of %d: asked for while it rests: %v", back, s)
				}
				s = behind(c, s, tick())
			}
			if _, may := impl.WriteDo(c, s, ask(0)); !may || impl.GrowPick(c, s) != 0 || s.Groups[0].Fails != min(row+1, 3) {
				t.Errorf("Back of %d: not asked for behind %d times %d ticks: %v", back, times, back, s)
			}
		}
	}
}

// As many come as are asked for, no more, in any order of those that come and those that fail.
func TestPlantComeInEveryOrder(t *testing.T) {
	for way := range 1 << 8 {
		c := wideCfg()
		c.Groups[1].Max = 8
		s := asking(impl.StateOpen(c), 0, 8)
		came, row := 0, 0
		for i := range 10 {
			o := failToCome(1)
			if way>>i&1 == 1 {
				o = come(1)
			}
			wantBehind(t, "in every order", c, s, o, o.model(c, s))
			s = behind(c, s, o)
			switch {
			case i >= 8:
			case o.what == "come":
				came, row = came+1, 0
			default:
				row = min(row+1, 3)
			}
			if len(s.Nodes) != came || s.NextNode != came+1 || s.Groups[1].Fails != row || s.Groups[1].Asked != max(0, 7-i) {
				t.Errorf("the way %b behind %d: %v", way, i, s)
			}
		}
	}
}

func TestPlantLoad(t *testing.T) {
	for _, x := range plantCases() {
		for work := range x.s.Works {
			for n, want := range map[int]int{
				math.MinInt: 0, -impl.CfgMaxLoad: 0, -2: 0, -1: 0, 0: 0, 1: 1, 2: 2, 10001: 10001, 999999: 999999,
				1000000: 1000000, 1000001: 1000000, 2000000: 1000000, 1 << 32: 1000000, math.MaxInt - 1: 1000000, math.MaxInt: 1000000,
			} {
				s := copyState(x.s)
				s.Works[work].Load = want
				wantBehind(t, x.why, x.c, x.s, turnLoad(work, n), s)
				wantBehind(t, x.why+", again", x.c, s, turnLoad(work, n), s)
			}
		}
		for _, work := range append([]int{-1, len(x.s.Works), len(x.s.Works) + 1, 3, 4}, wildNumbers...) {
			for _, n := range []int{math.MinInt, -1, 0, 1, 350, impl.CfgMaxLoad, math.MaxInt} {
				wantBehind(t, x.why+", no such work", x.c, x.s, turnLoad(work, n), x.s)
			}
		}
	}
}

func TestPlantDie(t *testing.T) {
	wantBehinds(t, wideCfg(), wideState(), []outsideCase{
		{"the first, with pods, and one place", nil, die(2), func(s *impl.State) {
			s.Nodes = s.Nodes[1:]
			s.Pods[0], s.Pods[2], s.Pods[6], s.Pods[7] = impl.Pod{Id: 1}, impl.Pod{Id: 4, Work: 2}, impl.Pod{Id: 10, Work: 1}, impl.Pod{Id: 13, Work: 2}
		}},
		{"between, boots", nil, die(3), func(s *impl.State) { s.Nodes = slices.Delete(s.Nodes, 1, 2) }},
		{"between, with a pod that starts, one that is ready, and one place", nil, die(5), func(s *impl.State) {
			s.Nodes = slices.Delete(s.Nodes, 2, 3)
			s.Pods[1], s.Pods[3], s.Pods[5] = impl.Pod{Id: 2, Work: 1}, impl.Pod{Id: 6}, impl.Pod{Id: 9, Work: 2}
		}},
		{"the last but one, boots", nil, die(6), func(s *impl.State) { s.Nodes = slices.Delete(s.Nodes, 3, 4) }},
		{"the last, empty", nil, die(9), func(s *impl.State) { s.Nodes = s.Nodes[:4] }},
		{"the last, boots", func(s *impl.State) { s.Nodes[4].Boot = 1 }, die(9), func(s *impl.State) { s.Nodes = s.Nodes[:4] }},
		{"the last, with a pod", func(s *impl.State) { s.Pods[5].Node, s.Pods[5].Wait = 9, 2 }, die(9), func(s *impl.State) {
			s.Nodes, s.Pods[5] = s.Nodes[:4], impl.Pod{Id: 9, Work: 2}
		}},
		{"the last, with a place", func(s *impl.State) { s.Pods[4].Nom = 9 }, die(9), func(s *impl.State) { s.Nodes, s.Pods[4].Nom = s.Nodes[:4], 0 }},
		{"three places on it", func(s *impl.State) { s.Pods[3].Nom, s.Pods[4].Nom, s.Pods[7].Nom = 9, 9, 9 }, die(9), func(s *impl.State) {
			s.Nodes, s.Pods[3].Nom, s.Pods[4].Nom, s.Pods[7].Nom = s.Nodes[:4], 0, 0, 0
		}},
		{"the only one", func(s *impl.State) { s.Pods, s.Nodes = nil, s.Nodes[3:4] }, die(6), func(s *impl.State) { s.Nodes = nil }},
		{"the only one, with all pods", func(s *impl.State) {
			s.Pods = []impl.Pod{{Id: 1, Node: 2, Wait: 3}, {Id: 2, Work: 1, Nom: 2}, {Id: 5, Work: 2, Node: 2}, {Id: 6}}
			s.Nodes = s.Nodes[:1]
		}, die(2), func(s *impl.State) {
			s.Pods, s.Nodes = []impl.Pod{{Id: 1}, {Id: 2, Work: 1}, {Id: 5, Work: 2}, {Id: 6}}, nil
		}},
		{"of a group with its Min", func(s *impl.State) { s.Nodes = s.Nodes[:3] }, die(3), func(s *impl.State) { s.Nodes = slices.Delete(s.Nodes, 1, 2) }},

		{"no such node, a number between", nil, die(4), nil},
		{"no such node, a number between them all", nil, die(7), nil},
		{"no such node, the next one", nil, die(10), nil},
		{"no such node, behind all", nil, die(impl.StateMaxId), nil},
		{"no such node, ahead of all", nil, die(1), nil},
		{"no such node, the node of those who wait", nil, die(0), nil},
		{"no such node, below 0", nil, die(-2), nil},
		{"no such node, none is there", func(s *impl.State) { s.Pods, s.Nodes = []impl.Pod{{Id: 1}}, nil }, die(2), nil},
		{"no such node, there are no pods", func(s *impl.State) { s.Pods = nil }, die(0), nil},
		{"no such node, the number of a pod", nil, die(13), nil},
	})
}

// One that died is gone for good: its number does not come again, and a group with fewer than Min asks for another.
func TestPlantDieWhileItBoots(t *testing.T) {
	c := plainCfg()
	c.Groups[0].Min = 1
	for ahead := range 3 {
		s := behind(c, asking(impl.StateOpen(c), 1), append([]outside{come(0)}, ticks(ahead)...)...)
		if boot := 2 - ahead; s.Nodes[0] != (impl.Node{Id: 1, Boot: boot}) || impl.GrowPick(c, s) != -1 {
			t.Fatalf("behind %d ticks: %v", ahead, s)
		}
		want := impl.StateOpen(c)
		want.NextNode = 2
		wantBehind(t, "while it boots", c, s, die(1), want)
		s = behind(c, s, die(1), die(1))
		if impl.GrowPick(c, s) != 0 {
			t.Errorf("none is asked for behind %v", s)
		}
		s = behind(c, asking(s, 1), come(0))
		if len(s.Nodes) != 1 || s.Nodes[0] != (impl.Node{Id: 2, Boot: 2}) || s.Groups[0] != (impl.GroupState{}) {
			t.Errorf("behind one that died is %v", s)
		}
	}
}

// Nodes of each count, with numbers between them: each number by itself is found, or none is.
func TestPlantDieByNumber(t *testing.T) {
	c := tightCfg()
	for nodes := range 25 {
		for gap := 1; gap <= 3; gap++ {
			s := impl.StateOpen(c)
			for i := range nodes {
				s.Nodes = append(s.Nodes, impl.Node{Id: 2 + gap*i, Group: i % 3, Boot: i % 2})
			}
			for i := range 24 {
				p := impl.Pod{Id: i + 1, Work: i / 8}
				if i < nodes && i%2 == 0 && i%4 == 0 {
					p.Node, p.Wait = 2+gap*i, i%9
				} else if i < nodes && i%2 == 0 {
					p.Nom = 2 + gap*i
				}
				s.Pods = append(s.Pods, p)
			}
			s.NextPod, s.NextNode = 25, 2+gap*nodes
			for number := -1; number <= s.NextNode+1; number++ {
				wantBehind(t, "by number", c, s, die(number), die(number).model(c, s))
				if gone := len(s.Nodes) - len(impl.PlantDie(c, s, number).Nodes); (gone == 1) != slices.Contains(someNodes(s), number) {
					t.Errorf("of %d nodes %d are gone by the number %d", nodes, gone, number)
				}
			}
		}
	}
}

// Three nodes in all ways: that boot, are empty, hold pods that start or are ready, or a place; each of them dies.
func TestPlantDieInAllWays(t *testing.T) {
	c := growCfg()
	for way := range 6 * 6 * 6 {
		nodes, pods := []int{0, 0, 0}, []impl.Pod{waits(2)}
		for i, left := 0, way; i < 3; i, left = i+1, left/6 {
			switch left % 6 {
			case 0:
				nodes[i] = -1
			case 1:
				pods = append(pods, isOn(1, i+1))
			case 2:
				pods = append(pods, impl.Pod{Work: 1, Node: i + 1, Wait: 3})
			case 3:
				pods = append(pods, waitsFor(0, i+1))
			case 4:
				pods = append(pods, isOn(2, i+1), waitsFor(1, i+1))
			}
		}
		s := asking(hosting(c, nodes, pods...), 2, 0, 1)
		wantOutside(t, "in all ways", c, s)
		for first := 1; first <= 3; first++ {
			once := behind(c, s, die(first))
			for next := 1; next <= 3; next++ {
				wantBehind(t, "two die", c, once, die(next), die(next).model(c, once))
			}
			wantAllWait(t, c, behind(c, s, die(first), die(1), die(2), die(3)), s)
		}
	}
}

// wantAllWait asks that behind the death of all nodes all pods there were wait, and nothing else is another.
func wantAllWait(t *testing.T, c impl.Cfg, got impl.State, s impl.State) {
	t.Helper()
	want := copyState(s)
	want.Nodes = nil
	for i, p := range s.Pods {
		want.Pods[i] = impl.Pod{Id: p.Id, Work: p.Work}
	}
	if !sameState(got, want) {
		t.Errorf("behind the death of all is %v, want %v", got, want)
	}
	wantState(t, "behind the death of all", c, got, true)
}

// As many nodes as there may be die, from the first on, from the last on, and from the middle on.
func TestPlantDieOfAll(t *testing.T) {
	for _, x := range plantCases() {
		ids := someNodes(x.s)
		turned := slices.Clone(ids)
		slices.Reverse(turned)
		half := len(ids) / 2
		for _, order := range [][]int{ids, turned, slices.Concat(ids[half:], ids[:half])} {
			s := x.s
			for _, node := range order {
				wantBehind(t, x.why, x.c, s, die(node), die(node).model(x.c, s))
				s = behind(x.c, s, die(node))
			}
			wantAllWait(t, x.c, s, x.s)
		}
	}
}

// plantCases are those that are ok, with all that can happen.
func plantCases() []stateCase {
	c := growCfg()
	failed := asking(hosting(c, []int{0, -1, 1, -3, 2}, isOn(1, 1), waitsFor(2, 3), impl.Pod{Work: 2, Node: 5, Wait: 2}, waits(0)), 2, 1, 3)
	for i := range failed.Groups {
		failed.Groups[i].Fails, failed.Groups[i].Rest = i+1, i*4
	}
	last := copyState(failed)
	last.NextNode = impl.StateMaxId
	none := impl.StateOpen(leastCfg())
	none.Pods, none.NextPod = []impl.Pod{{Id: 1}}, 2
	return append(okStates(),
		stateCase{"groups that failed", c, failed},
		stateCase{"the last number", c, last},
		stateCase{"a pod and no node", leastCfg(), none},
		stateCase{"looked at", lookCfg(), lookState()},
	)
}

func TestPlantOfCases(t *testing.T) {
	for _, x := range plantCases() {
		wantOutside(t, x.why, x.c, x.s)
	}
}

// plantCounts is of which kinds what happened was.
type plantCounts struct {
	tick, come, fail, failAgain, load, boots, lives, leanedOn, asItIs int
}

func (n *plantCounts) add(o outside, s impl.State, behind impl.State) {
	at := slices.IndexFunc(s.Nodes, func(one impl.Node) bool { return o.what == "die" && one.Id == o.at })
	switch {
	case sameState(s, behind):
		n.asItIs++
	case o.what == "tick":
		n.tick++
	case o.what == "come":
		n.come++
	case o.what == "fail" && s.Groups[o.at].Fails > 0:
		n.failAgain++
	case o.what == "fail":
		n.fail++
	case o.what == "load":
		n.load++
	case s.Nodes[at].Boot > 0:
		n.boots++
	case isLeantOn(s, o.at):
		n.leanedOn++
	default:
		n.lives++
	}
}

func (n plantCounts) least() int {
	return min(n.tick, n.come, n.fail, n.failAgain, n.load, n.boots, n.lives, n.leanedOn, n.asItIs)
}

// someOutside is one of all that can happen, each kind about as often.
func someOutside(seed *uint32, s impl.State) outside {
	group := nextNumber(seed, len(s.Groups)+1)
	switch nextNumber(seed, 6) {
	case 0:
		return tick()
	case 1:
		return come(group)
	case 2:
		return failToCome(group)
	case 3:
		return turnLoad(nextNumber(seed, len(s.Works)+1), nextNumber(seed, 5)*nextNumber(seed, impl.CfgMaxLoad)/2-9)
	case 4:
		if len(s.Nodes) > 0 {
			return die(s.Nodes[nextNumber(seed, len(s.Nodes))].Id)
		}
	}
	return die(nextNumber(seed, s.NextNode+2))
}

func TestPlantOfManyWays(t *testing.T) {
	seed := uint32(38)
	for range 2000 {
		c, s := someRest(&seed)
		wantOutside(t, "some", c, s)
	}
}

// P11 on long ways: whatever happens outside behind whatever change, all stays ok.
func TestPlantOnLongWays(t *testing.T) {
	var n plantCounts
	for seed := range uint32(10) {
		for _, x := range plantCases() {
			s := x.s
			for range 200 {
				if nextNumber(&seed, 2) == 0 {
					s, _ = impl.WriteDo(x.c, s, someWrite(&seed, s))
					continue
				}
				o := someOutside(&seed, s)
				want := o.model(x.c, s)
				wantBehind(t, x.why, x.c, s, o, want)
				n.add(o, s, want)
				s = want
			}
		}
	}
	if n.least() < 50 {
		t.Errorf("of too few kinds: %+v", n)
	}
}

// P11 among the components, whole or broken off: whatever happens outside between them, all stays ok.
func TestPlantInTurns(t *testing.T) {
	plans := [...]func(c impl.Cfg, s impl.State) []impl.Write{
		impl.WantPlan, impl.MakePlan, impl.BindPlan, impl.OustPlan, impl.GrowPlan, impl.ShrinkPlan,
	}
	seed := uint32(11)
	var n plantCounts
	for range 300 {
		c, s := someRest(&seed)
		for range 100 {
			if nextNumber(&seed, 3) > 0 {
				list := plans[nextNumber(&seed, len(plans))](c, s)
				s, _ = impl.WriteAll(c, s, list[:len(list)-nextNumber(&seed, 2)*nextNumber(&seed, len(list)+1)])
				continue
			}
			o := someOutside(&seed, s)
			want := o.model(c, s)
			wantBehind(t, "in turns", c, s, o, want)
			n.add(o, s, want)
			s = want
		}
	}
	if n.least() < 50 {
		t.Errorf("of too few kinds: %+v", n)
	}
}

// wantNotPlanted asks that there is nothing behind whatever happens to what is not ok.
func wantNotPlanted(t *testing.T, why string, c impl.Cfg, s impl.State) {
	t.Helper()
	if impl.StateOk(c, s) {
		t.Fatalf("%s: ok: %v", why, s)
	}
	for _, o := range []outside{tick(), come(-1), come(0), come(2), failToCome(0), failToCome(3), turnLoad(0, 5), turnLoad(9, 0), die(0), die(2), die(5), die(6), die(77)} {
		if got := o.do(c, s); !sameState(got, impl.State{}) {
			t.Errorf("%s: behind %v is %v: %v of %v", why, o, got, s, c)
		}
	}
}

func TestPlantOfWrongState(t *testing.T) {
	for _, x := range wrongStates() {
		wantNotPlanted(t, x.why, x.c, x.s)
	}
	for _, spoil := range []func(c *impl.Cfg, s *impl.State){
		func(c *impl.Cfg, s *impl.State) { s.Groups[0].Asked = 2 },
		func(c *impl.Cfg, s *impl.State) { s.Groups[1].Asked = -1 },
		func(c *impl.Cfg, s *impl.State) { s.Groups[0].Rest = 49 },
		func(c *impl.Cfg, s *impl.State) { s.Groups[2].Rest = -1 },
		func(c *impl.Cfg, s *impl.State) { s.Groups[0].Fails = 4 },
		func(c *impl.Cfg, s *impl.State) { s.Groups[2].Fails = -1 },
		func(c *impl.Cfg, s *impl.State) { s.Groups = s.Groups[:2] },
		func(c *impl.Cfg, s *impl.State) { s.Nodes[1].Boot = 8 },
		func(c *impl.Cfg, s *impl.State) { s.Nodes[3].Boot = -1 },
		func(c *impl.Cfg, s *impl.State) { s.Nodes[0].Boot = 1 }, // under pods; a tick would mend it
		func(c *impl.Cfg, s *impl.State) { s.Nodes[1].Id = 2 },
		func(c *impl.Cfg, s *impl.State) { s.Nodes[0], s.Nodes[1] = s.Nodes[1], s.Nodes[0] },
		func(c *impl.Cfg, s *impl.State) { s.Pods[1].Wait = 4 }, // a tick would mend it
		func(c *impl.Cfg, s *impl.State) { s.Pods[0].Wait = -1 },
		func(c *impl.Cfg, s *impl.State) { s.Pods[4].Wait = 1 },
		func(c *impl.Cfg, s *impl.State) { s.Pods[4].Nom = 6 },  // its death would mend it
		func(c *impl.Cfg, s *impl.State) { s.Pods[6].Node = 5 }, // likewise
		func(c *impl.Cfg, s *impl.State) { s.Works[0].Load = -1 },
		func(c *impl.Cfg, s *impl.State) { s.Works[0].Load = impl.CfgMaxLoad + 1 },
		func(c *impl.Cfg, s *impl.State) { s.NextNode = 0 },
		func(c *impl.Cfg, s *impl.State) { s.NextNode = impl.StateMaxId + 1 },
		func(c *impl.Cfg, s *impl.State) { c.Back = 7; s.Groups[0].Rest = 57 },
		func(c *impl.Cfg, s *impl.State) { c.Back = 5 }, // less than a Rest that there is
		func(c *impl.Cfg, s *impl.State) { c.Back = 0 },
		func(c *impl.Cfg, s *impl.State) { c.Back = 9 },
		func(c *impl.Cfg, s *impl.State) { c.Start = 2 }, // less than a Wait that there is
		func(c *impl.Cfg, s *impl.State) { c.Groups[1].Boot = 6 },
		func(c *impl.Cfg, s *impl.State) { c.Groups[1].Boot = 0 },
		func(c *impl.Cfg, s *impl.State) { c.Groups = c.Groups[:2] },
		func(c *impl.Cfg, s *impl.State) { *c = impl.Cfg{} },
	} {
		c, s := wideCfg(), wideState()
		spoil(&c, &s)
		wantNotPlanted(t, "spoilt", c, s)
	}
}

// Numbers of any greatness in each argument: of what is ok all is as the chapter says, of what is not there is nothing.
func TestPlantOfWildArguments(t *testing.T) {
	for _, x := range plantCases() {
		for _, n := range wildNumbers {
			for _, o := range []outside{come(n), failToCome(n), turnLoad(n, 5), turnLoad(0, n), turnLoad(n, n), die(n)} {
				wantBehind(t, x.why, x.c, x.s, o, o.model(x.c, x.s))
				if got := o.do(impl.Cfg{}, x.s); !sameState(got, impl.State{}) {
					t.Errorf("%s: behind %v is %v", x.why, o, got)
				}
				if got := o.do(x.c, impl.State{}); !sameState(got, impl.State{}) {
					t.Errorf("%s: of nothing, behind %v is %v", x.why, o, got)
				}
			}
		}
	}
}

// Numbers of any greatness in each field of what there is and of what is asked.
func TestPlantOfWildNumbers(t *testing.T) {
	eachWild(func(why string, c impl.Cfg, s impl.State) {
		if !impl.StateOk(c, s) {
			wantNotPlanted(t, why, c, s)
			return
		}
		for _, o := range []outside{tick(), come(0), come(2), failToCome(0), failToCome(2), turnLoad(1, 5), die(2), die(5)} {
			wantBehind(t, why, c, s, o, o.model(c, s))
		}
	})
}

func TestPlantMemory(t *testing.T) {
	cases := append(plantCases(),
		stateCase{"turned round", wideCfg(), changed(func(s *impl.State) { slices.Reverse(s.Pods); slices.Reverse(s.Nodes) })},
		stateCase{"nothing", wideCfg(), impl.State{}},
		stateCase{"not ok", plainCfg(), wideState()},
		stateCase{"nothing is asked", impl.Cfg{}, wideState()},
	)
	for _, x := range cases {
		for _, o := range allOutside(x.s) {
			wantOwnMemory(t, x.why+", "+o.what, x.c, x.s, nil, func(c impl.Cfg, s impl.State, _ []impl.Write) impl.State { return o.do(c, s) })
		}
	}
}

// wantKeepsCfg asks that nothing is written into what is asked, nor behind the ends of its lists.
func wantKeepsCfg(t *testing.T, x stateCase, do func(c impl.Cfg)) {
	t.Helper()
	c := copyCfg(x.c)
	c.Works, c.Groups = slices.Concat(c.Works, wideCfg().Works)[:len(c.Works)], slices.Concat(c.Groups, wideCfg().Groups)[:len(c.Groups)]
	works, groups := slices.Clone(c.Works[:cap(c.Works)]), slices.Clone(c.Groups[:cap(c.Groups)])
	do(c)
	if !sameCfg(c, x.c) || !slices.Equal(c.Works[:cap(c.Works)], works) || !slices.Equal(c.Groups[:cap(c.Groups)], groups) {
		t.Errorf("%s: what is asked was written into: %v", x.why, c)
	}
}

func TestPlantKeepsCfg(t *testing.T) {
	for _, x := range plantCases() {
		wantKeepsCfg(t, x, func(c impl.Cfg) {
			for _, o := range allOutside(x.s) {
				o.do(c, x.s)
			}
		})
	}
}

// Nothing is kept between two calls: the same is answered whatever happened in between.
func TestPlantKeepsNothing(t *testing.T) {
	seed := uint32(11)
	for range 300 {
		c, s := someRest(&seed)
		d, other := someRest(&seed)
		o, between := someOutside(&seed, s), someOutside(&seed, other)
		first := o.do(c, s)
		between.do(d, other)
		between.do(c, first)
		if again := o.do(c, s); !sameState(again, first) {
			t.Errorf("behind %v is %v, was %v, with %v between", o, again, first, between)
		}
	}
}
