package tests

import (
	"math"
	"slices"
	"testing"

	"loop.example/hive/impl"
)

// plainState is of plainCfg: a node with pods that start and are ready, one that boots, a pod with a place kept.
func plainState() impl.State {
	return impl.State{
		Pods:    []impl.Pod{{Id: 1, Node: 1, Wait: 1}, {Id: 2, Work: 1, Node: 1}, {Id: 4, Work: 1, Nom: 1}},
		Nodes:   []impl.Node{{Id: 1}, {Id: 2, Boot: 2}},
		Works:   []impl.WorkState{{Want: 1}, {Want: 2, Load: 15}},
		Groups:  []impl.GroupState{{Asked: 1}},
		NextPod: 5, NextNode: 3,
	}
}

// wideState is of wideCfg: all that a pod, a node, a work and a group can be.
func wideState() impl.State {
	return impl.State{
		Pods: []impl.Pod{
			{Id: 1, Work: 0, Node: 2},
			{Id: 2, Work: 1, Node: 5, Wait: 3},
			{Id: 4, Work: 2, Node: 2, Wait: 1},
			{Id: 6, Work: 0, Nom: 5},
			{Id: 7, Work: 1},
			{Id: 9, Work: 2, Node: 5},
			{Id: 10, Work: 1, Node: 2},
			{Id: 13, Work: 2, Nom: 2},
		},
		Nodes: []impl.Node{
			{Id: 2, Group: 0},
			{Id: 3, Group: 1, Boot: 7},
			{Id: 5, Group: 2, Idle: 2},
			{Id: 6, Group: 2, Boot: 1, Idle: 1},
			{Id: 9, Group: 2, Idle: 5},
		},
		Works:   []impl.WorkState{{Want: 3, Load: 250, Low: 2}, {Want: 1, Low: 4}, {Want: 5, Load: impl.CfgMaxLoad}},
		Groups:  []impl.GroupState{{Asked: 1, Rest: 48, Fails: 3}, {}, {Asked: 2, Rest: 5, Fails: 1}},
		NextPod: 20, NextNode: 10,
	}
}

// tightState is of tightCfg: as many pods and nodes as there may be, each pod on a node of its own, with the last numbers.
func tightState() impl.State {
	s := impl.StateOpen(tightCfg())
	s.NextPod, s.NextNode = impl.StateMaxId, impl.StateMaxId
	for i := range 24 {
		id := impl.StateMaxId - 24 + i
		s.Pods = append(s.Pods, impl.Pod{Id: id, Work: i % 3, Node: id, Wait: i % 9})
		s.Nodes = append(s.Nodes, impl.Node{Id: id, Group: i / 8, Idle: i % 9})
	}
	for i := range 3 {
		s.Works[i] = impl.WorkState{Want: 8, Load: impl.CfgMaxLoad, Low: 8}
		s.Groups[i] = impl.GroupState{Rest: 64, Fails: 3}
	}
	return s
}

type stateCase struct {
	why string
	c   impl.Cfg
	s   impl.State
}

func okStates() []stateCase {
	return []stateCase{
		{"plain", plainCfg(), plainState()},
		{"wide", wideCfg(), wideState()},
		{"tight", tightCfg(), tightState()},
		{"plain, open", plainCfg(), impl.StateOpen(plainCfg())},
		{"wide, open", wideCfg(), impl.StateOpen(wideCfg())},
		{"tight, open", tightCfg(), impl.StateOpen(tightCfg())},
		{"least, open", leastCfg(), impl.StateOpen(leastCfg())},
	}
}

// The limit of the document's table; the other tests take it by name.
func TestStateLimits(t *testing.T) {
	if impl.StateMaxId != 1000000 {
		t.Errorf("StateMaxId is %d", impl.StateMaxId)
	}
}

func copyState(s impl.State) impl.State {
	s.Pods, s.Nodes = slices.Clone(s.Pods), slices.Clone(s.Nodes)
	s.Works, s.Groups = slices.Clone(s.Works), slices.Clone(s.Groups)
	return s
}

// sameState is held apart from StateSame, so that what that says can be asked.
func sameState(a impl.State, b impl.State) bool {
	return slices.Equal(a.Pods, b.Pods) && slices.Equal(a.Nodes, b.Nodes) &&
		slices.Equal(a.Works, b.Works) && slices.Equal(a.Groups, b.Groups) &&
		a.NextPod == b.NextPod && a.NextNode == b.NextNode
}

// wantStateNothing asks that what there is is not ok, and that nothing is told of its nodes.
func wantStateNothing(t *testing.T, why string, c impl.Cfg, s impl.State) {
	t.Helper()
	if impl.StateOk(c, s) {
		t.Errorf("%s: StateOk of %v", why, s)
	}
	for _, node := range append(someNodes(s), math.MinInt, -1, 0, 1, 2, 3, 10, impl.StateMaxId, math.MaxInt) {
		if free := impl.StateFree(c, s, node); free != size(0, 0) {
			t.Errorf("%s: StateFree %v of the node %d of %v", why, free, node, s)
		}
	}
}

func someNodes(s impl.State) []int {
	var list []int
	for _, n := range s.Nodes {
		list = append(list, n.Id)
	}
	return list
}

// wantState asks that what there is is ok, with P3, or that nothing is told of it.
func wantState(t *testing.T, why string, c impl.Cfg, s impl.State, ok bool) {
	t.Helper()
	if !ok {
		wantStateNothing(t, why, c, s)
		return
	}
	if !impl.StateOk(c, s) {
		t.Errorf("%s: not StateOk of %v", why, s)
	}
	wantFreeAndTaken(t, why, c, s)
}

// wantFreeAndTaken is P3: what is free of a node and what its pods take are together its size.
func wantFreeAndTaken(t *testing.T, why string, c impl.Cfg, s impl.State) {
	t.Helper()
	for _, n := range s.Nodes {
		sum, ok := impl.StateFree(c, s, n.Id), true
		if !impl.SizeOk(sum) {
			t.Errorf("%s: StateFree %v of the node %d", why, sum, n.Id)
		}
		for _, p := range s.Pods {
			if p.Node == n.Id && ok {
				sum, ok = impl.SizeAdd(sum, c.Works[p.Work].Size)
			}
		}
		if !ok || sum != c.Groups[n.Group].Size {
			t.Errorf("%s: the node %d of the size %v has %v free, and that and its pods are %v (%v)", why, n.Id, c.Groups[n.Group].Size, impl.StateFree(c, s, n.Id), sum, ok)
		}
	}
}

func TestStateOpen(t *testing.T) {
	for _, x := range []struct {
		why  string
		c    impl.Cfg
		want impl.State
	}{
		{"plain", plainCfg(), impl.State{Works: []impl.WorkState{{Want: 1}, {Want: 1}}, Groups: make([]impl.GroupState, 1), NextPod: 1, NextNode: 1}},
		{"wide", wideCfg(), impl.State{Works: []impl.WorkState{{Want: 2}, {Want: 1}, {Want: 3}}, Groups: make([]impl.GroupState, 3), NextPod: 1, NextNode: 1}},
		{"tight", tightCfg(), impl.State{Works: []impl.WorkState{{Want: 1}, {Want: 1}, {Want: 1}}, Groups: make([]impl.GroupState, 3), NextPod: 1, NextNode: 1}},
		{"least", leastCfg(), impl.State{Works: []impl.WorkState{{Want: 1}}, Groups: make([]impl.GroupState, 1), NextPod: 1, NextNode: 1}},
	} {
		s := impl.StateOpen(x.c)
		if !sameState(s, x.want) {
			t.Errorf("%s: StateOpen %v, want %v", x.why, s, x.want)
		}
		wantState(t, x.why, x.c, s, true)
	}
}

// Of what is asked that is not ok there is no beginning, and nothing that there is is ok beside it.
func TestStateOfWrongCfg(t *testing.T) {
	for _, x := range append(okStates(), stateCase{"nothing", impl.Cfg{}, impl.State{}}) {
		for _, spoil := range []func(c *impl.Cfg){
			func(c *impl.Cfg) { *c = impl.Cfg{} },
			func(c *impl.Cfg) { c.Idle = 1 },
			func(c *impl.Cfg) { c.Back = impl.CfgMaxWait + 1 },
			func(c *impl.Cfg) { c.Start = math.MaxInt },
			func(c *impl.Cfg) { c.Works = nil },
			func(c *impl.Cfg) { c.Groups = nil },
			func(c *impl.Cfg) { c.Works = slices.Repeat(wideCfg().Works, 2) },
			func(c *impl.Cfg) { c.Groups = slices.Repeat(wideCfg().Groups, 2) },
			func(c *impl.Cfg) { c.Works = append(c.Works[:0:0], impl.CfgWork{}) },
			func(c *impl.Cfg) { c.Groups = append(c.Groups[:0:0], impl.CfgGroup{Size: size(-1, 4), Boot: 1}) },
		} {
			c := copyCfg(x.c)
			spoil(&c)
			if s := impl.StateOpen(c); !sameState(s, impl.State{}) {
				t.Errorf("%s: StateOpen %v of %v", x.why, s, c)
			}
			wantState(t, x.why, c, x.s, false)
			wantState(t, x.why, c, impl.State{Works: make([]impl.WorkState, len(c.Works)), Groups: make([]impl.GroupState, len(c.Groups)), NextPod: 1, NextNode: 1}, false)
		}
	}
}

func TestStateReckoned(t *testing.T) {
	for _, x := range okStates() {
		wantState(t, x.why, x.c, x.s, true)
	}
	for _, x := range []struct {
		why  string
		c    impl.Cfg
		s    impl.State
		node int
		free impl.Size
	}{
		{"plain", plainCfg(), plainState(), 1, size(1, 2)},
		{"one that boots", plainCfg(), plainState(), 2, size(4, 6)},
		{"none that is there", plainCfg(), plainState(), 3, size(0, 0)},
		{"three pods, a place kept", wideCfg(), wideState(), 2, size(6, 3)},
		{"nothing to have", wideCfg(), wideState(), 3, size(0, 0)},
		{"two pods, a place kept", wideCfg(), wideState(), 5, size(3, 2)},
		{"one that boots", wideCfg(), wideState(), 6, size(4, 7)},
		{"empty", wideCfg(), wideState(), 9, size(4, 7)},
		{"a number between", wideCfg(), wideState(), 4, size(0, 0)},
		{"the next number", wideCfg(), wideState(), 10, size(0, 0)},
		{"the node of those who wait", wideCfg(), wideState(), 0, size(0, 0)},
		{"below 0", wideCfg(), wideState(), -2, size(0, 0)},
		{"the least", wideCfg(), wideState(), math.MinInt, size(0, 0)},
		{"the greatest", wideCfg(), wideState(), math.MaxInt, size(0, 0)},
		{"full", tightCfg(), tightState(), impl.StateMaxId - 1, size(0, 0)},
		{"of the beginning", plainCfg(), impl.StateOpen(plainCfg()), 1, size(0, 0)},
	} {
		if free := impl.StateFree(x.c, x.s, x.node); free != x.free {
			t.Errorf("%s: StateFree %v of the node %d, want %v", x.why, free, x.node, x.free)
		}
	}
}

func TestStatePodsAndNodes(t *testing.T) {
	type pair struct{ pods, ready int }
	for _, x := range []struct {
		why   string
		s     impl.State
		pods  []pair // of the works -1 and on
		nodes []int  // of the groups -1 and on
	}{
		{"plain", plainState(), []pair{{}, {1, 0}, {2, 1}, {}}, []int{0, 3, 0, 0}},
		{"wide", wideState(), []pair{{}, {2, 1}, {3, 1}, {3, 1}, {}}, []int{0, 2, 1, 5, 0}},
		{"tight", tightState(), []pair{{}, {8, 3}, {8, 0}, {8, 0}, {}}, []int{0, 8, 8, 8, 0}},
		{"nothing", impl.State{}, []pair{{}, {}}, []int{0, 0}},
		// What is not ok is counted as it comes.
		{"two alike", impl.State{Pods: []impl.Pod{{Id: 3, Node: 1}, {Id: 3, Node: 1}}, Nodes: []impl.Node{{Id: 3}, {Id: 3}}, Groups: make([]impl.GroupState, 1)}, []pair{{}, {2, 2}}, []int{0, 2}},
		{"a work that is not there", impl.State{Pods: []impl.Pod{{Work: -1}, {Work: 1, Node: 9}}}, []pair{{1, 0}, {}, {1, 1}}, []int{0, 0}},
		{"a group that is not there", impl.State{Nodes: []impl.Node{{Group: -1}, {Group: 1}}, Groups: []impl.GroupState{{Asked: 4}}}, []pair{{}, {}}, []int{1, 4, 1, 0}},
		{"a group just behind the last", impl.State{Nodes: []impl.Node{{Id: 1, Group: 1}}, Groups: []impl.GroupState{{Asked: 2}}, NextPod: 1, NextNode: 2}, []pair{{}, {}}, []int{0, 2, 1, 0}},
		{"groups that are and are not there", impl.State{Nodes: []impl.Node{{Group: 2}, {Group: 0}, {Group: 2, Boot: 3}, {Group: -1}, {Group: 1}}, Groups: []impl.GroupState{{Asked: 3}, {}}}, []pair{{}}, []int{1, 4, 1, 2, 0}},
		{"no groups", impl.State{Nodes: []impl.Node{{Group: 0}}}, []pair{{}}, []int{0, 1, 0}},
		{"Wait below 0", impl.State{Pods: []impl.Pod{{Node: 1, Wait: -1}, {Wait: 0}, {Node: 1}}}, []pair{{}, {3, 1}}, []int{0}},
		{"fewer than none asked for", impl.State{Nodes: []impl.Node{{Group: 0}}, Groups: []impl.GroupState{{Asked: -3}}}, []pair{{}}, []int{0, -2}},
	} {
		for i, want := range x.pods {
			if pods, ready := impl.StatePods(x.s, i-1); pods != want.pods || ready != want.ready {
				t.Errorf("%s: StatePods %d %d of the work %d, want %v", x.why, pods, ready, i-1, want)
			}
		}
		for i, want := range x.nodes {
			if n := impl.StateNodes(x.s, i-1); n != want {
				t.Errorf("%s: StateNodes %d of the group %d, want %d", x.why, n, i-1, want)
			}
		}
		for _, wild := range wildNumbers {
			if pods, ready := impl.StatePods(x.s, wild); wild != -1 && (pods != 0 || ready != 0) {
				t.Errorf("%s: StatePods %d %d of the work %d", x.why, pods, ready, wild)
			}
			if n := impl.StateNodes(x.s, wild); wild != -1 && n != 0 {
				t.Errorf("%s: StateNodes %d of the group %d", x.why, n, wild)
			}
		}
	}
}

// How many nodes name a group is counted of groups of any number; only Asked hangs on there being such a group.
func TestStateNodesOfAnyGroup(t *testing.T) {
	for _, group := range wildNumbers {
		for nodes := range 4 {
			s := wideState()
			for range nodes {
				s.Nodes = append(s.Nodes, impl.Node{Id: s.NextNode, Group: group})
				s.NextNode++
			}
			for g, want := range map[int]int{group: nodes, 0: 2, 1: 1, 2: 5} {
				if n := impl.StateNodes(s, g); n != want {
					t.Errorf("StateNodes %d of the group %d, want %d, where %d nodes are of %d", n, g, want, nodes, group)
				}
			}
			wantState(t, "nodes of a group that is not there", wideCfg(), s, nodes == 0)
		}
	}
}

// stateField is a number of what there is, and from where to where it is ok, all others being as they are.
type stateField struct {
	why         string
	at          *int
	least, most int
}

// stateFields has the numbers of s, which is ok, that may be of some interval; the others are in TestStatePlaces.
func stateFields(c impl.Cfg, s *impl.State) []stateField {
	var list []stateField
	last := 0
	for i := range s.Pods {
		p := &s.Pods[i]
		next := s.NextPod
		if i+1 < len(s.Pods) {
			next = s.Pods[i+1].Id
		}
		list = append(list, stateField{"Id of a pod", &p.Id, last + 1, next - 1}, stateField{"Wait", &p.Wait, 0, mostWait(c, *p)})
		last = p.Id
	}
	list = append(list, stateField{"NextPod", &s.NextPod, last + 1, impl.StateMaxId})
	for i := range s.Works {
		w, asked := &s.Works[i], c.Works[i]
		list = append(list,
			stateField{"Want", &w.Want, asked.Min, asked.Max},
			stateField{"Load", &w.Load, 0, impl.CfgMaxLoad},
			stateField{"Low", &w.Low, 0, c.Calm},
		)
	}
	for i := range s.Groups {
		g := &s.Groups[i]
		list = append(list,
			stateField{"Asked", &g.Asked, 0, c.Groups[i].Max - nodesOf(*s, i)},
			stateField{"Rest", &g.Rest, 0, 8 * c.Back},
			stateField{"Fails", &g.Fails, 0, 3},
		)
	}
	return append(list, nodeFields(c, s)...)
}

func nodeFields(c impl.Cfg, s *impl.State) []stateField {
	var list []stateField
	last := 0
	for i := range s.Nodes {
		n := &s.Nodes[i]
		next := s.NextNode
		if i+1 < len(s.Nodes) {
			next = s.Nodes[i+1].Id
		}
		boot := c.Groups[n.Group].Boot
		if isLeantOn(*s, n.Id) {
			boot = 0
		} else { // of others the number hangs on their pods
			list = append(list, stateField{"Id of a node", &n.Id, last + 1, next - 1})
		}
		list = append(list, stateField{"Boot", &n.Boot, 0, boot}, stateField{"Idle", &n.Idle, 0, c.Idle})
		last = n.Id
	}
	return append(list, stateField{"NextNode", &s.NextNode, last + 1, impl.StateMaxId})
}

func mostWait(c impl.Cfg, p impl.Pod) int {
	if p.Node == 0 {
		return 0
	}
	return c.Start
}

func nodesOf(s impl.State, group int) int {
	sum := 0
	for _, n := range s.Nodes {
		if n.Group == group {
			sum++
		}
	}
	return sum
}

// isLeantOn says whether a pod is on the node, or has a place there.
func isLeantOn(s impl.State, node int) bool {
	return slices.ContainsFunc(s.Pods, func(p impl.Pod) bool { return p.Node == node || p.Nom == node })
}

// Each number by itself: the bounds that are just met, one less and one more, and numbers of any greatness.
func TestStateBounds(t *testing.T) {
	for _, x := range okStates() {
		s := copyState(x.s)
		for _, f := range stateFields(x.c, &s) {
			was := *f.at
			for _, n := range slices.Concat(wildNumbers, []int{f.least - 1, f.least, f.least + 1, f.most - 1, f.most, f.most + 1, -1, 0, 1, 2}) {
				*f.at = n
				wantState(t, x.why+", "+f.why, x.c, s, f.least <= n && n <= f.most)
			}
			*f.at = was
		}
		if !sameState(s, x.s) || !impl.StateOk(x.c, s) {
			t.Fatalf("%s: not put back: %v", x.why, s)
		}
	}
}

// changed is a state of wideCfg behind a change of wideState.
func changed(change func(s *impl.State)) impl.State {
	s := wideState()
	change(&s)
	return s
}

// What is not an interval: kinds, nodes of pods, places that are kept, numbers that are alike.
func TestStatePlaces(t *testing.T) {
	for _, x := range []struct {
		why    string
		change func(s *impl.State)
		ok     bool
	}{
		{"another work", func(s *impl.State) { s.Pods[4].Work = 0 }, true},
		{"the last work", func(s *impl.State) { s.Pods[4].Work = 2 }, true},
		{"a work too far", func(s *impl.State) { s.Pods[4].Work = 3 }, false},
		{"a work below 0", func(s *impl.State) { s.Pods[4].Work = -1 }, false},
		{"a work too far, on a node", func(s *impl.State) { s.Pods[0].Work = 3 }, false},
		{"another group", func(s *impl.State) { s.Nodes[4].Group = 1 }, true},
		{"a group too far", func(s *impl.State) { s.Nodes[4].Group = 3 }, false},
		{"a group below 0", func(s *impl.State) { s.Nodes[4].Group = -1 }, false},
		{"a group too far, of one that boots", func(s *impl.State) { s.Nodes[1].Group = 3 }, false},
		{"a group that boots less", func(s *impl.State) { s.Nodes[1].Group = 2 }, false},

		{"a place that is kept no more", func(s *impl.State) { s.Pods[3].Nom = 0 }, true},
		{"a place on another node that lives", func(s *impl.State) { s.Pods[3].Nom = 9 }, true},
		{"a place on a node that boots", func(s *impl.State) { s.Pods[3].Nom = 6 }, false},
		{"a place on a node that is not there", func(s *impl.State) { s.Pods[3].Nom = 4 }, false},
		{"a place on the next node", func(s *impl.State) { s.Pods[3].Nom = 10 }, false},
		{"a place below 0", func(s *impl.State) { s.Pods[3].Nom = -2 }, false},
		{"a place for one that has no room there", func(s *impl.State) { s.Pods[6] = impl.Pod{Id: 10, Work: 1, Nom: 5} }, true},
		{"a place for all who wait on one node", func(s *impl.State) { s.Pods[3].Nom, s.Pods[4].Nom, s.Pods[7].Nom = 2, 2, 2 }, true},
		{"the node of a place boots", func(s *impl.State) { s.Pods[3].Nom = 9; s.Nodes[4].Boot = 1 }, false},
		{"the node of a place is gone", func(s *impl.State) { s.Pods[3].Nom = 9; s.Nodes = s.Nodes[:4] }, false},

		{"on a node and a place elsewhere", func(s *impl.State) { s.Pods[0].Nom = 9 }, false},
		{"on a node and a place there", func(s *impl.State) { s.Pods[0].Nom = 2 }, false},
		{"on a node and a place that is none", func(s *impl.State) { s.Pods[0].Nom = -1 }, false},
		{"on another node", func(s *impl.State) { s.Pods[0].Node = 9 }, true},
		{"on a node that boots", func(s *impl.State) { s.Pods[0].Node = 6 }, false},
		{"on a node that is not there", func(s *impl.State) { s.Pods[0].Node = 4 }, false},
		{"on the next node", func(s *impl.State) { s.Pods[0].Node = 10 }, false},
		{"on a node below 0", func(s *impl.State) { s.Pods[0].Node = -1 }, false},
		{"off its node", func(s *impl.State) { s.Pods[0].Node = 0 }, true},
		{"off its node while it starts", func(s *impl.State) { s.Pods[1].Node = 0 }, false},
		{"off its node and done starting", func(s *impl.State) { s.Pods[1].Node, s.Pods[1].Wait = 0, 0 }, true},
		{"a place kept and a Wait of 1", func(s *impl.State) { s.Pods[3].Wait = 1 }, false},
		{"no place kept and a Wait of 1", func(s *impl.State) { s.Pods[4].Wait = 1 }, false},
		{"the node of a pod boots", func(s *impl.State) { s.Pods[0].Node = 9; s.Nodes[4].Boot = 1 }, false},
		{"the node of a pod is gone", func(s *impl.State) { s.Pods[0].Node = 9; s.Nodes = s.Nodes[:4] }, false},

		{"two pods alike", func(s *impl.State) { s.Pods[4].Id = 6 }, false},
		{"a pod twice", func(s *impl.State) { s.Pods = slices.Insert(s.Pods, 4, s.Pods[4]) }, false},
		{"the last pod twice", func(s *impl.State) { s.Pods = append(s.Pods, s.Pods[7]) }, false},
		{"two pods turned round", func(s *impl.State) { s.Pods[3], s.Pods[4] = s.Pods[4], s.Pods[3] }, false},
		{"all pods turned round", func(s *impl.State) { slices.Reverse(s.Pods) }, false},
		{"two nodes alike", func(s *impl.State) { s.Nodes[3].Id = 5 }, false},
		{"a node twice", func(s *impl.State) { s.Nodes = slices.Insert(s.Nodes, 1, s.Nodes[1]) }, false},
		{"two nodes turned round", func(s *impl.State) { s.Nodes[3], s.Nodes[4] = s.Nodes[4], s.Nodes[3] }, false},
		{"all nodes turned round", func(s *impl.State) { slices.Reverse(s.Nodes) }, false},
		{"pods with the numbers of nodes", func(s *impl.State) { s.Pods = []impl.Pod{{Id: 2, Work: 2, Node: 2}, {Id: 5, Work: 2, Node: 2}} }, true},

		{"no pods", func(s *impl.State) { s.Pods = nil }, true},
		{"no pods, an empty list", func(s *impl.State) { s.Pods = []impl.Pod{} }, true},
		{"no pods, no nodes", func(s *impl.State) { s.Pods, s.Nodes = nil, nil }, true},
		{"no nodes", func(s *impl.State) { s.Nodes = nil }, false},
		{"no works", func(s *impl.State) { s.Works = nil }, false},
		{"no groups", func(s *impl.State) { s.Groups = nil }, false},
		{"a work too few", func(s *impl.State) { s.Works = s.Works[:2] }, false},
		{"a work too many", func(s *impl.State) { s.Works = append(s.Works, s.Works[1]) }, false},
		{"a group too few", func(s *impl.State) { s.Groups = s.Groups[:2] }, false},
		{"a group too many", func(s *impl.State) { s.Groups = append(s.Groups, s.Groups[1]) }, false},
		{"nothing", func(s *impl.State) { *s = impl.State{} }, false},
	} {
		wantState(t, x.why, wideCfg(), changed(x.change), x.ok)
	}
}

// The kinds and places of each pod and node in turn may not be of any greatness.
func TestStateWildPlaces(t *testing.T) {
	s := wideState()
	var fields []*int
	for i := range s.Pods {
		fields = append(fields, &s.Pods[i].Work, &s.Pods[i].Node, &s.Pods[i].Nom)
	}
	for i := range s.Nodes {
		fields = append(fields, &s.Nodes[i].Group)
		if isLeantOn(s, s.Nodes[i].Id) {
			fields = append(fields, &s.Nodes[i].Id)
		}
	}
	for _, at := range fields {
		was := *at
		for _, n := range wildNumbers {
			*at = n
			wantState(t, "a place", wideCfg(), s, false)
		}
		*at = was
	}
}

// Numbers of any greatness in two fields at once: no sum of them may wrap round to what is right.
func TestStateWildPairs(t *testing.T) {
	s := wideState()
	for _, p := range [][2]*int{
		{&s.NextPod, &s.Pods[7].Id}, {&s.NextNode, &s.Nodes[3].Id}, {&s.Pods[3].Nom, &s.Nodes[4].Id}, {&s.Pods[0].Node, &s.Nodes[4].Id},
		{&s.Groups[0].Asked, &s.Groups[2].Asked}, {&s.Groups[0].Asked, &s.Nodes[4].Group}, {&s.Works[0].Want, &s.Works[0].Load}, {&s.Pods[4].Work, &s.Pods[4].Wait},
	} {
		a, b := *p[0], *p[1]
		for _, x := range wildNumbers {
			for _, y := range wildNumbers {
				*p[0], *p[1] = x, y
				wantState(t, "a pair", wideCfg(), s, false)
			}
		}
		*p[0], *p[1] = a, b
	}
}

// As many pods of each work, and nodes of each group, as Max, and one more; nodes that are asked for count.
func TestStateCounts(t *testing.T) {
	for work := range 3 {
		for pods := range 10 {
			s := impl.StateOpen(wideCfg())
			for i := range pods {
				s.Pods = append(s.Pods, impl.Pod{Id: i + 1, Work: work})
			}
			s.NextPod = pods + 1
			wantState(t, "pods of a work", wideCfg(), s, pods <= wideCfg().Works[work].Max)
		}
	}
	for group := range 3 {
		for nodes := range 10 {
			for asked := -1; asked < 10; asked++ {
				s := impl.StateOpen(wideCfg())
				for i := range nodes {
					s.Nodes = append(s.Nodes, impl.Node{Id: i + 1, Group: group})
				}
				s.NextNode, s.Groups[group].Asked = nodes+1, asked
				wantState(t, "nodes of a group", wideCfg(), s, asked >= 0 && nodes+asked <= wideCfg().Groups[group].Max)
				if n := impl.StateNodes(s, group); n != nodes+asked {
					t.Errorf("StateNodes %d of %d and %d", n, nodes, asked)
				}
			}
		}
	}
	full := impl.State{Works: []impl.WorkState{{Want: 1}}, Groups: []impl.GroupState{{Asked: 1}}, NextPod: 1, NextNode: 1}
	wantState(t, "a group of no nodes", leastCfg(), full, false)
	full = tightState()
	full.Pods[0].Work, full.Pods[1].Work = full.Pods[1].Work, full.Pods[0].Work
	wantState(t, "full, two works turned round", tightCfg(), full, true)
	full.Pods[0].Work = full.Pods[1].Work
	wantState(t, "full, nine pods of one work", tightCfg(), full, false)
}

// Two measures at once: what just fits in both, and too much in one alone, each in turn.
func TestStateRoom(t *testing.T) {
	for _, x := range []struct {
		why  string
		room impl.Size
		ok   bool
	}{ // two pods of 2 and 1, one of 1 and 3
		{"just so", size(5, 5), true},
		{"more than that", size(6, 7), true},
		{"a Cpu short", size(4, 5), false},
		{"a Mem short", size(5, 4), false},
		{"a Cpu short, much Mem", size(4, most), false},
		{"a Mem short, much Cpu", size(most, 4), false},
		{"both short", size(4, 4), false},
		{"no Cpu", size(0, most), false},
		{"no Mem", size(most, 0), false},
		{"none", size(0, 0), false},
		{"the greatest", size(most, most), true},
	} {
		c := plainCfg()
		c.Groups = append(c.Groups, impl.CfgGroup{Size: x.room, Max: 2, Boot: 1})
		s := impl.StateOpen(c)
		s.Nodes = []impl.Node{{Id: 1}, {Id: 2, Group: 1}, {Id: 3}}
		s.Pods = []impl.Pod{{Id: 1, Node: 2}, {Id: 2, Work: 1, Node: 2}, {Id: 3, Node: 2, Wait: 1}, {Id: 4, Work: 1, Nom: 2}, {Id: 5, Node: 3}}
		s.NextPod, s.NextNode = 6, 4
		wantState(t, x.why, c, s, x.ok)
		if want := size(x.room.Cpu-5, x.room.Mem-5); x.ok && impl.StateFree(c, s, 2) != want {
			t.Errorf("%s: StateFree %v, want %v", x.why, impl.StateFree(c, s, 2), want)
		}
	}
}

// P3: pods put on nodes in all ways; it is ok just where none has more than its size, and then that is what it has and what is free.
func TestStateFreeAndTaken(t *testing.T) {
	c := wideCfg()
	c.Groups[0].Size, c.Groups[1].Size, c.Groups[2].Size = size(4, 5), size(3, 3), size(2, 6)
	works := []int{0, 1, 0, 2, 1, 2}
	good, bad := 0, 0
	for way := range 4096 {
		s := impl.StateOpen(c)
		s.Nodes = []impl.Node{{Id: 3, Group: 0}, {Id: 4, Group: 1, Idle: 1}, {Id: 8, Group: 2}}
		s.NextPod, s.NextNode = 40, 9
		var taken [9]impl.Size
		for i, work := range works {
			node := []int{0, 3, 4, 8}[way>>(2*i)&3]
			s.Pods = append(s.Pods, impl.Pod{Id: 5*i + 2, Work: work, Node: node})
			taken[node].Cpu += c.Works[work].Size.Cpu
			taken[node].Mem += c.Works[work].Size.Mem
		}
		ok := true
		for _, n := range s.Nodes {
			room := c.Groups[n.Group].Size
			ok = ok && taken[n.Id].Cpu <= room.Cpu && taken[n.Id].Mem <= room.Mem
		}
		wantState(t, "a way", c, s, ok)
		if ok {
			good++
		} else {
			bad++
		}
	}
	if good < 500 || bad < 500 {
		t.Errorf("%d were ok, %d were not", good, bad)
	}
}

// The places of nodes in their list, and of groups in theirs, are not their numbers.
func TestStateFreeByNumber(t *testing.T) {
	c, s := plainCfg(), impl.StateOpen(plainCfg())
	s.Nodes = []impl.Node{{Id: 2}, {Id: 3}, {Id: 700}}
	s.Pods = []impl.Pod{{Id: 1, Node: 3}, {Id: 2, Work: 1, Node: 700}, {Id: 3, Node: 700}, {Id: 700, Node: 3, Wait: 1}}
	s.NextPod, s.NextNode = 701, 1000
	for node, want := range map[int]impl.Size{0: {}, 1: {}, 2: size(4, 6), 3: size(0, 4), 4: {}, 700: size(1, 2), 701: {}} {
		if free := impl.StateFree(c, s, node); free != want {
			t.Errorf("StateFree %v of the node %d, want %v", free, node, want)
		}
	}
}

// everyField has each number of s.
func everyField(s *impl.State) []*int {
	list := []*int{&s.NextPod, &s.NextNode}
	for i := range s.Pods {
		p := &s.Pods[i]
		list = append(list, &p.Id, &p.Work, &p.Node, &p.Nom, &p.Wait)
	}
	for i := range s.Nodes {
		n := &s.Nodes[i]
		list = append(list, &n.Id, &n.Group, &n.Boot, &n.Idle)
	}
	for i := range s.Works {
		w := &s.Works[i]
		list = append(list, &w.Want, &w.Load, &w.Low)
	}
	for i := range s.Groups {
		g := &s.Groups[i]
		list = append(list, &g.Asked, &g.Rest, &g.Fails)
	}
	return list
}

func wantSame(t *testing.T, why string, a impl.State, b impl.State, same bool) {
	t.Helper()
	if impl.StateSame(a, b) != same || impl.StateSame(b, a) != same {
		t.Errorf("%s: StateSame is not %v of %v and %v", why, same, a, b)
	}
}

func TestStateSame(t *testing.T) {
	cases := append(okStates(), stateCase{"nothing", impl.Cfg{}, impl.State{}}, stateCase{"not ok", impl.Cfg{}, impl.State{Pods: make([]impl.Pod, 2), NextPod: -1}})
	for i, x := range cases {
		for j, y := range cases {
			wantSame(t, x.why+" and "+y.why, x.s, copyState(y.s), i == j)
		}
		s := copyState(x.s)
		for _, at := range everyField(&s) {
			was := *at
			for _, n := range []int{was + 1, was - 1, math.MinInt, math.MaxInt} {
				*at = n
				wantSame(t, x.why+", one field", x.s, s, false)
			}
			*at = was
		}
		wantSame(t, x.why+", put back", x.s, s, true)
	}
	for _, more := range []func(s *impl.State){
		func(s *impl.State) { s.Pods = append(s.Pods, impl.Pod{}) },
		func(s *impl.State) { s.Nodes = append(s.Nodes, impl.Node{}) },
		func(s *impl.State) { s.Works = append(s.Works, impl.WorkState{}) },
		func(s *impl.State) { s.Groups = append(s.Groups, impl.GroupState{}) },
		func(s *impl.State) { s.Pods[0], s.Pods[1] = s.Pods[1], s.Pods[0] },
		func(s *impl.State) { s.Nodes[0], s.Nodes[1] = s.Nodes[1], s.Nodes[0] },
		func(s *impl.State) { s.Works[0], s.Works[1] = s.Works[1], s.Works[0] },
		func(s *impl.State) { s.Groups[0], s.Groups[1] = s.Groups[1], s.Groups[0] },
	} {
		wantSame(t, "one list", wideState(), changed(more), false)
	}
	wantSame(t, "empty lists and none", impl.State{}, impl.State{Pods: []impl.Pod{}, Nodes: []impl.Node{}, Works: []impl.WorkState{}, Groups: []impl.GroupState{}}, true)
}

// Every function answers at every argument: a number of any greatness in each field, of each list and of none.
func TestStateAnswersAlways(t *testing.T) {
	for _, x := range okStates() {
		s := copyState(x.s)
		for _, at := range everyField(&s) {
			was := *at
			for _, n := range wildNumbers {
				*at = n
				answerAll(x.c, s, n)
				answerAll(impl.Cfg{}, s, n)
			}
			*at = was
		}
	}
	many := impl.State{NextPod: impl.StateMaxId, NextNode: impl.StateMaxId}
	for i := range 2000 {
		many.Pods, many.Nodes = append(many.Pods, impl.Pod{Id: i + 1, Work: i}), append(many.Nodes, impl.Node{Id: i + 1, Group: i})
	}
	many.Works, many.Groups = make([]impl.WorkState, 2000), make([]impl.GroupState, 2000)
	wantState(t, "many", wideCfg(), many, false)
	answerAll(wideCfg(), many, 7)
}

func answerAll(c impl.Cfg, s impl.State, n int) {
	impl.StateOk(c, s)
	for _, place := range []int{n, 1} {
		impl.StateFree(c, s, place)
		impl.StatePods(s, place)
		impl.StateNodes(s, place)
	}
}

// spare is s in lists with room behind their ends, and a copy of all that is in them.
func spare(s impl.State) (impl.State, impl.State) {
	more := wideState()
	whole := impl.State{
		Pods: slices.Concat(s.Pods, more.Pods), Nodes: slices.Concat(s.Nodes, more.Nodes),
		Works: slices.Concat(s.Works, more.Works), Groups: slices.Concat(s.Groups, more.Groups),
		NextPod: s.NextPod, NextNode: s.NextNode,
	}
	cut := whole
	cut.Pods, cut.Nodes = whole.Pods[:len(s.Pods)], whole.Nodes[:len(s.Nodes)]
	cut.Works, cut.Groups = whole.Works[:len(s.Works)], whole.Groups[:len(s.Groups)]
	return cut, whole
}

// Nothing is written into what there is, nor behind the ends of its lists; the same is answered once more.
func TestStateKeepsArguments(t *testing.T) {
	cases := append(okStates(), stateCase{"nothing", wideCfg(), impl.State{}})
	turned := changed(func(s *impl.State) { slices.Reverse(s.Pods); slices.Reverse(s.Nodes) })
	for _, x := range append(cases, stateCase{"turned round", wideCfg(), turned}) {
		cut, whole := spare(x.s)
		was := copyState(whole)
		c := copyCfg(x.c)
		for range 2 {
			if impl.StateOk(c, cut) != impl.StateOk(x.c, x.s) || !impl.StateSame(cut, x.s) {
				t.Errorf("%s: another answer", x.why)
			}
			for n := range 4 {
				pods, ready := impl.StatePods(cut, n)
				morePods, moreReady := impl.StatePods(x.s, n)
				if pods != morePods || ready != moreReady || impl.StateNodes(cut, n) != impl.StateNodes(x.s, n) || impl.StateFree(c, cut, n) != impl.StateFree(x.c, x.s, n) {
					t.Errorf("%s: another answer for %d", x.why, n)
				}
			}
		}
		if !sameState(whole, was) || !sameState(cut, x.s) || !sameCfg(c, x.c) {
			t.Errorf("%s: %v was written into", x.why, x.s)
		}
	}
}

// What StateOpen answers is new memory each time: writing into it changes neither what was asked nor another answer.
func TestStateOpenIsNew(t *testing.T) {
	c := wideCfg()
	a, b := impl.StateOpen(c), impl.StateOpen(c)
	for i := range a.Works {
		a.Works[i] = impl.WorkState{Want: 99, Load: 99, Low: 99}
		a.Groups[i] = impl.GroupState{Asked: 99, Rest: 99, Fails: 99}
	}
	a.Pods = append(a.Pods, impl.Pod{Id: 99})
	a.Nodes = append(a.Nodes, impl.Node{Id: 99})
	_, _ = append(a.Works, impl.WorkState{Want: 98}), append(a.Groups, impl.GroupState{Asked: 98})
	if !sameCfg(c, wideCfg()) || !sameState(b, impl.StateOpen(wideCfg())) || b.Works[0].Want != 2 {
		t.Errorf("%v of %v", b, c)
	}
}
