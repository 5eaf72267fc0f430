package tests

import (
	"math"
	"slices"
	"testing"

	"loop.example/hive/impl"
)

func waitsFor(work int, node int) impl.Pod { return impl.Pod{Work: work, Nom: node} }
func isOn(work int, node int) impl.Pod     { return impl.Pod{Work: work, Node: node} }

// rankedCfg has works of the sizes and ranks, and groups of the sizes, with as many pods and nodes as there may be.
func rankedCfg(works []impl.CfgWork, groups ...impl.Size) impl.Cfg {
	c := impl.Cfg{Start: 3, Calm: 1, Idle: 2, Back: 1}
	for _, w := range works {
		w.Min, w.Max, w.Target, w.Limit = 1, impl.CfgMaxPods, 10, 20
		c.Works = append(c.Works, w)
	}
	for _, room := range groups {
		c.Groups = append(c.Groups, impl.CfgGroup{Size: room, Max: impl.CfgMaxNodes, Boot: 2})
	}
	return c
}

// ranked is a work of a size and a rank.
func ranked(cpu int, mem int, rank int) impl.CfgWork {
	return impl.CfgWork{Size: size(cpu, mem), Rank: rank}
}

// hosting has a node of each of the groups, with the numbers 1 and on, and the pods, likewise; a group below 0 is that
// one less 1 below 0, with a node that boots.
func hosting(c impl.Cfg, groups []int, pods ...impl.Pod) impl.State {
	s := impl.StateOpen(c)
	for i, g := range groups {
		n := impl.Node{Id: i + 1, Group: g}
		if g < 0 {
			n.Group, n.Boot = -1-g, 1
		}
		s.Nodes = append(s.Nodes, n)
	}
	for i, p := range pods {
		p.Id = i + 1
		s.Pods = append(s.Pods, p)
	}
	s.NextPod, s.NextNode = len(pods)+1, len(groups)+1
	return s
}

func wantOrder(t *testing.T, why string, c impl.Cfg, s impl.State, want ...int) {
	t.Helper()
	if got := impl.BindOrder(c, s); !slices.Equal(got, want) {
		t.Errorf("%s: BindOrder is %v, want %v: %v of %v", why, got, want, s, c)
	}
}

func wantLeft(t *testing.T, why string, c impl.Cfg, s impl.State, pod int, node int, want impl.Size, there bool) {
	t.Helper()
	if got, ok := impl.BindLeft(c, s, pod, node); got != want || ok != there {
		t.Errorf("%s: BindLeft of the pod %d and the node %d is %v and %v, want %v and %v: %v of %v", why, pod, node, got, ok, want, there, s, c)
	}
}

func wantPick(t *testing.T, why string, c impl.Cfg, s impl.State, pod int, want int) {
	t.Helper()
	if got := impl.BindPick(c, s, pod); got != want {
		t.Errorf("%s: BindPick of the pod %d is %d, want %d: %v of %v", why, pod, got, want, s, c)
	}
}

func wantBindPlan(t *testing.T, why string, c impl.Cfg, s impl.State, want ...impl.Write) {
	t.Helper()
	if got := impl.BindPlan(c, s); !slices.Equal(got, want) {
		t.Errorf("%s: BindPlan is %v, want %v: %v of %v", why, got, want, s, c)
	}
}

// modelOrder is the chapter's BindOrder once more, for what is ok, rank by rank.
func modelOrder(c impl.Cfg, s impl.State) []int {
	var list []int
	for rank := 9; rank >= 0; rank-- {
		for _, p := range s.Pods {
			if p.Node == 0 && c.Works[p.Work].Rank == rank {
				list = append(list, p.Id)
			}
		}
	}
	return list
}

// modelFree is what is free of a node that there is, and may be below 0.
func modelFree(c impl.Cfg, s impl.State, n impl.Node) impl.Size {
	free := c.Groups[n.Group].Size
	for _, p := range s.Pods {
		if p.Node == n.Id {
			free.Cpu -= c.Works[p.Work].Size.Cpu
			free.Mem -= c.Works[p.Work].Size.Mem
		}
	}
	return free
}

// modelLeft is the chapter's BindLeft once more, for what is ok.
func modelLeft(c impl.Cfg, s impl.State, pod int, node int) (impl.Size, bool) {
	at := slices.IndexFunc(s.Pods, func(p impl.Pod) bool { return p.Id == pod })
	on := slices.IndexFunc(s.Nodes, func(n impl.Node) bool { return n.Id == node && n.Boot == 0 })
	if at < 0 || on < 0 {
		return impl.Size{}, false
	}
	left := modelFree(c, s, s.Nodes[on])
	for i, p := range s.Pods {
		w := c.Works[p.Work]
		if i != at && p.Node == 0 && p.Nom == node && w.Rank >= c.Works[s.Pods[at].Work].Rank {
			left = size(max(0, left.Cpu-w.Size.Cpu), max(0, left.Mem-w.Size.Mem))
		}
	}
	return left, true
}

// modelRoom is the nodes on which a pod has room, the fullest first, of equal ones the lesser Id.
func modelRoom(c impl.Cfg, s impl.State, p impl.Pod) []int {
	one, frees := c.Works[p.Work].Size, map[int]int{}
	var list []int
	for _, n := range s.Nodes {
		left, ok := modelLeft(c, s, p.Id, n.Id)
		if ok && one.Cpu <= left.Cpu && one.Mem <= left.Mem {
			free := modelFree(c, s, n)
			frees[n.Id] = free.Cpu + free.Mem
			list = append(list, n.Id)
		}
	}
	slices.SortStableFunc(list, func(a int, b int) int { return frees[a] - frees[b] })
	return list
}

// modelPick is the chapter's BindPick once more, for what is ok.
func modelPick(c impl.Cfg, s impl.State, pod int) int {
	at := slices.IndexFunc(s.Pods, func(p impl.Pod) bool { return p.Id == pod && p.Node == 0 })
	if at < 0 {
		return 0
	}
	room := modelRoom(c, s, s.Pods[at])
	switch {
	case slices.Contains(room, s.Pods[at].Nom):
		return s.Pods[at].Nom
	case len(room) > 0:
		return room[0]
	default:
		return 0
	}
}

// modelBind is the chapter's BindPlan once more, for what is ok, and how often all were gone through.
func modelBind(c impl.Cfg, s impl.State) ([]impl.Write, int) {
	var list []impl.Write
	for times := 1; ; times++ {
		ahead := len(list)
		for _, pod := range modelOrder(c, s) {
			if node := modelPick(c, s, pod); node != 0 {
				list = append(list, bind(pod, node))
				s, _ = modelDo(c, s, bind(pod, node))
			}
		}
		if len(list) == ahead {
			return list, times
		}
	}
}

// askedPods and askedNodes are those that there are, and some that there are not.
func askedPods(s impl.State) []int {
	list := []int{-1, 0, 3, s.NextPod}
	for _, p := range s.Pods {
		list = append(list, p.Id, -p.Id)
	}
	return list
}

func askedNodes(s impl.State) []int { return append(someNodes(s), -1, 0, 3, s.NextNode) }

// wantPicked asks of what is ok what the models say of its pods and nodes.
func wantPicked(t *testing.T, why string, c impl.Cfg, s impl.State) {
	t.Helper()
	if !impl.StateOk(c, s) {
		t.Fatalf("%s: not ok: %v of %v", why, s, c)
	}
	wantOrder(t, why, c, s, modelOrder(c, s)...)
	for _, pod := range askedPods(s) {
		for _, node := range askedNodes(s) {
			left, there := modelLeft(c, s, pod, node)
			wantLeft(t, why, c, s, pod, node, left, there)
		}
		wantPick(t, why, c, s, pod, modelPick(c, s, pod))
	}
}

// wantBound asks of what is ok what the models say, and P7 and P4, change by change.
func wantBound(t *testing.T, why string, c impl.Cfg, s impl.State) {
	t.Helper()
	wantPicked(t, why, c, s)
	list, _ := modelBind(c, s)
	wantBindPlan(t, why, c, s, list...)
	behind := s
	for _, w := range list {
		wantPick(t, why+", behind a part of the plan", c, behind, w.A, w.B)
		done := false
		if behind, done = impl.WriteDo(c, behind, w); !done || !impl.StateOk(c, behind) {
			t.Fatalf("%s: %v is not done, or not ok behind it: %v", why, w, behind)
		}
		wantNoneOverfull(t, why, c, behind)
	}
	if all, n := impl.WriteAll(c, s, list); n != len(list) || !sameState(all, behind) {
		t.Errorf("%s: %d of %v are done, behind them is %v, want %v", why, n, list, all, behind)
	}
	wantNoRoom(t, why, c, behind)
	wantBindPlan(t, why+", behind the plan", c, behind)
	wantOnlyPut(t, why, c, s, behind, list)
}

// wantNoneOverfull is the first part of P7: no node is given more than it has.
func wantNoneOverfull(t *testing.T, why string, c impl.Cfg, s impl.State) {
	t.Helper()
	for _, n := range s.Nodes {
		if free := modelFree(c, s, n); free.Cpu < 0 || free.Mem < 0 {
			t.Errorf("%s: the node %d is given more than it has: %v of %v", why, n.Id, s, c)
		}
	}
}

// wantNoRoom is the second part of P7: a pod that waits behind the plan has room on no node.
func wantNoRoom(t *testing.T, why string, c impl.Cfg, behind impl.State) {
	t.Helper()
	for _, p := range behind.Pods {
		if p.Node != 0 {
			continue
		}
		wantPick(t, why+", behind the plan", c, behind, p.Id, 0)
		for _, n := range behind.Nodes {
			if left, ok := impl.BindLeft(c, behind, p.Id, n.Id); ok && impl.SizeFits(c.Works[p.Work].Size, left) {
				t.Errorf("%s: the pod %d waits behind the plan and has room on the node %d: %v of %v", why, p.Id, n.Id, behind, c)
			}
		}
	}
}

// wantOnlyPut asks that each pod of the plan waited, and starts where it says, and that all else is as it was.
func wantOnlyPut(t *testing.T, why string, c impl.Cfg, s impl.State, behind impl.State, list []impl.Write) {
	t.Helper()
	s = copyState(s)
	for i, p := range s.Pods {
		if at := slices.IndexFunc(list, func(w impl.Write) bool { return w.A == p.Id }); at >= 0 && p.Node == 0 {
			onNode(i, list[at].B, c.Start)(&s)
		}
	}
	if !sameState(s, behind) {
		t.Errorf("%s: behind the plan %v is %v, want %v", why, list, behind, s)
	}
}

func TestBindOrder(t *testing.T) {
	apart := rankedCfg([]impl.CfgWork{ranked(1, 0, 4), ranked(1, 0, 9), ranked(1, 0, 0)}, size(most, most))
	alike := rankedCfg([]impl.CfgWork{ranked(1, 0, 3), ranked(0, 1, 8), ranked(2, 2, 3)}, size(most, most))
	for _, x := range []struct {
		why  string
		c    impl.Cfg
		pods []impl.Pod // beside the nodes 1 and 2
		want []int
	}{
		{"none", apart, nil, nil},
		{"one", apart, []impl.Pod{waits(2)}, []int{1}},
		{"one with a place", apart, []impl.Pod{waitsFor(2, 1)}, []int{1}},
		{"one on a node", apart, []impl.Pod{isOn(0, 1)}, nil},
		{"the lower rank first", apart, []impl.Pod{waits(2), waits(0), waits(1)}, []int{3, 2, 1}},
		{"the higher rank first", apart, []impl.Pod{waits(1), waits(0), waits(2)}, []int{1, 2, 3}},
		{"the middle rank first", apart, []impl.Pod{waits(0), waits(2), waits(1)}, []int{3, 1, 2}},
		{"of one rank", apart, []impl.Pod{waits(0), waits(0), waits(0), waits(0)}, []int{1, 2, 3, 4}},
		{"two of each", apart, []impl.Pod{waits(2), waits(1), waits(0), waits(2), waits(0), waits(1)}, []int{2, 6, 3, 5, 1, 4}},
		{"two works of one rank", alike, []impl.Pod{waits(2), waits(0), waits(1), waits(0), waits(2), waits(1)}, []int{3, 6, 1, 2, 4, 5}},
		{"a place tells nothing", apart, []impl.Pod{waits(0), waitsFor(0, 1), waits(1), waitsFor(1, 2)}, []int{3, 4, 1, 2}},
		{"those on nodes are not in it", apart, []impl.Pod{isOn(1, 1), waits(0), {Work: 1, Node: 2, Wait: 3}, waits(2), waits(1), isOn(2, 2)}, []int{5, 2, 4}},
	} {
		s := hosting(x.c, []int{0, 0}, x.pods...)
		wantOrder(t, x.why, x.c, s, x.want...)
		wantBound(t, x.why, x.c, s)
	}
	wantOrder(t, "wide", wideCfg(), wideState(), 6, 13, 7)
	wantOrder(t, "plain", plainCfg(), plainState(), 4)
	wantOrder(t, "tight", tightCfg(), tightState())
}

// Pods of three ranks that wait, have a place and are on a node, in every order of their numbers.
func TestBindOrderInEveryOrder(t *testing.T) {
	works := []impl.CfgWork{ranked(1, 0, 4), ranked(0, 1, 9), ranked(1, 1, 0)}
	for _, rank := range []int{0, 4, 5, 9} {
		works[2].Rank = rank
		c := rankedCfg(works, size(4, 4))
		for way := range 9 * 9 * 9 * 9 {
			var pods []impl.Pod
			for left := way; len(pods) < 4; left /= 9 {
				pods = append(pods, []impl.Pod{waits(left % 3), waitsFor(left%3, 1), isOn(left%3, 1)}[left/3%3])
			}
			s := hosting(c, []int{0}, pods...)
			wantOrder(t, "in every order", c, s, modelOrder(c, s)...)
		}
	}
}

// As many pods as there may be, of every number of ranks, with numbers that turn their ranks round and mix them.
func TestBindOrderOfMost(t *testing.T) {
	for _, ranks := range [][3]int{{0, 0, 0}, {9, 9, 9}, {0, 1, 2}, {9, 8, 7}, {5, 0, 9}, {3, 7, 3}, {7, 7, 2}} {
		c := tightCfg()
		for i, rank := range ranks {
			c.Works[i].Rank = rank
		}
		for _, turn := range []int{1, 3, 5, 7, 8, 11} {
			s := tightState()
			for i := range s.Pods {
				onNode(i, 0, 0)(&s)
				s.Pods[i].Work = i * turn % 24 / 8
				if turn%3 == 0 {
					s.Pods[i].Work = (i/turn + i) % 3
				}
			}
			wantPicked(t, "most", c, s)
		}
	}
}

func TestBindLeft(t *testing.T) {
	c := rankedCfg([]impl.CfgWork{ranked(3, 1, 7), ranked(1, 3, 4), ranked(2, 2, 1)}, size(10, 10), size(4, 4), size(0, 0))
	for _, x := range []struct {
		why   string
		pods  []impl.Pod // beside the nodes 1 of 10 and 10, 2 of 4 and 4, 3 that boots, 4 of nothing
		pod   int
		node  int
		want  impl.Size
		there bool
	}{
		{"an empty node", []impl.Pod{waits(1)}, 1, 1, size(10, 10), true},
		{"another empty node", []impl.Pod{waits(1)}, 1, 2, size(4, 4), true},
		{"a node that has nothing", []impl.Pod{waits(1)}, 1, 4, size(0, 0), true},
		{"pods on it", []impl.Pod{waits(1), isOn(0, 1), isOn(1, 1), isOn(2, 1)}, 1, 1, size(4, 4), true},
		{"pods on another", []impl.Pod{waits(1), isOn(0, 2)}, 1, 1, size(10, 10), true},
		{"pods wait", []impl.Pod{waits(1), waits(0), waits(1)}, 1, 1, size(10, 10), true},
		{"one that starts", []impl.Pod{waits(1), {Node: 1, Wait: 3}}, 1, 1, size(7, 9), true},

		{"kept for higher rank", []impl.Pod{waits(1), waitsFor(0, 1)}, 1, 1, size(7, 9), true},
		{"kept for equal rank", []impl.Pod{waits(1), waitsFor(1, 1)}, 1, 1, size(9, 7), true},
		{"kept for lower rank", []impl.Pod{waits(1), waitsFor(2, 1)}, 1, 1, size(10, 10), true},
		{"kept for each rank, the highest asks", []impl.Pod{waits(0), waitsFor(0, 1), waitsFor(1, 1), waitsFor(2, 1)}, 1, 1, size(7, 9), true},
		{"kept for each rank, the middle one asks", []impl.Pod{waits(1), waitsFor(0, 1), waitsFor(1, 1), waitsFor(2, 1)}, 1, 1, size(6, 6), true},
		{"kept for each rank, the lowest asks", []impl.Pod{waits(2), waitsFor(0, 1), waitsFor(1, 1), waitsFor(2, 1)}, 1, 1, size(4, 4), true},
		{"kept for one of a lesser number", []impl.Pod{waitsFor(1, 1), waits(1)}, 2, 1, size(9, 7), true},
		{"kept for several", []impl.Pod{waits(2), waitsFor(1, 1), waitsFor(1, 1), waitsFor(1, 1)}, 1, 1, size(7, 1), true},
		{"kept elsewhere", []impl.Pod{waits(1), waitsFor(0, 2)}, 1, 1, size(10, 10), true},
		{"kept here and elsewhere", []impl.Pod{waits(2), waitsFor(0, 2), waitsFor(1, 1), waitsFor(1, 2)}, 1, 2, size(0, 0), true},
		{"kept for the pod itself", []impl.Pod{waitsFor(1, 1)}, 1, 1, size(10, 10), true},
		{"kept for the pod itself and others", []impl.Pod{waitsFor(1, 1), waitsFor(1, 1), waitsFor(0, 1), waitsFor(2, 1)}, 1, 1, size(6, 6), true},
		{"kept for the pod itself elsewhere", []impl.Pod{waitsFor(1, 2)}, 1, 1, size(10, 10), true},
		{"kept, with pods on it", []impl.Pod{waits(1), isOn(2, 1), waitsFor(1, 1), isOn(0, 1)}, 1, 1, size(4, 4), true},

		{"kept where there is no room any more", []impl.Pod{waits(1), isOn(2, 2), isOn(2, 2), waitsFor(0, 2)}, 1, 2, size(0, 0), true},
		{"no room any more, kept for the pod itself", []impl.Pod{waitsFor(1, 2), isOn(2, 2), isOn(2, 2)}, 1, 2, size(0, 0), true},
		{"kept on a node that has nothing", []impl.Pod{waits(1), waitsFor(0, 4), waitsFor(1, 4)}, 1, 4, size(0, 0), true},
		{"more Cpu kept than is free", []impl.Pod{waits(1), isOn(0, 2), waitsFor(0, 2)}, 1, 2, size(0, 2), true},
		{"more Cpu kept than is free, twice", []impl.Pod{waits(1), isOn(0, 2), waitsFor(0, 2), waitsFor(0, 2)}, 1, 2, size(0, 1), true},
		{"more Mem kept than is free", []impl.Pod{waits(1), isOn(1, 2), waitsFor(1, 2)}, 1, 2, size(2, 0), true},
		{"more of both kept than is free", []impl.Pod{waits(1), waitsFor(0, 2), waitsFor(0, 2), waitsFor(1, 2), waitsFor(1, 2)}, 1, 2, size(0, 0), true},
		{"as much kept as is free", []impl.Pod{waits(1), waitsFor(0, 2), waitsFor(1, 2)}, 1, 2, size(0, 0), true},
		{"more kept together than is free, one by one not", []impl.Pod{waits(2), waitsFor(0, 2), waitsFor(0, 2)}, 1, 2, size(0, 2), true},

		{"a pod on that node", []impl.Pod{isOn(1, 1)}, 1, 1, size(9, 7), true},
		{"a pod on that node, places kept", []impl.Pod{isOn(1, 1), waitsFor(0, 1), waitsFor(1, 1), waitsFor(2, 1)}, 1, 1, size(5, 3), true},
		{"a pod on another node", []impl.Pod{isOn(1, 2), waitsFor(1, 1), waitsFor(2, 1)}, 1, 1, size(9, 7), true},
		{"a pod that starts", []impl.Pod{{Work: 2, Node: 2, Wait: 3}, waitsFor(1, 1)}, 1, 1, size(9, 7), true},

		{"a node that boots", []impl.Pod{waits(1)}, 1, 3, impl.Size{}, false},
		{"the next node", []impl.Pod{waits(1)}, 1, 5, impl.Size{}, false},
		{"no node", []impl.Pod{waits(1)}, 1, 0, impl.Size{}, false},
		{"a node below 0", []impl.Pod{waits(1)}, 1, -1, impl.Size{}, false},
		{"the next pod", []impl.Pod{waits(1)}, 2, 1, impl.Size{}, false},
		{"no pod", []impl.Pod{waits(1)}, 0, 1, impl.Size{}, false},
		{"a pod below 0", []impl.Pod{waits(1)}, -1, 1, impl.Size{}, false},
		{"no pods at all", nil, 1, 1, impl.Size{}, false},
	} {
		s := hosting(c, []int{0, 1, -1, 2}, x.pods...)
		wantLeft(t, x.why, c, s, x.pod, x.node, x.want, x.there)
		wantBound(t, x.why, c, s)
	}
	for _, x := range []struct{ pod, node, cpu, mem int }{
		{6, 2, 6, 3}, {6, 5, 3, 2}, {6, 9, 4, 7}, {7, 2, 6, 1}, {7, 5, 1, 1}, {7, 9, 4, 7}, {13, 2, 6, 3}, {13, 5, 1, 1}, {13, 9, 4, 7},
		{1, 2, 6, 3}, {1, 5, 1, 1}, {2, 2, 6, 1}, {2, 5, 1, 1}, {4, 2, 6, 1}, {4, 5, 1, 1}, {10, 2, 6, 1},
	} {
		wantLeft(t, "wide", wideCfg(), wideState(), x.pod, x.node, size(x.cpu, x.mem), true)
	}
}

// pickCfg has works of three ranks, and groups of which the last three have as much of both measures together.
func pickCfg() impl.Cfg {
	return rankedCfg([]impl.CfgWork{ranked(3, 1, 7), ranked(1, 3, 4), ranked(2, 2, 1)}, size(4, 4), size(6, 2), size(3, 5))
}

func TestBindPick(t *testing.T) {
	for _, x := range []struct {
		why    string
		groups []int // of the nodes 1 and on: 0 of 4 and 4, 1 of 6 and 2, 2 of 3 and 5; -1 is one of 0 that boots
		pods   []impl.Pod
		pod    int
		want   int
	}{
		{"no node", nil, []impl.Pod{waits(1)}, 1, 0},
		{"one node", []int{0}, []impl.Pod{waits(1)}, 1, 1},
		{"one that boots", []int{-1}, []impl.Pod{waits(1)}, 1, 0},
		{"one that boots, and one", []int{-1, 0}, []impl.Pod{waits(1)}, 1, 2},
		{"one of too little Mem", []int{1}, []impl.Pod{waits(1)}, 1, 0},
		{"one of too little Cpu left", []int{2}, []impl.Pod{waits(0), isOn(1, 1)}, 1, 0},
		{"two alike", []int{0, 0}, []impl.Pod{waits(1)}, 1, 1},
		{"three alike, the first of them full", []int{0, 0, 0}, []impl.Pod{waits(1), isOn(2, 1), isOn(2, 1)}, 1, 2},
		{"the fuller one", []int{0, 0}, []impl.Pod{waits(1), isOn(0, 2)}, 1, 2},
		{"the fuller one has no room", []int{0, 0}, []impl.Pod{waits(1), isOn(2, 2)}, 1, 1},
		{"the fuller one boots", []int{0, -1, 0}, []impl.Pod{waits(1), isOn(0, 3)}, 1, 3},
		{"the fullest of three", []int{0, 1, 0}, []impl.Pod{waits(2), isOn(2, 2), isOn(2, 3)}, 1, 3},
		{"as full together, less Cpu", []int{2, 0}, []impl.Pod{waits(1)}, 1, 1},
		{"as full together, more Cpu", []int{0, 2}, []impl.Pod{waits(1)}, 1, 1},
		{"as full together, less Mem", []int{1, 0}, []impl.Pod{waits(2)}, 1, 1},
		{"as full together, more Mem", []int{0, 1}, []impl.Pod{waits(2)}, 1, 1},
		{"as full together, with pods on both", []int{0, 0, 0}, []impl.Pod{waits(2), isOn(2, 3), isOn(2, 2)}, 1, 2},

		{"it fits just", []int{0}, []impl.Pod{waits(1), isOn(0, 1)}, 1, 1},
		{"it fits just behind a place", []int{0}, []impl.Pod{waits(1), waitsFor(0, 1)}, 1, 1},
		{"it fits just behind pods and a place", []int{2}, []impl.Pod{waitsFor(2, 1), waits(1), isOn(2, 1)}, 2, 1},
		{"a little too much Cpu", []int{0}, []impl.Pod{waits(0), isOn(2, 1)}, 1, 0},
		{"a little too much Mem", []int{0}, []impl.Pod{waits(1), isOn(2, 1)}, 1, 0},

		{"a place that is kept", []int{0, 0}, []impl.Pod{waitsFor(1, 2)}, 1, 2},
		{"a place that is kept on the emptier one", []int{0, 0}, []impl.Pod{waitsFor(1, 2), isOn(0, 1)}, 1, 2},
		{"a place where there is no room any more", []int{0, 0}, []impl.Pod{waitsFor(1, 2), isOn(2, 2)}, 1, 1},
		{"a place where there is no room, and no other", []int{0, 1}, []impl.Pod{waitsFor(1, 2)}, 1, 1},
		{"a place where there is no room, nor elsewhere", []int{1, 1}, []impl.Pod{waitsFor(1, 2)}, 1, 0},
		{"a place that another has too", []int{0, 0}, []impl.Pod{waitsFor(1, 1), waitsFor(1, 1)}, 1, 2},
		{"a place that one of lower rank has too", []int{0, 0}, []impl.Pod{waitsFor(1, 2), waitsFor(2, 2)}, 1, 2},
		{"a place that one of higher rank has too", []int{0, 0}, []impl.Pod{waitsFor(2, 1), waitsFor(1, 1)}, 1, 2},
		{"its own place is no other's", []int{0}, []impl.Pod{waitsFor(1, 1), isOn(0, 1)}, 1, 1},

		{"kept for one of lower rank", []int{0}, []impl.Pod{waits(1), waitsFor(2, 1)}, 1, 1},
		{"kept for one of equal rank", []int{0}, []impl.Pod{waits(1), waitsFor(1, 1)}, 1, 0},
		{"kept for one of equal rank and a lesser number", []int{0}, []impl.Pod{waitsFor(1, 1), waits(1)}, 2, 0},
		{"kept for one of higher rank", []int{0}, []impl.Pod{waits(2), waitsFor(0, 1)}, 1, 0},
		{"kept for one of higher rank that has no room", []int{0}, []impl.Pod{waits(2), waitsFor(1, 1), isOn(2, 1)}, 1, 0},
		{"kept for one of lower rank that has no room", []int{0}, []impl.Pod{waits(0), waitsFor(2, 1), waitsFor(2, 1), waitsFor(2, 1)}, 1, 1},
		{"kept on one, the other is free", []int{0, 0}, []impl.Pod{waits(2), waitsFor(1, 1)}, 1, 2},
		{"what is kept makes none the fuller", []int{0, 0}, []impl.Pod{waits(1), waitsFor(0, 2)}, 1, 1},
		{"neither has room", []int{1, 1}, []impl.Pod{waits(2), isOn(2, 1), waitsFor(0, 2), isOn(0, 2)}, 1, 0},

		{"a pod that is ready", []int{0, 0}, []impl.Pod{isOn(1, 1)}, 1, 0},
		{"a pod that starts", []int{0, 0}, []impl.Pod{{Work: 1, Node: 1, Wait: 2}}, 1, 0},
		{"the next pod", []int{0, 0}, []impl.Pod{waits(1)}, 2, 0},
		{"no pod", []int{0, 0}, []impl.Pod{waits(1)}, 0, 0},
		{"a pod below 0", []int{0, 0}, []impl.Pod{waits(1)}, -1, 0},
	} {
		s := hosting(pickCfg(), x.groups, x.pods...)
		wantPick(t, x.why, pickCfg(), s, x.pod, x.want)
		wantBound(t, x.why, pickCfg(), s)
	}
	for pod, node := range map[int]int{6: 5, 13: 2, 7: 9, 1: 0, 2: 0, 4: 0, 9: 0, 10: 0, 0: 0, 5: 0, 20: 0} {
		wantPick(t, "wide", wideCfg(), wideState(), pod, node)
	}
}

// Of several nodes the one of which the least is free, of both measures together and of what is free, not of what is left.
func TestBindPickLeastFree(t *testing.T) {
	c := rankedCfg([]impl.CfgWork{ranked(2, 2, 4), ranked(3, 3, 9)}, size(9, 3), size(5, 5), size(2, 10))
	for _, x := range []struct {
		why    string
		groups []int // of 9 and 3, of 5 and 5, of 2 and 10
		pods   []impl.Pod
		want   int
	}{
		{"the least Mem is not the least", []int{0, 1}, []impl.Pod{waits(0)}, 2},
		{"the least Cpu is not the least", []int{2, 1}, []impl.Pod{waits(0)}, 2},
		{"two of 12, of different measures", []int{2, 0}, []impl.Pod{waits(0)}, 1},
		{"two of 12, turned round", []int{0, 2}, []impl.Pod{waits(0)}, 1},
		{"pods on one", []int{1, 0}, []impl.Pod{waits(0), isOn(1, 1)}, 1},
		{"two places on one, which leave less there", []int{0, 1, 1}, []impl.Pod{waits(0), isOn(0, 3), waitsFor(1, 2)}, 3},
		{"a place on the emptier one, which leaves less there", []int{0, 1}, []impl.Pod{waits(0), waitsFor(1, 1), isOn(1, 2)}, 2},
		{"a place on the emptier one leaves less, and room", []int{0, 1}, []impl.Pod{waits(0), waitsFor(0, 1)}, 2},
		{"a place leaves less and room, and tells nothing", []int{1, 1}, []impl.Pod{waits(0), waitsFor(1, 2)}, 1},
		{"a place on the fuller one", []int{0, 1}, []impl.Pod{waits(0), waitsFor(1, 2)}, 2},
	} {
		s := hosting(c, x.groups, x.pods...)
		wantPick(t, x.why, c, s, 1, x.want)
		wantBound(t, x.why, c, s)
	}
	wide := rankedCfg([]impl.CfgWork{ranked(1, 1, 4), ranked(2, 2, 4)}, size(10, 10), size(7, 7))
	s := hosting(wide, []int{0, 1}, waits(0), waitsFor(1, 1), waitsFor(1, 1), waitsFor(1, 1))
	wantPick(t, "4 and 4 are left of one, 7 and 7 of the other", wide, s, 1, 2)
	wantBound(t, "4 and 4 are left of one, 7 and 7 of the other", wide, s)
}

// crossCfg has works of one rank of which none fits where the others do, but for the first group.
func crossCfg() impl.Cfg {
	return rankedCfg([]impl.CfgWork{ranked(3, 1, 5), ranked(1, 5, 5), ranked(3, 0, 5)}, size(3, 4), size(1, 5), size(2, 5))
}

func TestBindPlanCases(t *testing.T) {
	lower := crossCfg()
	lower.Works[2].Size, lower.Works[2].Rank = size(2, 2), 0
	twice := crossCfg()
	twice.Groups[1].Size = size(3, 0)
	for _, x := range []struct {
		why    string
		c      impl.Cfg
		groups []int
		pods   []impl.Pod
		want   []impl.Write
	}{
		{"nobody", pickCfg(), []int{0, 0}, nil, nil},
		{"no nodes", pickCfg(), nil, []impl.Pod{waits(0), waits(1)}, nil},
		{"nobody waits", pickCfg(), []int{0, 0}, []impl.Pod{isOn(0, 1), isOn(1, 2)}, nil},
		{"one", pickCfg(), []int{0}, []impl.Pod{waits(2)}, []impl.Write{bind(1, 1)}},
		{"one, where its place is", pickCfg(), []int{0, 0}, []impl.Pod{waitsFor(2, 2)}, []impl.Write{bind(1, 2)}},
		{"only one that boots", pickCfg(), []int{-1}, []impl.Pod{waits(2)}, nil},
		{"one node is filled ahead of the next", pickCfg(), []int{0, 0}, []impl.Pod{waits(2), waits(2), waits(2)}, []impl.Write{bind(1, 1), bind(2, 1), bind(3, 2)}},
		{"all nodes are filled", pickCfg(), []int{0, -1, 0}, []impl.Pod{waits(2), waits(2), waits(2), waits(2), waits(2)}, []impl.Write{bind(1, 1), bind(2, 1), bind(3, 3), bind(4, 3)}},
		{"the higher rank first", pickCfg(), []int{0}, []impl.Pod{waits(2), waits(1), waits(0)}, []impl.Write{bind(3, 1), bind(2, 1)}},
		{"one that fits behind one that does not", pickCfg(), []int{1}, []impl.Pod{waits(1), waits(2)}, []impl.Write{bind(2, 1)}},
		{"each as things are behind the ones ahead", pickCfg(), []int{0, 0}, []impl.Pod{waits(2), waits(2), waits(0)}, []impl.Write{bind(3, 1), bind(1, 2), bind(2, 2)}},

		{"a place kept for lower rank is taken", pickCfg(), []int{0}, []impl.Pod{waitsFor(2, 1), waits(0)}, []impl.Write{bind(2, 1)}},
		{"a place kept for equal rank is not", pickCfg(), []int{0}, []impl.Pod{waits(1), waitsFor(1, 1)}, []impl.Write{bind(2, 1)}},
		{"a place kept for higher rank is not", pickCfg(), []int{0}, []impl.Pod{waits(2), isOn(2, 1), waitsFor(1, 1)}, nil},
		{"a place kept where there is no room, for lower rank", pickCfg(), []int{0}, []impl.Pod{waits(0), waitsFor(1, 1), waitsFor(2, 1)}, []impl.Write{bind(1, 1), bind(2, 1)}},
		{"a place kept for another is left, one is filled", pickCfg(), []int{0, 0}, []impl.Pod{waits(1), waitsFor(1, 1), waits(1)}, []impl.Write{bind(1, 2), bind(2, 1)}},
		{"two with a place where one has room", pickCfg(), []int{0, 0}, []impl.Pod{waitsFor(1, 1), waitsFor(1, 1)}, []impl.Write{bind(1, 2), bind(2, 1)}},
		{"two with a place where one has room, and no other node", pickCfg(), []int{0}, []impl.Pod{waitsFor(1, 1), waitsFor(1, 1)}, nil},

		{"a place elsewhere is free behind one", crossCfg(), []int{0, 1}, []impl.Pod{waits(0), waitsFor(1, 1)}, []impl.Write{bind(2, 2), bind(1, 1)}},
		{"a place elsewhere is not free of itself", crossCfg(), []int{0}, []impl.Pod{waits(0), waitsFor(1, 1)}, nil},
		{"a place elsewhere is free, twice", twice, []int{0, 2, 1}, []impl.Pod{waits(0), waitsFor(1, 1), waitsFor(2, 2)}, []impl.Write{bind(3, 3), bind(2, 2), bind(1, 1)}},
		{"those behind come ahead of all of this again", crossCfg(), []int{0, 1}, []impl.Pod{waits(0), waitsFor(1, 1), waits(0)}, []impl.Write{bind(2, 2), bind(3, 1)}},
		{"those of lower rank too", lower, []int{0, 1}, []impl.Pod{waits(0), waitsFor(1, 1), waits(2)}, []impl.Write{bind(2, 2), bind(3, 1)}},
		{"two ahead, one of them has room then", crossCfg(), []int{0, 1}, []impl.Pod{waits(0), waits(0), waitsFor(1, 1)}, []impl.Write{bind(3, 2), bind(1, 1)}},
		{"two ahead, both have room then", crossCfg(), []int{0, 1, 0, 1}, []impl.Pod{waits(0), waits(0), waitsFor(1, 1), waitsFor(1, 3)}, []impl.Write{bind(3, 2), bind(4, 4), bind(1, 1), bind(2, 3)}},
	} {
		s := hosting(x.c, x.groups, x.pods...)
		wantBindPlan(t, x.why, x.c, s, x.want...)
		wantBound(t, x.why, x.c, s)
		wantBrokenOff(t, x.why, x.c, s, x.want)
	}
	wantBindPlan(t, "wide", wideCfg(), wideState(), bind(6, 5), bind(13, 2), bind(7, 9))
	wantBindPlan(t, "plain", plainCfg(), plainState())
	for _, x := range okStates() {
		wantBound(t, x.why, x.c, x.s)
	}
}

// Pods of one rank and of several that cross each other, with each place kept: all is gone through again where one was put
// elsewhere than its place.
func TestBindAllOfThisAgain(t *testing.T) {
	again := 0
	for _, rank := range []int{4, 5, 6} {
		c := crossCfg()
		c.Works[2].Rank = rank
		for _, groups := range [][]int{{0, 1}, {0, 2, 1}, {1, 2, 0}} {
			for way := range 12 * 12 * 12 {
				var pods []impl.Pod
				for left := way; len(pods) < 3; left /= 12 {
					pods = append(pods, waitsFor(left%3, left/3%4%(len(groups)+1)))
				}
				s := hosting(c, groups, pods...)
				list, times := modelBind(c, s)
				wantBindPlan(t, "crossing", c, s, list...)
				if times > 2 {
					again++
					wantBound(t, "crossing", c, s)
				}
			}
		}
	}
	if again < 100 {
		t.Errorf("%d plans went through all again", again)
	}
}

// As many pods and nodes as there may be, with the last numbers: each node holds one.
func TestBindPlanOfMost(t *testing.T) {
	for _, far := range []int{0, 1, 5, 23} {
		c, s := tightCfg(), tightState()
		var want []impl.Write
		for i := range s.Pods {
			onNode(i, 0, 0)(&s)
			s.Pods[i].Nom = s.Nodes[(i+far)%24].Id
			want = append(want, bind(s.Pods[i].Id, s.Pods[i].Nom))
		}
		wantBindPlan(t, "each has a place", c, s, want...)
		wantBound(t, "each has a place", c, s)
		for i := range s.Pods {
			s.Pods[i].Nom, want[i].B = 0, s.Nodes[i].Id
		}
		wantBindPlan(t, "none has a place", c, s, want...)
		s.Nodes[far].Boot = 8
		wantBound(t, "one boots", c, s)
		if n := len(impl.BindPlan(c, s)); n != 23 {
			t.Errorf("%d have found a node, of 23", n)
		}
	}
	c, s := tightCfg(), tightState()
	for i := range s.Pods {
		onNode(i, 0, 0)(&s)
		s.Pods[i].Nom = s.Nodes[0].Id
	}
	wantBound(t, "all have one place", c, s)
	c.Works[0].Rank, c.Works[1].Rank, c.Works[2].Rank = 1, 0, 2
	wantBound(t, "all have one place, of three ranks", c, s)
}

// One node and every number of free slots: as many are put there as have room, one more is not.
func TestBindPlanSlots(t *testing.T) {
	for _, one := range []impl.Size{size(2, 1), size(1, 3), size(0, 2), size(5, 0), size(1, 1)} {
		for cpu := range 12 {
			for mem := range 12 {
				c := rankedCfg([]impl.CfgWork{ranked(one.Cpu, one.Mem, 0)}, size(cpu, mem))
				pods := slices.Repeat([]impl.Pod{waits(0)}, impl.CfgMaxPods)
				n := len(impl.BindPlan(c, hosting(c, []int{0}, pods...)))
				if want := min(impl.CfgMaxPods, impl.SizeSlots(one, size(cpu, mem))); n != want {
					t.Errorf("%d of %v are put on %d and %d, want %d", n, one, cpu, mem, want)
				}
			}
		}
	}
}

// someRanked is a Cfg of small sizes, or one of which the sizes cross.
func someRanked(seed *uint32) impl.Cfg {
	if nextNumber(seed, 3) == 0 {
		c := crossCfg()
		c.Works[nextNumber(seed, 3)].Rank = 4 + nextNumber(seed, 3)
		return c
	}
	var works []impl.CfgWork
	for range 1 + nextNumber(seed, 3) {
		cpu := nextNumber(seed, 5)
		works = append(works, ranked(cpu, max(nextNumber(seed, 5), 1-cpu), 3*nextNumber(seed, 2)+nextNumber(seed, 2)))
	}
	var rooms []impl.Size
	for range 1 + nextNumber(seed, 3) {
		cpu := nextNumber(seed, 9)
		rooms = append(rooms, size(cpu, nextNumber(seed, 9)))
	}
	return rankedCfg(works, rooms...)
}

// someHive is what there may be with small sizes, such that places, ranks and rooms meet.
func someHive(seed *uint32) (impl.Cfg, impl.State) {
	c := someRanked(seed)
	var groups []int
	for range nextNumber(seed, 7) {
		g := nextNumber(seed, len(c.Groups))
		if nextNumber(seed, 7) == 0 {
			g = -1 - g
		}
		groups = append(groups, g)
	}
	s := hosting(c, groups)
	for range 1 + nextNumber(seed, 8) {
		s, _ = modelDo(c, s, makePod(nextNumber(seed, len(c.Works))))
	}
	for range 8 * min(1, len(groups)) {
		pod := s.Pods[nextNumber(seed, len(s.Pods))].Id
		w := nom(pod, 1+nextNumber(seed, len(groups)))
		if nextNumber(seed, 4) == 0 {
			w.Kind = impl.WriteBind
		}
		s, _ = modelDo(c, s, w)
	}
	return c, s
}

func TestBindOfManyWays(t *testing.T) {
	seed := uint32(23)
	none, some, again, left := 0, 0, 0, 0
	for range 4000 {
		c, s := someHive(&seed)
		wantBound(t, "some", c, s)
		list, times := modelBind(c, s)
		switch {
		case times > 2:
			again++
		case len(list) > 0:
			some++
		default:
			none++
		}
		if len(list) < len(modelOrder(c, s)) {
			left++
		}
	}
	if none < 500 || some < 500 || again == 0 || left < 500 {
		t.Errorf("%d plans were none, %d some, %d went through all again, %d left some that wait", none, some, again, left)
	}
}

// Long ways of any changes, and the plan behind each of them.
func TestBindOnLongWays(t *testing.T) {
	put := 0
	for seed := range uint32(3) {
		for _, x := range append(okStates(), stateCase{"looked at", lookCfg(), lookState()}) {
			s := x.s
			for range 60 {
				s, _ = impl.WriteDo(x.c, s, someWrite(&seed, s))
				list, _ := modelBind(x.c, s)
				wantBindPlan(t, x.why, x.c, s, list...)
				put += len(list)
				if nextNumber(&seed, 10) == 0 {
					wantBound(t, x.why, x.c, s)
				}
			}
		}
	}
	if put < 500 {
		t.Errorf("%d were put on nodes", put)
	}
}

// wantNotBound asks that nothing is told of what is not ok.
func wantNotBound(t *testing.T, why string, c impl.Cfg, s impl.State) {
	t.Helper()
	if impl.StateOk(c, s) {
		t.Fatalf("%s: ok: %v", why, s)
	}
	wantOrder(t, why, c, s)
	wantBindPlan(t, why, c, s)
	for _, pod := range []int{-1, 0, 1, 2, 6, 7, 13, len(s.Pods)} {
		wantPick(t, why, c, s, pod, 0)
		for _, node := range []int{-1, 0, 1, 2, 4, 5, 9} {
			wantLeft(t, why, c, s, pod, node, impl.Size{}, false)
		}
	}
}

// wrongStates are all that is not ok in a part that somebody looks at who puts pods on nodes.
func wrongStates() []stateCase {
	list := wrongLooks()
	for _, spoil := range []func(s *impl.State){
		func(s *impl.State) { s.Pods[6].Node = 5 }, // too much Mem
		func(s *impl.State) { s.Pods[3].Nom = 6 },  // a node that boots
		func(s *impl.State) { s.Pods[3].Nom = 7 },
		func(s *impl.State) { s.Pods[3].Nom = -5 },
		func(s *impl.State) { s.Pods[3].Wait = 1 },
		func(s *impl.State) { s.Pods[0].Nom = 2 },
		func(s *impl.State) { s.Pods[0].Node = 7 },
		func(s *impl.State) { s.Pods[4].Work = 3 },
		func(s *impl.State) { s.Pods[4].Work = -1 },
		func(s *impl.State) { s.Pods[4].Id = 6 },
		func(s *impl.State) { s.Pods[7].Id = 20 },
		func(s *impl.State) { s.Nodes[4].Group = 3 },
		func(s *impl.State) { s.Nodes[4].Group = -1 },
		func(s *impl.State) { s.Nodes[4].Idle = 6 },
		func(s *impl.State) { s.Nodes = s.Nodes[1:] },
		func(s *impl.State) { slices.Reverse(s.Pods) },
		func(s *impl.State) { slices.Reverse(s.Nodes) },
		func(s *impl.State) { s.Works[0].Want = 5 },
		func(s *impl.State) { s.NextPod = 0 },
		func(s *impl.State) { s.NextNode = 9 },
	} {
		list = append(list, stateCase{"not ok", wideCfg(), changed(spoil)})
	}
	many := impl.State{NextPod: impl.StateMaxId, NextNode: impl.StateMaxId}
	for i := range 2000 {
		many.Pods, many.Nodes = append(many.Pods, impl.Pod{Id: i + 1, Work: i % 3}), append(many.Nodes, impl.Node{Id: i + 1})
	}
	return append(list,
		stateCase{"many", wideCfg(), many},
		stateCase{"nothing at all", impl.Cfg{}, impl.State{}},
		stateCase{"nothing is asked", impl.Cfg{}, wideState()},
		stateCase{"of another Cfg", plainCfg(), wideState()},
	)
}

func TestBindOfWrongState(t *testing.T) {
	for _, x := range wrongStates() {
		wantNotBound(t, x.why, x.c, x.s)
	}
}

// Pods and nodes that there are not, of any greatness.
func TestBindOfNoPodAndNoNode(t *testing.T) {
	for _, x := range okStates() {
		for _, wild := range append([]int{-1, -2, 0, x.s.NextPod, x.s.NextNode, impl.StateMaxId}, wildNumbers...) {
			if !slices.ContainsFunc(x.s.Pods, func(p impl.Pod) bool { return p.Id == wild }) {
				wantPick(t, x.why, x.c, x.s, wild, 0)
				for _, n := range x.s.Nodes {
					wantLeft(t, x.why, x.c, x.s, wild, n.Id, impl.Size{}, false)
				}
				wantLeft(t, x.why, x.c, x.s, wild, wild, impl.Size{}, false)
			}
			if !slices.Contains(someNodes(x.s), wild) {
				for _, p := range x.s.Pods {
					wantLeft(t, x.why, x.c, x.s, p.Id, wild, impl.Size{}, false)
				}
			}
		}
	}
}

func TestBindOfWildNumbers(t *testing.T) {
	eachWild(func(why string, c impl.Cfg, s impl.State) {
		if !impl.StateOk(c, s) {
			wantOrder(t, why, c, s)
			wantLeft(t, why, c, s, 6, 5, impl.Size{}, false)
			wantPick(t, why, c, s, 6, 0)
			wantBindPlan(t, why, c, s)
			return
		}
		list, _ := modelBind(c, s)
		wantOrder(t, why, c, s, modelOrder(c, s)...)
		wantBindPlan(t, why, c, s, list...)
		for _, pod := range []int{-1, 0, 4, 6, 7} {
			wantPick(t, why, c, s, pod, modelPick(c, s, pod))
			left, there := modelLeft(c, s, pod, 5)
			wantLeft(t, why, c, s, pod, 5, left, there)
		}
	})
}

// bindCases are those of which the memory is asked, with plans that are long, go through all again, and are none.
func bindCases() []stateCase {
	full := tightState()
	for i := range full.Pods {
		onNode(i, 0, 0)(&full)
	}
	return append(okStates(),
		stateCase{"all wait", tightCfg(), full},
		stateCase{"through all again", crossCfg(), hosting(crossCfg(), []int{0, 1}, waits(0), waitsFor(1, 1))},
		stateCase{"looked at", lookCfg(), lookState()},
		stateCase{"turned round", wideCfg(), changed(func(s *impl.State) { slices.Reverse(s.Pods); slices.Reverse(s.Nodes) })},
		stateCase{"nothing", wideCfg(), impl.State{}},
		stateCase{"not ok", plainCfg(), wideState()},
	)
}

func TestBindMemory(t *testing.T) {
	for _, x := range bindCases() {
		wantPlanMemory(t, x, func(c impl.Cfg, s impl.State) []impl.Write {
			wantOrder(t, x.why, c, s, impl.BindOrder(x.c, x.s)...)
			for _, pod := range askedPods(x.s) {
				wantPick(t, x.why, c, s, pod, impl.BindPick(x.c, x.s, pod))
				for _, node := range askedNodes(x.s)[:2] {
					left, there := impl.BindLeft(x.c, x.s, pod, node)
					wantLeft(t, x.why, c, s, pod, node, left, there)
				}
			}
			return impl.BindPlan(c, s)
		})
	}
}

// wantNewList asks that what is told in a list is new memory each time, and leaves what there is as it was.
func wantNewList(t *testing.T, x stateCase, list func(s impl.State) []int) {
	t.Helper()
	s, whole := spare(x.s)
	was := copyState(whole)
	a, b := list(s), list(s)
	want := slices.Clone(b)
	for i := range a[:cap(a)] {
		a[:cap(a)][i] = 99
	}
	if again := list(s); !slices.Equal(b, want) || !slices.Equal(again, want) {
		t.Errorf("%s: two answers share memory: %v and %v, want %v", x.why, b, again, want)
	}
	if !sameState(whole, was) {
		t.Errorf("%s: an argument was written into: %v", x.why, whole)
	}
	scribble(whole, 97)
	if !slices.Equal(b, want) {
		t.Errorf("%s: an answer shares memory with its argument: %v", x.why, b)
	}
}

func TestBindOrderMemory(t *testing.T) {
	for _, x := range bindCases() {
		wantNewList(t, x, func(s impl.State) []int { return impl.BindOrder(x.c, s) })
	}
}

// Nothing is kept between two calls: the same is answered whatever was asked in between.
func TestBindKeepsNothing(t *testing.T) {
	seed := uint32(9)
	for range 200 {
		c, s := someHive(&seed)
		d, other := someHive(&seed)
		order, pick, plan := impl.BindOrder(c, s), impl.BindPick(c, s, 1), impl.BindPlan(c, s)
		left, there := impl.BindLeft(c, s, 1, 1)
		impl.BindOrder(d, other)
		impl.BindLeft(d, other, 1, 1)
		impl.BindPick(d, other, 1)
		impl.BindPlan(d, other)
		impl.BindPick(c, s, math.MaxInt)
		wantOrder(t, "again", c, s, order...)
		wantLeft(t, "again", c, s, 1, 1, left, there)
		wantPick(t, "again", c, s, 1, pick)
		wantBindPlan(t, "again", c, s, plan...)
	}
}
