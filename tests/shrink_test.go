package tests

import (
	"math"
	"slices"
	"testing"

	"loop.example/hive/impl"
)

// shrinkCfg is growCfg where 3 looks are asked for, with such a Min of the groups (of the others 0).
func shrinkCfg(least ...int) impl.Cfg {
	c := growCfg()
	c.Idle = 3
	for i, n := range least {
		c.Groups[i].Min = n
	}
	return c
}

// idling is what there is with such an Idle of the nodes (of the others as it was).
func idling(s impl.State, idle ...int) impl.State {
	s = copyState(s)
	for i, n := range idle {
		s.Nodes[i].Idle = n
	}
	return s
}

// restCase is nodes of the groups, of which each has such a Min and as many are asked for, with such an Idle, and the pods.
type restCase[T any] struct {
	why   string
	least []int
	nodes []int
	idle  []int
	asked []int
	pods  []impl.Pod
	want  T
}

func (x restCase[T]) open() (impl.Cfg, impl.State) {
	c := shrinkCfg(x.least...)
	return c, idling(asking(hosting(c, x.nodes, x.pods...), x.asked...), x.idle...)
}

func wantIdle(t *testing.T, why string, s impl.State, node int, want bool) {
	t.Helper()
	if got := impl.ShrinkIdle(s, node); got != want {
		t.Errorf("%s: ShrinkIdle of %d is %v, want %v: %v", why, node, got, want, s)
	}
}

func wantShrinkPick(t *testing.T, why string, c impl.Cfg, s impl.State, want int) {
	t.Helper()
	if got := impl.ShrinkPick(c, s); got != want {
		t.Errorf("%s: ShrinkPick is %d, want %d: %v of %v", why, got, want, s, c)
	}
}

func wantShrinkPlan(t *testing.T, why string, c impl.Cfg, s impl.State, want ...impl.Write) {
	t.Helper()
	if got := impl.ShrinkPlan(c, s); !slices.Equal(got, want) {
		t.Errorf("%s: ShrinkPlan is %v, want %v: %v of %v", why, got, want, s, c)
	}
}

// modelIdle is the chapter's ShrinkIdle once more, for any state: of several nodes of the number the first is meant.
func modelIdle(s impl.State, node int) bool {
	for _, n := range s.Nodes {
		if n.Id == node {
			return n.Boot == 0 && !isLeantOn(s, node)
		}
	}
	return false
}

// modelGoers is all nodes that may go, for what is ok.
func modelGoers(c impl.Cfg, s impl.State) []int {
	var list []int
	for _, n := range s.Nodes {
		if modelIdle(s, n.Id) && n.Idle >= c.Idle && nodesOf(s, n.Group) > c.Groups[n.Group].Min {
			list = append(list, n.Id)
		}
	}
	return list
}

func modelShrinkPick(c impl.Cfg, s impl.State) int { return append(modelGoers(c, s), 0)[0] }

// modelLooked is what there is behind the looks alone, for what is ok.
func modelLooked(c impl.Cfg, s impl.State) impl.State {
	behind := copyState(s)
	for i, n := range s.Nodes {
		switch {
		case n.Boot > 0:
		case isLeantOn(s, n.Id):
			behind.Nodes[i].Idle = 0
		case n.Idle < c.Idle:
			behind.Nodes[i].Idle++
		}
	}
	return behind
}

// modelShrink is the chapter's ShrinkPlan once more, for what is ok: what the looks change is found by holding what is
// behind them against what was ahead.
func modelShrink(c impl.Cfg, s impl.State) []impl.Write {
	var list []impl.Write
	behind := modelLooked(c, s)
	for i, n := range behind.Nodes {
		if n.Idle != s.Nodes[i].Idle {
			list = append(list, setIdle(n.Id, n.Idle))
		}
	}
	if goes := modelGoers(c, behind); len(goes) > 0 {
		list = append(list, drop(goes[0]))
	}
	return list
}

// wantShrunk asks of what is ok what the models say, and P10 and P4.
func wantShrunk(t *testing.T, why string, c impl.Cfg, s impl.State) {
	t.Helper()
	if !impl.StateOk(c, s) {
		t.Fatalf("%s: not ok: %v of %v", why, s, c)
	}
	for _, node := range askedNodes(s) {
		wantIdle(t, why, s, node, modelIdle(s, node))
	}
	wantShrinkPick(t, why, c, s, modelShrinkPick(c, s))
	wantShrinkPlan(t, why, c, s, modelShrink(c, s)...)
	wantShrunkJustly(t, why, c, s)
	wantBrokenOff(t, why, c, s, impl.ShrinkPlan(c, s))
}

// wantShrunkJustly is P10: at most one node goes, which was empty and had its looks, of a group that is not below Min behind
// it; if none goes, none may. Behind the plan all of its changes are done, all else is as it was, and ok.
func wantShrunkJustly(t *testing.T, why string, c impl.Cfg, s impl.State) {
	t.Helper()
	list := impl.ShrinkPlan(c, s)
	got, n := impl.WriteAll(c, s, list)
	if n != len(list) || !impl.StateOk(c, got) {
		t.Errorf("%s: of %v %d are done: %v of %v", why, list, n, s, c)
	}
	gone := 0
	for _, n := range s.Nodes {
		if slices.Contains(someNodes(got), n.Id) {
			continue
		}
		gone++
		if n.Boot > 0 || isLeantOn(s, n.Id) || n.Idle+1 < c.Idle || nodesOf(got, n.Group) < c.Groups[n.Group].Min {
			t.Errorf("%s: the node %d goes behind %v: %v of %v", why, n.Id, list, s, c)
		}
	}
	if gone > 1 || gone == 0 && impl.ShrinkPick(c, got) != 0 {
		t.Errorf("%s: %d nodes go behind %v: %v of %v", why, gone, list, s, c)
	}
	wantNodesLooked(t, why, c, s, got)
	got.Nodes = s.Nodes
	if !sameState(got, s) {
		t.Errorf("%s: behind %v not only nodes are others: %v, want %v", why, list, got, s)
	}
}

// wantNodesLooked asks that each node that is there yet is as it was, but for its Idle.
func wantNodesLooked(t *testing.T, why string, c impl.Cfg, s impl.State, behind impl.State) {
	t.Helper()
	looked := modelLooked(c, s)
	for _, n := range behind.Nodes {
		if !slices.Contains(looked.Nodes, n) {
			t.Errorf("%s: the node %v is behind the looks at %v", why, n, s.Nodes)
		}
	}
}

// looks is so many looks one behind another, and who goes at each of them (or 0).
func looks(t *testing.T, why string, c impl.Cfg, s impl.State, times int) (impl.State, []int) {
	t.Helper()
	var gone []int
	for range times {
		wantShrunk(t, why, c, s)
		node, list := 0, impl.ShrinkPlan(c, s)
		if len(list) > 0 && list[len(list)-1].Kind == impl.WriteDrop {
			node = list[len(list)-1].A
		}
		gone = append(gone, node)
		s, _ = impl.WriteAll(c, s, list)
	}
	return s, gone
}

// wantLooksEnd looks till all must be gone that may, and asks that no group is below its Min behind them that was not ahead.
func wantLooksEnd(t *testing.T, why string, c impl.Cfg, s impl.State) {
	t.Helper()
	behind, _ := looks(t, why, c, s, c.Idle+impl.CfgNodes(c))
	wantShrinkPlan(t, why+", in the end", c, behind)
	for group, g := range c.Groups {
		was, is, leanedOn := nodesOf(s, group), nodesOf(behind, group), 0
		for _, n := range s.Nodes {
			if n.Group == group && (n.Boot > 0 || isLeantOn(s, n.Id)) {
				leanedOn++
			}
		}
		if is != max(leanedOn, min(was, g.Min)) {
			t.Errorf("%s: of the group %d are %d, were %d, of which %d can't go: %v of %v", why, group, is, was, leanedOn, s, c)
		}
	}
}

func TestShrinkIdle(t *testing.T) {
	const none, some = false, true
	for _, x := range []struct {
		why   string
		nodes []int
		pods  []impl.Pod
		want  []bool // of the numbers 0, 1 and on
	}{
		{"no node", nil, nil, []bool{none, none}},
		{"no node, and one waits", nil, []impl.Pod{waits(0)}, []bool{none, none}},
		{"empty", []int{0}, nil, []bool{none, some, none}},
		{"empty, of another group", []int{2}, nil, []bool{none, some, none}},
		{"with a pod", []int{0}, []impl.Pod{isOn(0, 1)}, []bool{none, none, none}},
		{"with a pod that starts", []int{0}, []impl.Pod{{Node: 1, Wait: 3}}, []bool{none, none, none}},
		{"with two pods", []int{0}, []impl.Pod{isOn(0, 1), isOn(1, 1)}, []bool{none, none, none}},
		{"boots", []int{-1}, nil, []bool{none, none, none}},
		{"a place is kept on it", []int{0}, []impl.Pod{waitsFor(0, 1)}, []bool{none, none, none}},
		{"a place is kept on it for one for which it is too little", []int{2}, []impl.Pod{waitsFor(0, 1)}, []bool{none, none, none}},
		{"with a pod, and a place is kept", []int{0}, []impl.Pod{isOn(0, 1), waitsFor(1, 1)}, []bool{none, none, none}},
		{"one waits without a place", []int{0}, []impl.Pod{waits(0)}, []bool{none, some, none}},
		{"the first has a pod", []int{0, 0}, []impl.Pod{isOn(0, 1)}, []bool{none, none, some, none}},
		{"the last has a pod", []int{0, 0}, []impl.Pod{isOn(0, 2)}, []bool{none, some, none, none}},
		{"a place on the first", []int{0, 0}, []impl.Pod{waitsFor(0, 1), waits(1)}, []bool{none, none, some, none}},
		{"a place on the last", []int{0, 0}, []impl.Pod{waits(0), waitsFor(0, 2)}, []bool{none, some, none, none}},
		{"the middle one has a pod", []int{0, 1, 2}, []impl.Pod{isOn(1, 2)}, []bool{none, some, none, some, none}},
		{"each in its way", []int{0, -1, 1, 2, 0, -3}, []impl.Pod{waits(2), isOn(0, 3), waitsFor(1, 5)}, []bool{none, some, none, none, some, none, none, none}},
		{"all are empty", []int{0, 0, 1, 2}, nil, []bool{none, some, some, some, some, none}},
	} {
		s := hosting(shrinkCfg(), x.nodes, x.pods...)
		for node, want := range x.want {
			wantIdle(t, x.why, s, node, want)
			wantIdle(t, x.why+", with its looks", idling(s, slices.Repeat([]int{3}, len(x.nodes))...), node, want)
		}
		wantLooksEnd(t, x.why, shrinkCfg(), s)
	}
}

// Idle is no part of what is asked, nor are the groups, nor what else there is.
func TestShrinkIdleOfNodesAndPodsAlone(t *testing.T) {
	s := impl.State{Nodes: []impl.Node{{Id: 4, Group: 77, Idle: -9}, {Id: 6, Group: -1}, {Id: 7, Boot: -1}}, Pods: []impl.Pod{{Id: 1, Work: 9, Node: 6}}}
	wantIdle(t, "alone", s, 4, true)
	wantIdle(t, "alone, with a pod", s, 6, false)
	wantIdle(t, "alone, a Boot below 0", s, 7, false)
	wantIdle(t, "alone, no node", s, 5, false)
	for _, n := range wildNumbers {
		s.Nodes[0].Idle, s.Nodes[0].Group, s.NextNode, s.NextPod = n, n, n, n
		wantIdle(t, "alone", s, 4, true)
	}
}

func TestShrinkPick(t *testing.T) {
	for _, x := range []restCase[int]{
		{"no node", nil, nil, nil, nil, nil, 0},
		{"as many looks as are asked for", nil, []int{0}, []int{3}, nil, nil, 1},
		{"one look less", nil, []int{0}, []int{2}, nil, nil, 0},
		{"two looks less", nil, []int{0}, []int{1}, nil, nil, 0},
		{"no look", nil, []int{0}, nil, nil, nil, 0},
		{"boots, with all looks", nil, []int{-1}, []int{3}, nil, nil, 0},
		{"with a pod", nil, []int{0}, []int{3}, nil, []impl.Pod{isOn(0, 1)}, 0},
		{"with a pod that starts", nil, []int{0}, []int{3}, nil, []impl.Pod{{Node: 1, Wait: 1}}, 0},
		{"a place is kept", nil, []int{0}, []int{3}, nil, []impl.Pod{waitsFor(0, 1)}, 0},
		{"a place of the lowest rank is kept", nil, []int{0}, []int{3}, nil, []impl.Pod{waitsFor(2, 1)}, 0},
		{"a place is kept for one for which it is too little", nil, []int{2}, []int{3}, nil, []impl.Pod{waitsFor(0, 1)}, 0},
		{"one waits without a place", nil, []int{0}, []int{3}, nil, []impl.Pod{waits(0)}, 1},

		{"the first of two", nil, []int{0, 0}, []int{3, 3}, nil, nil, 1},
		{"the first of two in two groups", nil, []int{2, 0}, []int{3, 3}, nil, nil, 1},
		{"the first has a look less", nil, []int{0, 0}, []int{2, 3}, nil, nil, 2},
		{"the first has a pod", nil, []int{0, 0}, []int{3, 3}, nil, []impl.Pod{isOn(0, 1)}, 2},
		{"a place is kept on the first", nil, []int{0, 0}, []int{3, 3}, nil, []impl.Pod{waitsFor(0, 1)}, 2},
		{"the first boots", nil, []int{-1, 0}, []int{3, 3}, nil, nil, 2},
		{"the last of four", nil, []int{0, -2, 1, 2}, []int{3, 3, 3, 3}, nil, []impl.Pod{isOn(0, 1), waitsFor(0, 3)}, 4},
		{"none of four", nil, []int{0, -2, 1, 2}, []int{3, 3, 3, 2}, nil, []impl.Pod{isOn(0, 1), waitsFor(0, 3)}, 0},

		{"just Min", []int{1}, []int{0}, []int{3}, nil, nil, 0},
		{"one more than Min", []int{1}, []int{0, 0}, []int{3, 3}, nil, nil, 1},
		{"one more than Min, the last", []int{1}, []int{0, 0}, []int{0, 3}, nil, nil, 2},
		{"just Min of 2", []int{2}, []int{0, 0}, []int{3, 3}, nil, nil, 0},
		{"one more than Min of 2", []int{2}, []int{0, 0, 0}, []int{3, 3, 3}, nil, nil, 1},
		{"fewer than Min", []int{2}, []int{0}, []int{3}, nil, nil, 0},
		{"just Min of 8", []int{8}, []int{0, 0, 0, 0, 0, 0, 0, 0}, []int{3, 3, 3, 3, 3, 3, 3, 3}, nil, nil, 0},
		{"one more than Min of 7", []int{7}, []int{0, 0, 0, 0, 0, 0, 0, 0}, []int{3, 3, 3, 3, 3, 3, 3, 3}, nil, nil, 1},
		{"just Min, of another group are more", []int{1}, []int{0, 1, 1}, []int{3}, nil, nil, 0},
		{"just Min of the first, the next goes", []int{1}, []int{0, 1, 2}, []int{3, 3, 3}, nil, nil, 2},
		{"just Min of the first two, the last goes", []int{1, 1}, []int{0, 1, 2}, []int{3, 3, 3}, nil, nil, 3},
		{"just Min of each", []int{1, 1, 1}, []int{0, 1, 2}, []int{3, 3, 3}, nil, nil, 0},
		{"the Min of another group", []int{0, 2, 1}, []int{0, 1, 1, 2}, []int{3, 3, 3, 3}, nil, nil, 1},

		{"just Min, and one is asked for", []int{1}, []int{0}, []int{3}, []int{1}, nil, 0},
		{"just Min, and as many as may be are asked for", []int{1}, []int{0}, []int{3}, []int{7}, nil, 0},
		{"one more than Min, and one is asked for", []int{1}, []int{0, 0}, []int{3, 3}, []int{1}, nil, 1},
		{"one more than Min, which boots", []int{1}, []int{0, -1}, []int{3}, nil, nil, 1},
		{"one more than Min, which boots ahead of it", []int{1}, []int{-1, 0}, []int{0, 3}, nil, nil, 2},
		{"just Min with one that boots", []int{2}, []int{0, -1}, []int{3}, nil, nil, 0},
		{"just Min, of another group one boots", []int{1}, []int{0, -2}, []int{3}, nil, nil, 0},
		{"one more than Min, which has a pod", []int{1}, []int{0, 0}, []int{0, 3}, nil, []impl.Pod{isOn(0, 1)}, 2},
		{"one more than Min, on which a place is kept", []int{1}, []int{0, 0}, []int{0, 3}, nil, []impl.Pod{waitsFor(0, 1)}, 2},
	} {
		c, s := x.open()
		wantShrinkPick(t, x.why, c, s, x.want)
		wantLooksEnd(t, x.why, c, s)
		for i := range s.Groups {
			s.Groups[i].Rest, s.Groups[i].Fails = 8, 3
		}
		wantShrinkPick(t, x.why+", and the groups rest", c, s, x.want)
	}
}

// As many looks as are asked for, from the least that may be to the most, and each Idle up to that.
func TestShrinkPickOfEachIdle(t *testing.T) {
	for looks := 2; looks <= impl.CfgMaxWait; looks++ {
		c := shrinkCfg()
		c.Idle = looks
		for idle := range looks + 1 {
			s := idling(hosting(c, []int{0, 1}, isOn(0, 2)), idle, looks)
			want, list := 0, []impl.Write{setIdle(1, idle+1), setIdle(2, 0)}
			switch idle {
			case looks - 1:
				list = append(list, drop(1))
			case looks:
				want, list = 1, []impl.Write{setIdle(2, 0), drop(1)}
			}
			wantShrinkPick(t, "of each Idle", c, s, want)
			wantShrinkPlan(t, "of each Idle", c, s, list...)
			wantLooksEnd(t, "of each Idle", c, s)
		}
	}
}

func TestShrinkPlan(t *testing.T) {
	for _, x := range []restCase[[]impl.Write]{
		{"no node", nil, nil, nil, nil, nil, nil},
		{"no node, and somebody waits", nil, nil, nil, nil, []impl.Pod{waits(0)}, nil},
		{"the first look", nil, []int{0}, nil, nil, nil, []impl.Write{setIdle(1, 1)}},
		{"the second look", nil, []int{0}, []int{1}, nil, nil, []impl.Write{setIdle(1, 2)}},
		{"the last look", nil, []int{0}, []int{2}, nil, nil, []impl.Write{setIdle(1, 3), drop(1)}},
		{"one look too many", nil, []int{0}, []int{3}, nil, nil, []impl.Write{drop(1)}},
		{"boots", nil, []int{-1}, nil, nil, nil, nil},
		{"boots, with an Idle", nil, []int{-1}, []int{1}, nil, nil, nil},
		{"boots, with all looks", nil, []int{-1}, []int{3}, nil, nil, nil},

		{"with a pod", nil, []int{0}, nil, nil, []impl.Pod{isOn(0, 1)}, nil},
		{"with a pod, behind a look", nil, []int{0}, []int{1}, nil, []impl.Pod{isOn(0, 1)}, []impl.Write{setIdle(1, 0)}},
		{"with a pod, one look ahead of the last", nil, []int{0}, []int{2}, nil, []impl.Pod{isOn(0, 1)}, []impl.Write{setIdle(1, 0)}},
		{"with a pod, behind all looks", nil, []int{0}, []int{3}, nil, []impl.Pod{isOn(0, 1)}, []impl.Write{setIdle(1, 0)}},
		{"with a pod that starts", nil, []int{0}, []int{2}, nil, []impl.Pod{{Node: 1, Wait: 3}}, []impl.Write{setIdle(1, 0)}},
		{"a place is kept", nil, []int{0}, nil, nil, []impl.Pod{waitsFor(0, 1)}, nil},
		{"a place is kept, behind a look", nil, []int{0}, []int{1}, nil, []impl.Pod{waitsFor(2, 1)}, []impl.Write{setIdle(1, 0)}},
		{"a place is kept, one look ahead of the last", nil, []int{0}, []int{2}, nil, []impl.Pod{waitsFor(1, 1)}, []impl.Write{setIdle(1, 0)}},
		{"a place is kept, behind all looks", nil, []int{0}, []int{3}, nil, []impl.Pod{waitsFor(0, 1)}, []impl.Write{setIdle(1, 0)}},
		{"one waits without a place", nil, []int{0}, []int{2}, nil, []impl.Pod{waits(0)}, []impl.Write{setIdle(1, 3), drop(1)}},

		{"just Min", []int{1}, []int{0}, []int{1}, nil, nil, []impl.Write{setIdle(1, 2)}},
		{"just Min, the last look", []int{1}, []int{0}, []int{2}, nil, nil, []impl.Write{setIdle(1, 3)}},
		{"just Min, behind all looks", []int{1}, []int{0}, []int{3}, nil, nil, nil},
		{"just Min, behind all looks, and one is asked for", []int{1}, []int{0}, []int{3}, []int{1}, nil, nil},
		{"just Min, the last look, and one is asked for", []int{1}, []int{0}, []int{2}, []int{1}, nil, []impl.Write{setIdle(1, 3)}},
		{"one more than Min, the last look", []int{1}, []int{0, 0}, []int{2, 0}, nil, nil, []impl.Write{setIdle(1, 3), setIdle(2, 1), drop(1)}},
		{"one more than Min, which boots", []int{1}, []int{0, -1}, []int{2, 0}, nil, nil, []impl.Write{setIdle(1, 3), drop(1)}},
		{"one more than Min, which has a pod", []int{1}, []int{0, 0}, []int{1, 2}, nil, []impl.Pod{isOn(0, 1)}, []impl.Write{setIdle(1, 0), setIdle(2, 3), drop(2)}},

		{"two of one group, the last look", nil, []int{0, 0}, []int{2, 2}, nil, nil, []impl.Write{setIdle(1, 3), setIdle(2, 3), drop(1)}},
		{"two of one group, behind all looks", nil, []int{0, 0}, []int{3, 3}, nil, nil, []impl.Write{drop(1)}},
		{"two of two groups, the last look", nil, []int{2, 1}, []int{2, 2}, nil, nil, []impl.Write{setIdle(1, 3), setIdle(2, 3), drop(1)}},
		{"two of two groups, behind all looks", nil, []int{2, 1}, []int{3, 3}, nil, nil, []impl.Write{drop(1)}},
		{"one that is lifted goes ahead of one that had its looks", nil, []int{0, 0}, []int{2, 3}, nil, nil, []impl.Write{setIdle(1, 3), drop(1)}},
		{"one that had its looks goes ahead of one that is lifted", nil, []int{0, 0}, []int{3, 2}, nil, nil, []impl.Write{setIdle(2, 3), drop(1)}},
		{"one that is not lifted far enough", nil, []int{0, 0}, []int{1, 2}, nil, nil, []impl.Write{setIdle(1, 2), setIdle(2, 3), drop(2)}},
		{"just Min of the first, the next goes", []int{1}, []int{0, 1}, []int{2, 2}, nil, nil, []impl.Write{setIdle(1, 3), setIdle(2, 3), drop(2)}},

		{
			"each in its way", nil, []int{0, 1, -1, 0, 2, 0}, []int{0, 2, 1, 2, 3, 1}, nil, []impl.Pod{isOn(0, 2), waitsFor(0, 6)},
			[]impl.Write{setIdle(1, 1), setIdle(2, 0), setIdle(4, 3), setIdle(6, 0), drop(4)},
		},
		{
			"each in its way, and none goes", []int{3, 0, 1}, []int{0, 1, -1, 0, 2, 0}, []int{3, 2, 1, 2, 3, 1}, []int{4, 2, 1}, []impl.Pod{isOn(0, 2), waitsFor(0, 6), isOn(2, 4)},
			[]impl.Write{setIdle(2, 0), setIdle(4, 0), setIdle(6, 0), drop(1)},
		},
		{
			"each in its way, at Min", []int{4, 0, 1}, []int{0, 1, -1, 0, 2, 0}, []int{3, 2, 1, 2, 3, 1}, []int{4, 2, 1}, []impl.Pod{isOn(0, 2), waitsFor(0, 6), isOn(2, 4)},
			[]impl.Write{setIdle(2, 0), setIdle(4, 0), setIdle(6, 0)},
		},
	} {
		c, s := x.open()
		wantShrinkPlan(t, x.why, c, s, x.want...)
		wantLooksEnd(t, x.why, c, s)
	}
}

func TestShrinkPlanOfOthers(t *testing.T) {
	wantShrinkPlan(t, "plain", plainCfg(), plainState())
	wantShrinkPlan(t, "wide", wideCfg(), wideState(), setIdle(5, 0), drop(9))
	wantShrinkPick(t, "wide", wideCfg(), wideState(), 9)
	var ends []impl.Write
	for _, n := range tightState().Nodes {
		if n.Idle > 0 {
			ends = append(ends, setIdle(n.Id, 0))
		}
	}
	wantShrinkPlan(t, "tight", tightCfg(), tightState(), ends...)
	for _, x := range append(okStates(), stateCase{"looked at", lookCfg(), lookState()}) {
		wantLooksEnd(t, x.why, x.c, x.s)
	}
}

// As many nodes as there may be, with the last numbers and the most looks, all empty: they go one by one, each group down to Min.
func TestShrinkOfMostNodes(t *testing.T) {
	c, s := tightCfg(), tightState()
	s.Pods = nil
	for i := range s.Nodes {
		s.Nodes[i].Idle = 0
	}
	for group, least := range []int{3, 0, 7} {
		c.Groups[group].Min = least
	}
	first := s.Nodes[0].Id
	want := slices.Repeat([]int{0}, 7)
	for _, gone := range []int{0, 1, 2, 3, 4, 8, 9, 10, 11, 12, 13, 14, 15, 16} {
		want = append(want, first+gone)
	}
	want = append(want, 0, 0)
	behind, gone := looks(t, "most nodes", c, s, len(want))
	if !slices.Equal(gone, want) || nodesOf(behind, 0) != 3 || nodesOf(behind, 1) != 0 || nodesOf(behind, 2) != 7 {
		t.Errorf("%v go, want %v: %v", gone, want, behind)
	}
}

// Looks one behind another: who goes at which of them.
func TestShrinkAgainAndAgain(t *testing.T) {
	for _, x := range []restCase[[]int]{
		{"one", nil, []int{0}, nil, nil, nil, []int{0, 0, 1, 0}},
		{"one by one", nil, []int{0, 1, 0}, nil, nil, nil, []int{0, 0, 1, 2, 3, 0}},
		{"one by one, as they have their looks", nil, []int{0, 1, 0}, []int{0, 2, 1}, nil, nil, []int{2, 3, 1, 0}},
		{"one by one down to Min", []int{1}, []int{0, 0, 0}, nil, nil, nil, []int{0, 0, 1, 2, 0, 0}},
		{"the first down to Min, the others behind it", []int{1, 1}, []int{0, 1, 0, 1, 2}, []int{3, 3, 3, 3, 3}, nil, nil, []int{1, 2, 5, 0}},
		{"Min of what is asked for", []int{2}, []int{0, 0}, []int{3, 3}, []int{6}, nil, []int{0, 0, 0}},
		{"one boots", []int{1}, []int{0, -1, 0}, []int{3, 3, 3}, nil, nil, []int{1, 3, 0, 0}},
		{"some are needed", nil, []int{0, 0, 1, 2, 2}, []int{3, 2, 3, 1, 0}, nil, []impl.Pod{isOn(0, 1), waitsFor(2, 5), waits(1)}, []int{2, 3, 4, 0}},
		{"all are needed", nil, []int{0, 0}, []int{3, 3}, nil, []impl.Pod{isOn(0, 1), waitsFor(0, 2)}, []int{0, 0, 0, 0, 0}},
	} {
		c, s := x.open()
		if _, got := looks(t, x.why, c, s, len(x.want)); !slices.Equal(got, x.want) {
			t.Errorf("%s: %v go, want %v: %v of %v", x.why, got, x.want, s, c)
		}
		wantLooksEnd(t, x.why, c, s)
	}
}

// Looks with a place that is kept between them, and given up: the count begins anew behind it.
func TestShrinkBeginsAnew(t *testing.T) {
	for _, x := range []struct {
		why         string
		comes, ends impl.Write
	}{
		{"a place is kept and given up", nom(1, 1), nom(1, 0)},
		{"a place is kept, and the pod goes", nom(1, 1), kill(1)},
		{"a pod comes and is put out", bind(1, 1), oust(1)},
		{"a pod comes and goes", bind(1, 1), kill(1)},
	} {
		for ahead := range 3 {
			c := shrinkCfg()
			s, _ := looks(t, x.why, c, hosting(c, []int{0}, waits(0)), ahead)
			s, _ = impl.WriteDo(c, s, x.comes)
			between, gone := looks(t, x.why, c, s, 1)
			if gone[0] != 0 || between.Nodes[0].Idle != 0 {
				t.Errorf("%s: behind %d looks and one is %v", x.why, ahead, between)
			}
			s, _ = impl.WriteDo(c, between, x.ends)
			if _, gone = looks(t, x.why, c, s, 4); !slices.Equal(gone, []int{0, 0, 1, 0}) {
				t.Errorf("%s: behind %d looks, one, and what ends it %v go", x.why, ahead, gone)
			}
			// What comes and goes between two looks is not seen by them.
			s, _ = looks(t, x.why, c, hosting(c, []int{0}, waits(0)), ahead)
			s, _ = impl.WriteAll(c, s, []impl.Write{x.comes, x.ends})
			if _, gone = looks(t, x.why, c, s, 3-ahead); gone[2-ahead] != 1 {
				t.Errorf("%s: between two looks, behind %d: %v go", x.why, ahead, gone)
			}
		}
	}
}

// Three nodes in all ways: of two groups, that boot, are empty, hold a pod or a place, with each Idle, and each Min.
func TestShrinkInAllWays(t *testing.T) {
	went, barred := 0, 0
	for way := range 12 * 12 * 12 * 4 * 2 {
		c := shrinkCfg(way%4, way/4%2)
		c.Idle = 2
		middle := way / 4 % 2
		var pods []impl.Pod
		nodes, idle := []int{0, middle, 0}, make([]int, 3)
		for i, left := 0, way/8; i < 3; i, left = i+1, left/12 {
			idle[i] = left % 3
			switch left / 3 % 4 {
			case 0:
				nodes[i] = -1 - nodes[i]
			case 1:
				pods = append(pods, isOn(1, i+1))
			case 2:
				pods = append(pods, waitsFor(1, i+1))
			}
		}
		s := idling(hosting(c, nodes, pods...), idle...)
		list := modelShrink(c, s)
		wantShrinkPick(t, "in all ways", c, s, modelShrinkPick(c, s))
		wantShrinkPlan(t, "in all ways", c, s, list...)
		wantShrunkJustly(t, "in all ways", c, s)
		if len(list) > 0 && list[len(list)-1].Kind == impl.WriteDrop {
			went++
		} else if slices.ContainsFunc(s.Nodes, func(n impl.Node) bool { return modelIdle(s, n.Id) && n.Idle >= 1 }) {
			barred++
		}
	}
	if went < 1000 || barred < 1000 {
		t.Errorf("%d times one went, %d times Min was in the way", went, barred)
	}
}

// someRest is what there may be with small sizes, with nodes that were empty at some looks, and groups near their Min.
func someRest(seed *uint32) (impl.Cfg, impl.State) {
	c, s := someLot(seed)
	c.Idle = 2 + nextNumber(seed, 3)
	for i := range s.Nodes {
		s.Nodes[i].Idle = nextNumber(seed, c.Idle+1)
	}
	for g := range c.Groups {
		c.Groups[g].Min = min(c.Groups[g].Max, nodesOf(s, g)+1, nextNumber(seed, 3))
	}
	return c, s
}

// shrinkCounts is of which kinds what there is was.
type shrinkCounts struct {
	nothing, looks, goes, lifted, several, atMin int
}

func (n *shrinkCounts) add(c impl.Cfg, s impl.State) {
	list, goers := modelShrink(c, s), modelGoers(c, modelLooked(c, s))
	atMin := slices.ContainsFunc(s.Nodes, func(one impl.Node) bool {
		return modelIdle(s, one.Id) && one.Idle+1 >= c.Idle && !slices.Contains(goers, one.Id)
	})
	switch {
	case len(goers) > 1:
		n.several++
	case len(goers) == 1 && slices.Contains(list, setIdle(goers[0], c.Idle)):
		n.lifted++
	case len(goers) == 1:
		n.goes++
	case atMin:
		n.atMin++
	case len(list) > 0:
		n.looks++
	default:
		n.nothing++
	}
}

func TestShrinkOfManyWays(t *testing.T) {
	seed := uint32(32)
	var n shrinkCounts
	for range 8000 {
		c, s := someRest(&seed)
		wantShrunk(t, "some", c, s)
		n.add(c, s)
	}
	if n.nothing < 500 || n.looks < 500 || n.goes < 300 || n.lifted < 300 || n.several < 100 || n.atMin < 300 {
		t.Errorf("of too few kinds: %+v", n)
	}
	for range 300 {
		c, s := someRest(&seed)
		wantLooksEnd(t, "some", c, s)
	}
}

// Long ways of any changes, and a look behind each of them.
func TestShrinkOnLongWays(t *testing.T) {
	var n shrinkCounts
	for seed := range uint32(3) {
		for _, x := range shrinkCases() {
			s := x.s
			if !impl.StateOk(x.c, s) {
				continue
			}
			for range 100 {
				s, _ = impl.WriteDo(x.c, s, someWrite(&seed, s))
				wantShrinkPick(t, x.why, x.c, s, modelShrinkPick(x.c, s))
				wantShrinkPlan(t, x.why, x.c, s, modelShrink(x.c, s)...)
				n.add(x.c, s)
				if nextNumber(&seed, 10) == 0 {
					wantShrunk(t, x.why, x.c, s)
				}
			}
		}
	}
	if n.nothing < 100 || n.looks < 100 || n.goes < 5 || n.lifted < 5 || n.atMin < 20 {
		t.Errorf("of too few kinds: %+v", n)
	}
}

// seenEmpty counts for each node at how many looks in a row it was empty, by what there was at them alone.
type seenEmpty map[int]int

func (seen seenEmpty) look(s impl.State) {
	for _, n := range s.Nodes {
		if modelIdle(s, n.Id) {
			seen[n.Id]++
		} else {
			delete(seen, n.Id)
		}
	}
}

// P10 by what was seen: between looks anything is done but what is the looks' own, and nodes come. Whoever goes was empty
// at so many looks in a row, and none that was and may go stays but for another one.
func TestShrinkOnlyWhoWasSeenEmpty(t *testing.T) {
	seed, went := uint32(10), 0
	for range 150 {
		c, s := someRest(&seed)
		seen := seenEmpty{}
		for i := range s.Nodes {
			s.Nodes[i].Idle = 0
		}
		for range 30 {
			for range nextNumber(&seed, 4) {
				if w := someWrite(&seed, s); w.Kind < impl.WriteIdle {
					s, _ = impl.WriteDo(c, s, w)
				}
			}
			if group := nextNumber(&seed, len(c.Groups)); s.Groups[group].Asked > 0 {
				s = comes(s, group, 0)
			}
			seen.look(s)
			behind, _ := impl.WriteAll(c, s, impl.ShrinkPlan(c, s))
			gone := slices.DeleteFunc(slices.Clone(s.Nodes), func(n impl.Node) bool { return slices.Contains(someNodes(behind), n.Id) })
			due := slices.DeleteFunc(slices.Clone(s.Nodes), func(n impl.Node) bool {
				return seen[n.Id] < c.Idle || nodesOf(s, n.Group) <= c.Groups[n.Group].Min
			})
			if !slices.Equal(gone, due[:min(1, len(due))]) {
				t.Fatalf("%v go, want the first of %v, seen %v: %v of %v", gone, due, seen, s, c)
			}
			went += len(gone)
			s = behind
		}
	}
	if went < 200 {
		t.Errorf("only %d went", went)
	}
}

// The components in turns, with each node that is asked for coming at some time: no look takes a node that is needed, or
// takes a group below Min.
func TestShrinkInTurns(t *testing.T) {
	seed := uint32(9)
	var n shrinkCounts
	for range 150 {
		c, s := someRest(&seed)
		for range 60 {
			switch which := nextNumber(&seed, 8); {
			case which < 4:
				s = someTurn(&seed, c, s)
			case which == 4:
				s, _ = impl.WriteAll(c, s, impl.GrowPlan(c, s))
			default:
				wantShrunk(t, "in turns", c, s)
				n.add(c, s)
				s, _ = impl.WriteAll(c, s, impl.ShrinkPlan(c, s))
			}
		}
		wantLooksEnd(t, "in the end", c, s)
	}
	if n.nothing < 500 || n.looks < 100 || n.goes < 20 || n.lifted < 50 || n.atMin < 300 {
		t.Errorf("of too few kinds: %+v", n)
	}
}

// wantNotShrunk asks that nothing is told of what is not ok, but of ShrinkIdle, which doesn't ask for it.
func wantNotShrunk(t *testing.T, why string, c impl.Cfg, s impl.State) {
	t.Helper()
	if impl.StateOk(c, s) {
		t.Fatalf("%s: ok: %v", why, s)
	}
	wantShrinkPick(t, why, c, s, 0)
	wantShrinkPlan(t, why, c, s)
	for _, node := range askedNodes(s) {
		wantIdle(t, why, s, node, modelIdle(s, node))
	}
}

func TestShrinkOfWrongState(t *testing.T) {
	for _, x := range wrongStates() {
		wantNotShrunk(t, x.why, x.c, x.s)
	}
	for _, spoil := range []func(c *impl.Cfg, s *impl.State){
		func(c *impl.Cfg, s *impl.State) { s.Nodes[0].Idle = 4 },
		func(c *impl.Cfg, s *impl.State) { s.Nodes[0].Idle = -1 },
		func(c *impl.Cfg, s *impl.State) { s.Nodes[0].Idle = math.MaxInt },
		func(c *impl.Cfg, s *impl.State) { s.Nodes[1].Idle = math.MinInt },
		func(c *impl.Cfg, s *impl.State) { s.Nodes[0].Group = 3 },
		func(c *impl.Cfg, s *impl.State) { s.Nodes[0].Group = -1 },
		func(c *impl.Cfg, s *impl.State) { s.Nodes[0].Boot = -1 },
		func(c *impl.Cfg, s *impl.State) { s.Nodes[1].Boot = 1 }, // under a pod
		func(c *impl.Cfg, s *impl.State) { s.Nodes[2].Boot = 1 }, // under a place
		func(c *impl.Cfg, s *impl.State) { s.Nodes[0].Id = 2 },
		func(c *impl.Cfg, s *impl.State) { s.Nodes[0].Id = 0 },
		func(c *impl.Cfg, s *impl.State) { s.Nodes[2].Id = 1 },
		func(c *impl.Cfg, s *impl.State) { s.Nodes = s.Nodes[1:2] },
		func(c *impl.Cfg, s *impl.State) { s.NextNode = 3 },
		func(c *impl.Cfg, s *impl.State) { s.Pods[0].Node = 4 },
		func(c *impl.Cfg, s *impl.State) { s.Pods[0].Nom = 1 },
		func(c *impl.Cfg, s *impl.State) { s.Pods[1].Nom = 4 },
		func(c *impl.Cfg, s *impl.State) { s.Pods[1].Work = 3 },
		func(c *impl.Cfg, s *impl.State) { s.Works = s.Works[1:] },
		func(c *impl.Cfg, s *impl.State) { s.Groups = s.Groups[1:] },
		func(c *impl.Cfg, s *impl.State) { s.Groups[0].Asked = 7 }, // beside two nodes more than Max
		func(c *impl.Cfg, s *impl.State) { s.Groups[1].Rest = 9 },
		func(c *impl.Cfg, s *impl.State) { c.Idle = 1 },
		func(c *impl.Cfg, s *impl.State) { c.Idle = 9 },
		func(c *impl.Cfg, s *impl.State) { c.Idle = 2 }, // less than an Idle that there is
		func(c *impl.Cfg, s *impl.State) { c.Groups[0].Min = -1 },
		func(c *impl.Cfg, s *impl.State) { c.Groups[1].Min = 9 },
		func(c *impl.Cfg, s *impl.State) { c.Groups[0].Max = 1 },
		func(c *impl.Cfg, s *impl.State) { c.Groups = nil },
		func(c *impl.Cfg, s *impl.State) { *c = impl.Cfg{} },
	} {
		c := shrinkCfg()
		s := idling(hosting(c, []int{0, 0, 1}, isOn(0, 2), waitsFor(1, 3)), 3, 1, 2)
		wantShrinkPlan(t, "before it is spoilt", c, s, setIdle(2, 0), setIdle(3, 0), drop(1))
		wantShrinkPick(t, "before it is spoilt", c, s, 1)
		spoil(&c, &s)
		wantNotShrunk(t, "spoilt", c, s)
	}
}

// ShrinkIdle by its own words: of nodes out of order or of one number, and of pods that are on a node and have a place.
func TestShrinkIdleOfWrongState(t *testing.T) {
	s := impl.State{
		Nodes: []impl.Node{{Id: 9}, {Id: 5, Boot: 2}, {Id: 5}, {Id: 3}, {Id: -4}, {Id: 7}, {Id: 7, Boot: 1}, {Id: math.MaxInt}, {Id: math.MinInt}},
		Pods:  []impl.Pod{{Id: 1, Node: 9, Nom: 3}, {Id: 1, Node: 8}, {Nom: math.MinInt}},
	}
	for node, want := range map[int]bool{9: false, 5: false, 3: false, -4: true, 7: true, 8: false, 0: false, 4: false, math.MaxInt: true, math.MinInt: false, math.MaxInt - 1: false} {
		wantIdle(t, "by its own words", s, node, want)
	}
	wantIdle(t, "nothing", impl.State{}, 0, false)
	wantIdle(t, "no nodes", impl.State{Pods: s.Pods}, 9, false)
}

// Of several nodes of one number the first is meant; pods and places go by the number alone.
func TestShrinkIdleOfOneNumber(t *testing.T) {
	const none, some = false, true
	boots, lives, other := impl.Node{Id: 1, Boot: 1}, impl.Node{Id: 1}, impl.Node{Id: 2}
	below, moreBoot, withLooks, ofOther := impl.Node{Id: 1, Boot: -1}, impl.Node{Id: 1, Boot: 2}, impl.Node{Id: 1, Idle: 3}, impl.Node{Id: 1, Group: 1}
	for _, x := range []struct {
		why   string
		nodes []impl.Node
		want  bool
	}{
		{"the first boots", []impl.Node{boots, lives}, none},
		{"the first lives", []impl.Node{lives, boots}, some},
		{"both live", []impl.Node{lives, lives}, some},
		{"both boot", []impl.Node{boots, moreBoot}, none},
		{"the first has a Boot below 0", []impl.Node{below, lives}, none},
		{"the second has a Boot below 0", []impl.Node{lives, below}, some},
		{"the first boots, and the second had its looks", []impl.Node{boots, withLooks}, none},
		{"the first lives, and the second had its looks", []impl.Node{lives, withLooks}, some},
		{"the first boots, and the second is of another group", []impl.Node{boots, ofOther}, none},
		{"the first is of another group, and the second boots", []impl.Node{ofOther, boots}, some},
		{"the first of three boots", []impl.Node{boots, lives, lives}, none},
		{"the first of three lives", []impl.Node{lives, boots, boots}, some},
		{"the middle one of three lives", []impl.Node{boots, lives, moreBoot}, none},
		{"the middle one of three boots", []impl.Node{lives, boots, lives}, some},
		{"behind another, the first boots", []impl.Node{other, boots, lives}, none},
		{"behind another, the first lives", []impl.Node{other, lives, boots}, some},
		{"with another between, the first boots", []impl.Node{boots, other, lives}, none},
		{"with another between, the first lives", []impl.Node{lives, other, boots}, some},
		{"one boots, and another lives behind it", []impl.Node{boots, other}, none},
		{"one lives, and another boots ahead of it", []impl.Node{{Id: 2, Boot: 1}, lives}, some},
	} {
		s := impl.State{Nodes: x.nodes, NextPod: 1, NextNode: 3}
		wantIdle(t, x.why, s, 1, x.want)
		for _, p := range []impl.Pod{{Id: 1, Node: 2}, {Id: 1, Nom: 2}, {Id: 1}} {
			s.Pods = []impl.Pod{p}
			wantIdle(t, x.why+", and a pod is not on it", s, 1, x.want)
		}
		for _, p := range []impl.Pod{{Id: 1, Node: 1}, {Id: 1, Nom: 1}, {Id: 1, Node: 2, Nom: 1}} {
			s.Pods = []impl.Pod{p}
			wantIdle(t, x.why+", and a pod leans on it", s, 1, false)
		}
	}
}

// Four nodes of two numbers in all ways: nothing hangs on those that are not the first of their number.
func TestShrinkIdleOfFirstAlone(t *testing.T) {
	idle := 0
	for way := range 6 * 6 * 6 * 6 * 3 {
		s := impl.State{NextPod: 2, NextNode: 3}
		left := way
		for range 4 {
			s.Nodes = append(s.Nodes, impl.Node{Id: 1 + left%2, Boot: left/2%3 - 1})
			left /= 6
		}
		s.Pods = []impl.Pod{{Id: 1, Nom: left}}
		for node := range 4 {
			alone, want := copyState(s), false
			alone.Nodes = slices.DeleteFunc(alone.Nodes, func(n impl.Node) bool { return n.Id != node })
			if len(alone.Nodes) > 0 {
				alone.Nodes = alone.Nodes[:1]
				want = alone.Nodes[0].Boot == 0 && node != left
			}
			wantIdle(t, "the first alone", alone, node, want)
			wantIdle(t, "the first of its number", s, node, want)
			if want {
				idle++
			}
		}
	}
	if idle < 500 {
		t.Errorf("only %d are idle", idle)
	}
}

// Numbers of nodes that there are not, of any greatness.
func TestShrinkIdleOfNoNode(t *testing.T) {
	for _, x := range okStates() {
		for _, wild := range append([]int{-1, -2, 0, x.s.NextNode, impl.StateMaxId}, wildNumbers...) {
			if !slices.Contains(someNodes(x.s), wild) {
				wantIdle(t, x.why, x.s, wild, false)
			}
		}
	}
}

func TestShrinkOfWildNumbers(t *testing.T) {
	eachWild(func(why string, c impl.Cfg, s impl.State) {
		if !impl.StateOk(c, s) {
			wantNotShrunk(t, why, c, s)
			return
		}
		wantShrinkPick(t, why, c, s, modelShrinkPick(c, s))
		wantShrinkPlan(t, why, c, s, modelShrink(c, s)...)
		for _, node := range askedNodes(s) {
			wantIdle(t, why, s, node, modelIdle(s, node))
		}
	})
}

// shrinkCases are those of which the memory is asked, with looks of each kind, and nodes that go.
func shrinkCases() []stateCase {
	empty := tightState()
	for i := range empty.Pods {
		onNode(i, 0, 0)(&empty)
	}
	return append(okStates(),
		stateCase{"all are empty", tightCfg(), empty},
		stateCase{"looks of each kind", shrinkCfg(), idling(hosting(shrinkCfg(), []int{0, 1, -1, 0, 2, 0}, isOn(0, 2), waitsFor(0, 6)), 0, 2, 1, 2, 3, 1)},
		stateCase{"one goes without a look", shrinkCfg(1), idling(hosting(shrinkCfg(1), []int{0, 0}), 3, 3)},
		stateCase{"none goes", shrinkCfg(2, 1), idling(hosting(shrinkCfg(2, 1), []int{0, 0, 1}, waits(0)), 3, 2, 1)},
		stateCase{"looked at", lookCfg(), lookState()},
		stateCase{"turned round", wideCfg(), changed(func(s *impl.State) { slices.Reverse(s.Pods); slices.Reverse(s.Nodes) })},
		stateCase{"nothing", wideCfg(), impl.State{}},
		stateCase{"not ok", plainCfg(), wideState()},
	)
}

func TestShrinkMemory(t *testing.T) {
	for _, x := range shrinkCases() {
		wantPlanMemory(t, x, func(c impl.Cfg, s impl.State) []impl.Write {
			for _, node := range askedNodes(x.s) {
				wantIdle(t, x.why, s, node, impl.ShrinkIdle(x.s, node))
			}
			wantShrinkPick(t, x.why, c, s, impl.ShrinkPick(x.c, x.s))
			return impl.ShrinkPlan(c, s)
		})
	}
}

// Nothing is kept between two calls: the same is answered whatever was asked in between.
func TestShrinkKeepsNothing(t *testing.T) {
	seed := uint32(9)
	for range 200 {
		c, s := someRest(&seed)
		d, other := someRest(&seed)
		idle, pick, plan := impl.ShrinkIdle(s, 1), impl.ShrinkPick(c, s), impl.ShrinkPlan(c, s)
		impl.ShrinkIdle(other, 1)
		impl.ShrinkPick(d, other)
		impl.ShrinkPlan(d, other)
		wantIdle(t, "again", s, 1, idle)
		wantShrinkPick(t, "again", c, s, pick)
		wantShrinkPlan(t, "again", c, s, plan...)
	}
}
