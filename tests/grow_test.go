package tests

import (
	"math"
	"slices"
	"testing"

	"loop.example/hive/impl"
)

// growCfg has works 0 of 4 and 0 with rank 7, 1 of 2 and 1 with rank 4, 2 of 0 and 3 with rank 1, and groups 0 of 6 and 6,
// 1 of 4 and 2, 2 of 2 and 4: the last two are as great together.
func growCfg() impl.Cfg {
	return rankedCfg([]impl.CfgWork{ranked(4, 0, 7), ranked(2, 1, 4), ranked(0, 3, 1)}, size(6, 6), size(4, 2), size(2, 4))
}

func wantGrowLeft(t *testing.T, why string, c impl.Cfg, s impl.State, want ...int) {
	t.Helper()
	if got := impl.GrowLeft(c, s); !slices.Equal(got, want) {
		t.Errorf("%s: GrowLeft is %v, want %v: %v of %v", why, got, want, s, c)
	}
}

func wantGrowPick(t *testing.T, why string, c impl.Cfg, s impl.State, want int) {
	t.Helper()
	if got := impl.GrowPick(c, s); got != want {
		t.Errorf("%s: GrowPick is %d, want %d: %v of %v", why, got, want, s, c)
	}
}

func wantGrowPlan(t *testing.T, why string, c impl.Cfg, s impl.State, want ...impl.Write) {
	t.Helper()
	if got := impl.GrowPlan(c, s); !slices.Equal(got, want) {
		t.Errorf("%s: GrowPlan is %v, want %v: %v of %v", why, got, want, s, c)
	}
}

// takeFrom is what is left of a bin, in each measure but not below 0.
func takeFrom(left impl.Size, one impl.Size) impl.Size {
	return size(max(0, left.Cpu-one.Cpu), max(0, left.Mem-one.Mem))
}

func isIn(one impl.Size, room impl.Size) bool { return one.Cpu <= room.Cpu && one.Mem <= room.Mem }

// modelBins is the chapter's bins once more, for what is ok.
func modelBins(c impl.Cfg, s impl.State) []impl.Size {
	var list []impl.Size
	for _, n := range s.Nodes {
		left := modelFree(c, s, n)
		for _, p := range s.Pods {
			if p.Node == 0 && p.Nom == n.Id {
				left = takeFrom(left, c.Works[p.Work].Size)
			}
		}
		list = append(list, left)
	}
	for g, stands := range s.Groups {
		for range stands.Asked {
			list = append(list, c.Groups[g].Size)
		}
	}
	return list
}

// modelGrowLeft is the chapter's GrowLeft once more, for what is ok, bin by bin: each takes whom it can of those whom the
// bins ahead of it left.
func modelGrowLeft(c impl.Cfg, s impl.State) []int {
	var list []impl.Pod
	for _, pod := range modelOrder(c, s) {
		if p, _ := podOf(s, pod); p.Nom == 0 {
			list = append(list, p)
		}
	}
	for _, left := range modelBins(c, s) {
		var others []impl.Pod
		for _, p := range list {
			if one := c.Works[p.Work].Size; isIn(one, left) {
				left = takeFrom(left, one)
			} else {
				others = append(others, p)
			}
		}
		list = others
	}
	var ids []int
	for _, p := range list {
		ids = append(ids, p.Id)
	}
	return ids
}

// isAskable says whether a node of the group can be asked for.
func isAskable(c impl.Cfg, s impl.State, group int) bool {
	return s.Groups[group].Rest == 0 && nodesOf(s, group)+s.Groups[group].Asked < c.Groups[group].Max
}

func isShort(c impl.Cfg, s impl.State, group int) bool {
	return nodesOf(s, group)+s.Groups[group].Asked < c.Groups[group].Min
}

// hostsOf is the groups of which a node can be asked for and that hold the pod.
func hostsOf(c impl.Cfg, s impl.State, pod int) []int {
	p, _ := podOf(s, pod)
	var list []int
	for group, g := range c.Groups {
		if isAskable(c, s, group) && isIn(c.Works[p.Work].Size, g.Size) {
			list = append(list, group)
		}
	}
	return list
}

// modelGrowPick is the chapter's GrowPick once more, for what is ok.
func modelGrowPick(c impl.Cfg, s impl.State) int {
	for group := range c.Groups {
		if isShort(c, s, group) && isAskable(c, s, group) {
			return group
		}
	}
	for _, pod := range modelGrowLeft(c, s) {
		hosts := hostsOf(c, s, pod)
		slices.SortStableFunc(hosts, func(a int, b int) int {
			return c.Groups[a].Size.Cpu + c.Groups[a].Size.Mem - c.Groups[b].Size.Cpu - c.Groups[b].Size.Mem
		})
		if len(hosts) > 0 {
			return hosts[0]
		}
	}
	return -1
}

// modelGrow is the chapter's GrowPlan once more, for what is ok.
func modelGrow(c impl.Cfg, s impl.State) []impl.Write {
	if group := modelGrowPick(c, s); group >= 0 {
		return []impl.Write{ask(group)}
	}
	return nil
}

// isNeeded says whether a node of the group is needed, as P9 says: it has fewer than Min, or somebody is left whom it holds.
func isNeeded(c impl.Cfg, s impl.State, group int, left []int) bool {
	return isShort(c, s, group) || slices.ContainsFunc(left, func(pod int) bool {
		p, _ := podOf(s, pod)
		return isIn(c.Works[p.Work].Size, c.Groups[group].Size)
	})
}

// wantGrown asks of what is ok what the models say, and P9 and P4.
func wantGrown(t *testing.T, why string, c impl.Cfg, s impl.State) {
	t.Helper()
	if !impl.StateOk(c, s) {
		t.Fatalf("%s: not ok: %v of %v", why, s, c)
	}
	left := modelGrowLeft(c, s)
	wantGrowLeft(t, why, c, s, left...)
	wantGrowPick(t, why, c, s, modelGrowPick(c, s))
	wantGrowPlan(t, why, c, s, modelGrow(c, s)...)
	wantGrownJustly(t, why, c, s, left)
}

// wantGrownJustly is P9: who is asked for is needed, not more than Max, of a group that does not rest; where none is asked
// for, no such group is needed. Behind the plan all is as it was but for that one, and ok.
func wantGrownJustly(t *testing.T, why string, c impl.Cfg, s impl.State, left []int) {
	t.Helper()
	list, behind := impl.GrowPlan(c, s), copyState(s)
	for group := range c.Groups {
		asked, could := slices.Contains(list, ask(group)), isAskable(c, s, group) && isNeeded(c, s, group, left)
		if asked && !could || len(list) == 0 && could {
			t.Errorf("%s: of the group %d is asked for %v, which is needed %v: %v of %v", why, group, asked, could, s, c)
		}
		if asked {
			behind.Groups[group].Asked++
		}
	}
	got, n := impl.WriteAll(c, s, list)
	if len(list) > 1 || n != len(list) || !sameState(got, behind) || !impl.StateOk(c, got) {
		t.Errorf("%s: behind %v is %v and %d, want %v: %v of %v", why, list, got, n, behind, s, c)
	}
}

// wantAskingEnds asks again and again, till no more is asked for, each time justly, and tells of which groups it was.
func wantAskingEnds(t *testing.T, why string, c impl.Cfg, s impl.State) []int {
	t.Helper()
	var groups []int
	for range impl.CfgNodes(c) {
		wantGrown(t, why, c, s)
		if group := impl.GrowPick(c, s); group >= 0 {
			groups = append(groups, group)
			s, _ = impl.WriteAll(c, s, impl.GrowPlan(c, s))
		}
	}
	wantGrown(t, why, c, s)
	wantGrowPlan(t, why+", in the end", c, s)
	return groups
}

// asking is what there is with as many asked for of each group.
func asking(s impl.State, asked ...int) impl.State {
	s = copyState(s)
	for i, n := range asked {
		s.Groups[i].Asked = n
	}
	return s
}

func TestGrowLeft(t *testing.T) {
	for _, x := range []struct {
		why   string
		nodes []int // of 6 and 6, 4 and 2, 2 and 4; below 0 they boot
		asked []int
		pods  []impl.Pod // of 4 and 0, 2 and 1, 0 and 3, of a lower rank each
		want  []int
	}{
		{"nobody", nil, nil, nil, nil},
		{"nobody waits", []int{0}, nil, []impl.Pod{isOn(0, 1), isOn(1, 1)}, nil},
		{"no node", nil, nil, []impl.Pod{waits(1)}, []int{1}},
		{"no node, each rank", nil, nil, []impl.Pod{waits(2), waits(1), waits(0), waits(1)}, []int{3, 2, 4, 1}},
		{"all are held", []int{0}, nil, []impl.Pod{waits(0), waits(1), waits(2)}, nil},
		{"all are held, by two", []int{1, 2}, nil, []impl.Pod{waits(2), waits(0)}, nil},
		{"none is held", []int{2, 2}, nil, []impl.Pod{waits(0), waits(0)}, []int{1, 2}},
		{"some are held", []int{1}, nil, []impl.Pod{waits(0), waits(1)}, []int{2}},
		{"some are held, the higher rank first", []int{1}, nil, []impl.Pod{waits(1), waits(0)}, []int{1}},
		{"some are held, the lesser number first", []int{1, 1}, nil, []impl.Pod{waits(0), waits(0), waits(0), waits(0)}, []int{3, 4}},
		{"a later one fits where an earlier one did not", []int{2}, nil, []impl.Pod{waits(0), waits(1)}, []int{1}},
		{"two later ones fit where earlier ones did not", []int{2}, nil, []impl.Pod{waits(0), waits(0), waits(1), waits(2)}, []int{1, 2}},
		{"one of equal rank fits behind one that did not", []int{2}, nil, []impl.Pod{waits(1), waits(1), waits(2)}, []int{2}},
		{"a bin is filled just", []int{0}, nil, []impl.Pod{waits(2), waits(2)}, nil},
		{"a bin is filled just, one more", []int{0}, nil, []impl.Pod{waits(2), waits(2), waits(2)}, []int{3}},
		{"a bin is filled just in both measures", []int{2}, nil, []impl.Pod{waits(1), waits(2)}, nil},
		{"a bin is filled just in both, one more", []int{2}, nil, []impl.Pod{waits(1), waits(2), waits(2)}, []int{3}},
		{"too little Cpu", []int{1}, nil, []impl.Pod{waits(1), waits(1), waits(1)}, []int{3}},
		{"too little Mem", []int{1}, nil, []impl.Pod{waits(2)}, []int{1}},

		{"a node that boots", []int{-1}, nil, []impl.Pod{waits(0), waits(1), waits(2)}, nil},
		{"a node that boots is filled", []int{-2}, nil, []impl.Pod{waits(0), waits(0)}, []int{2}},
		{"a node that boots and one that lives", []int{-2, 1}, nil, []impl.Pod{waits(0), waits(0)}, nil},
		{"one that is asked for", nil, []int{1, 0, 0}, []impl.Pod{waits(0), waits(1), waits(2)}, nil},
		{"one that is asked for is filled", nil, []int{0, 1, 0}, []impl.Pod{waits(0), waits(0)}, []int{2}},
		{"one that is asked for is too little", nil, []int{0, 0, 1}, []impl.Pod{waits(0)}, []int{1}},
		{"two that are asked for", nil, []int{0, 2, 0}, []impl.Pod{waits(0), waits(0), waits(0)}, []int{3}},
		{"each is one's own", nil, []int{0, 3, 0}, []impl.Pod{waits(0), waits(0), waits(0)}, nil},
		{"of each group is asked for", nil, []int{1, 1, 1}, []impl.Pod{waits(0), waits(0), waits(1), waits(1), waits(2)}, nil},
		{"one lives, one boots, one is asked for", []int{1, -2}, []int{0, 1, 0}, []impl.Pod{waits(0), waits(0), waits(0), waits(0)}, []int{4}},

		// A lesser one ahead of a greater one holds all four, the greater one ahead does not: so the order of bins is seen.
		{"the lesser node ahead", []int{2, 0}, nil, []impl.Pod{waits(1), waits(2), waits(2), waits(2)}, nil},
		{"the greater node ahead", []int{0, 2}, nil, []impl.Pod{waits(1), waits(2), waits(2), waits(2)}, []int{4}},
		{"the greater node ahead boots", []int{-1, 2}, nil, []impl.Pod{waits(1), waits(2), waits(2), waits(2)}, []int{4}},
		{"the lesser node ahead boots", []int{-3, 0}, nil, []impl.Pod{waits(1), waits(2), waits(2), waits(2)}, nil},
		{"a node is ahead of what is asked for", []int{2}, []int{1, 0, 0}, []impl.Pod{waits(1), waits(2), waits(2), waits(2)}, nil},
		{"a greater node is ahead of what is asked for", []int{0}, []int{0, 0, 1}, []impl.Pod{waits(1), waits(2), waits(2), waits(2)}, []int{4}},
		{"one that boots is ahead of what is asked for", []int{-3}, []int{1, 0, 0}, []impl.Pod{waits(1), waits(2), waits(2), waits(2)}, nil},
		{"what is asked for is group by group", nil, []int{1, 0, 1}, []impl.Pod{waits(1), waits(2), waits(2), waits(2)}, []int{4}},

		{"pods on it", []int{0}, nil, []impl.Pod{isOn(0, 1), waits(0), waits(1)}, []int{2}},
		{"pods on it, filled just", []int{0}, nil, []impl.Pod{isOn(0, 1), isOn(2, 1), waits(1)}, nil},
		{"one that starts on it", []int{0}, nil, []impl.Pod{{Node: 1, Wait: 3}, waits(0), waits(1)}, []int{2}},
		{"pods on another", []int{0, 1}, nil, []impl.Pod{isOn(0, 2), waits(0), waits(1), waits(1)}, []int{4}},

		{"one has a place", []int{1}, nil, []impl.Pod{waitsFor(0, 1)}, nil},
		{"one has a place where there is no room", []int{1}, nil, []impl.Pod{isOn(0, 1), waitsFor(0, 1)}, nil},
		{"one has a place where it never has room", []int{2}, nil, []impl.Pod{waitsFor(0, 1)}, nil},
		{"a place leaves less", []int{1}, nil, []impl.Pod{waitsFor(0, 1), waits(0)}, []int{2}},
		{"a place leaves less for a lesser number", []int{1}, nil, []impl.Pod{waits(0), waitsFor(0, 1)}, []int{1}},
		{"a place of lower rank leaves less", []int{1}, nil, []impl.Pod{waits(0), waitsFor(1, 1)}, []int{1}},
		{"a place of higher rank leaves less", []int{1}, nil, []impl.Pod{waits(1), waitsFor(0, 1)}, []int{1}},
		{"a place leaves enough", []int{0}, nil, []impl.Pod{waitsFor(1, 1), waits(0), waits(2)}, nil},
		{"a place elsewhere", []int{1, 2}, nil, []impl.Pod{waitsFor(1, 2), waits(0), waits(2)}, nil},
		{"a place takes nothing for itself besides", []int{1, 0}, nil, []impl.Pod{waitsFor(0, 1), waits(0), waits(1)}, nil},
		{"a place where there is no room takes nothing elsewhere", []int{1, 1}, nil, []impl.Pod{isOn(0, 1), waitsFor(0, 1), waits(0)}, nil},
		{"two places on one node", []int{0}, nil, []impl.Pod{waitsFor(1, 1), waitsFor(1, 1), waits(0)}, []int{3}},
		{"two places on one node leave enough", []int{0}, nil, []impl.Pod{waitsFor(1, 1), waitsFor(1, 1), waits(1), waits(2)}, nil},
		{"two places of two ranks on one node", []int{0}, nil, []impl.Pod{waitsFor(0, 1), waitsFor(2, 1), waits(1), waits(1)}, []int{4}},
		{"places above what is free leave no less than nothing", []int{0}, nil, []impl.Pod{waitsFor(0, 1), waitsFor(0, 1), waits(2), waits(2)}, nil},
		{"places above what is free, with pods on it", []int{0}, nil, []impl.Pod{isOn(0, 1), waitsFor(0, 1), waits(2), waits(2), waits(1)}, []int{5}},
		{"places above what is free in the other measure", []int{1}, nil, []impl.Pod{waitsFor(2, 1), waits(0), waits(1)}, []int{3}},
		{"places above what is free in both", []int{2}, nil, []impl.Pod{waitsFor(0, 1), waitsFor(2, 1), waitsFor(2, 1), waits(1), waits(2)}, []int{4, 5}},
		{"places above what is free leave other bins", []int{1}, []int{0, 1, 0}, []impl.Pod{waitsFor(0, 1), waitsFor(0, 1), waits(0), waits(1)}, []int{4}},
		{"all have places", []int{1}, nil, []impl.Pod{waitsFor(0, 1), waitsFor(1, 1), waitsFor(2, 1)}, nil},
	} {
		s := asking(hosting(growCfg(), x.nodes, x.pods...), x.asked...)
		wantGrowLeft(t, x.why, growCfg(), s, x.want...)
		wantAskingEnds(t, x.why, growCfg(), s)
	}
}

func TestGrowLeftOfOthers(t *testing.T) {
	wantGrowLeft(t, "plain", plainCfg(), plainState())
	wantGrowLeft(t, "wide", wideCfg(), wideState())
	wantGrowLeft(t, "tight", tightCfg(), tightState())
	for _, x := range okStates() {
		wantAskingEnds(t, x.why, x.c, x.s)
	}
}

// growCfgOf is growCfg with such a Min and Max of each group.
func growCfgOf(least [3]int, most [3]int) impl.Cfg {
	c := growCfg()
	for i := range c.Groups {
		c.Groups[i].Min, c.Groups[i].Max = least[i], most[i]
	}
	return c
}

func TestGrowPick(t *testing.T) {
	many, none := [3]int{8, 8, 8}, [3]int{}
	for _, x := range []struct {
		why    string
		least  [3]int
		most   [3]int
		nodes  []int
		stands [3]impl.GroupState
		pods   []impl.Pod
		want   int
	}{
		{"nobody", none, many, nil, [3]impl.GroupState{}, nil, -1},
		{"nobody is left", none, many, []int{0}, [3]impl.GroupState{}, []impl.Pod{waits(0), waits(1), waits(2)}, -1},
		{"nobody is left beside one that boots", none, many, []int{-1}, [3]impl.GroupState{}, []impl.Pod{waits(0), waits(1), waits(2)}, -1},
		{"nobody is left beside one that is asked for", none, many, nil, [3]impl.GroupState{{Asked: 1}}, []impl.Pod{waits(0), waits(1), waits(2)}, -1},
		{"one that has a place without room", none, many, []int{1}, [3]impl.GroupState{}, []impl.Pod{isOn(0, 1), waitsFor(0, 1)}, -1},

		{"the first has too few", [3]int{1, 0, 0}, many, nil, [3]impl.GroupState{}, nil, 0},
		{"the middle one has too few", [3]int{0, 1, 0}, many, nil, [3]impl.GroupState{}, nil, 1},
		{"the last has too few", [3]int{0, 0, 1}, many, nil, [3]impl.GroupState{}, nil, 2},
		{"two have too few", [3]int{0, 3, 2}, many, nil, [3]impl.GroupState{}, nil, 1},
		{"all have too few, the last most of all", [3]int{1, 1, 5}, many, nil, [3]impl.GroupState{}, nil, 0},
		{"one has one fewer than Min", [3]int{0, 3, 0}, many, []int{1, 1}, [3]impl.GroupState{}, nil, 1},
		{"one has as many as Min", [3]int{0, 2, 0}, many, []int{1, 1}, [3]impl.GroupState{}, nil, -1},
		{"one has more than Min", [3]int{0, 1, 0}, many, []int{1, 1}, [3]impl.GroupState{}, nil, -1},
		{"others do not count", [3]int{0, 1, 0}, many, []int{0, 2, 2}, [3]impl.GroupState{{Asked: 1}, {}, {Asked: 2}}, nil, 1},
		{"as many as Min with one that boots", [3]int{0, 2, 0}, many, []int{1, -2}, [3]impl.GroupState{}, nil, -1},
		{"as many as Min with one that is asked for", [3]int{0, 2, 0}, many, []int{1}, [3]impl.GroupState{{}, {Asked: 1}}, nil, -1},
		{"one fewer with one that is asked for", [3]int{0, 3, 0}, many, []int{1}, [3]impl.GroupState{{}, {Asked: 1}}, nil, 1},
		{"too few, though all are asked for", [3]int{0, 0, 3}, many, nil, [3]impl.GroupState{{}, {}, {Asked: 2}}, nil, 2},
		{"Min is Max", [3]int{0, 2, 0}, [3]int{8, 2, 8}, []int{1}, [3]impl.GroupState{}, nil, 1},
		{"Min is Max, and there are as many", [3]int{0, 2, 0}, [3]int{8, 2, 8}, []int{1}, [3]impl.GroupState{{}, {Asked: 1}}, nil, -1},

		{"too few, and it rests", [3]int{0, 1, 0}, many, nil, [3]impl.GroupState{{}, {Rest: 1}}, nil, -1},
		{"too few, and it rests for long", [3]int{0, 1, 0}, many, nil, [3]impl.GroupState{{}, {Rest: 8, Fails: 3}}, nil, -1},
		{"too few, it failed and rests no more", [3]int{0, 1, 0}, many, nil, [3]impl.GroupState{{}, {Fails: 3}}, nil, 1},
		{"two have too few, the first rests", [3]int{2, 0, 1}, many, nil, [3]impl.GroupState{{Rest: 1}}, nil, 2},
		{"two have too few, the last rests", [3]int{2, 0, 1}, many, nil, [3]impl.GroupState{{}, {}, {Rest: 1}}, nil, 0},
		{"all have too few and rest", [3]int{1, 1, 1}, many, nil, [3]impl.GroupState{{Rest: 1}, {Rest: 8}, {Rest: 3}}, nil, -1},
		{"the others rest", [3]int{0, 1, 0}, many, nil, [3]impl.GroupState{{Rest: 1}, {}, {Rest: 1}}, nil, 1},

		{"too few goes ahead of who is left", [3]int{0, 0, 1}, many, nil, [3]impl.GroupState{}, []impl.Pod{waits(0)}, 2},
		{"too few goes ahead of who is held", [3]int{0, 0, 1}, many, []int{0}, [3]impl.GroupState{}, []impl.Pod{waits(0)}, 2},
		{"a greater one that has too few goes ahead of the least", [3]int{1, 0, 0}, many, nil, [3]impl.GroupState{}, []impl.Pod{waits(1)}, 0},
		{"too few and rests, one is left", [3]int{1, 0, 0}, many, nil, [3]impl.GroupState{{Rest: 1}}, []impl.Pod{waits(2)}, 2},
		{"too few and rests, one is left whom only it holds", [3]int{1, 0, 0}, [3]int{8, 0, 8}, nil, [3]impl.GroupState{{Rest: 1}}, []impl.Pod{waits(0)}, -1},
		{"too few and rests, another has too few, one is left", [3]int{0, 1, 1}, many, nil, [3]impl.GroupState{{}, {Rest: 2}}, []impl.Pod{waits(0)}, 2},

		{"one that two hold, the lesser one", none, many, nil, [3]impl.GroupState{}, []impl.Pod{waits(0)}, 1},
		{"one that two others hold, the lesser one", none, many, nil, [3]impl.GroupState{}, []impl.Pod{waits(2)}, 2},
		{"one that all hold, the first of equal ones", none, many, nil, [3]impl.GroupState{}, []impl.Pod{waits(1)}, 1},
		{"one that all hold, the first of equal ones rests", none, many, nil, [3]impl.GroupState{{}, {Rest: 1}}, []impl.Pod{waits(1)}, 2},
		{"one that all hold, the first of equal ones is full", none, [3]int{8, 1, 8}, []int{1}, [3]impl.GroupState{}, []impl.Pod{isOn(0, 1), waits(1)}, 2},
		{"one that all hold, the last of equal ones rests", none, many, nil, [3]impl.GroupState{{}, {}, {Rest: 1}}, []impl.Pod{waits(1)}, 1},
		{"one that all hold, the equal ones rest", none, many, nil, [3]impl.GroupState{{}, {Rest: 8}, {Rest: 1}}, []impl.Pod{waits(1)}, 0},
		{"one that two hold, the lesser one rests", none, many, nil, [3]impl.GroupState{{}, {Rest: 1}}, []impl.Pod{waits(0)}, 0},
		{"one that two hold, the greater one rests", none, many, nil, [3]impl.GroupState{{Rest: 1}}, []impl.Pod{waits(0)}, 1},
		{"one that two hold, both rest", none, many, nil, [3]impl.GroupState{{Rest: 1}, {Rest: 1}}, []impl.Pod{waits(0)}, -1},
		{"all rest", none, many, nil, [3]impl.GroupState{{Rest: 1}, {Rest: 1}, {Rest: 1}}, []impl.Pod{waits(0), waits(1), waits(2)}, -1},
		{"it failed and rests no more", none, many, nil, [3]impl.GroupState{{}, {Fails: 2}}, []impl.Pod{waits(0)}, 1},

		{"just below Max, all nodes", none, [3]int{8, 2, 8}, []int{1}, [3]impl.GroupState{}, []impl.Pod{isOn(0, 1), waits(0)}, 1},
		{"just below Max, with one that boots", none, [3]int{8, 3, 8}, []int{1, -2}, [3]impl.GroupState{}, []impl.Pod{waits(0), waits(0), waits(0)}, 1},
		{"just below Max, with one that is asked for", none, [3]int{8, 3, 8}, []int{1}, [3]impl.GroupState{{}, {Asked: 1}}, []impl.Pod{waits(0), waits(0), waits(0)}, 1},
		{"Max, all nodes", none, [3]int{8, 2, 8}, []int{1, 1}, [3]impl.GroupState{}, []impl.Pod{waits(0), waits(0), waits(0)}, 0},
		{"Max, with one that boots", none, [3]int{8, 2, 8}, []int{1, -2}, [3]impl.GroupState{}, []impl.Pod{waits(0), waits(0), waits(0)}, 0},
		{"Max, with one that is asked for", none, [3]int{8, 2, 8}, []int{1}, [3]impl.GroupState{{}, {Asked: 1}}, []impl.Pod{waits(0), waits(0), waits(0)}, 0},
		{"Max, all asked for", none, [3]int{8, 2, 8}, nil, [3]impl.GroupState{{}, {Asked: 2}}, []impl.Pod{waits(0), waits(0), waits(0)}, 0},
		{"Max of all that hold it", none, [3]int{0, 1, 8}, []int{1}, [3]impl.GroupState{}, []impl.Pod{waits(0), waits(0)}, -1},
		{"Max of all", none, [3]int{1, 1, 1}, []int{1, 0, 2}, [3]impl.GroupState{}, []impl.Pod{waits(0), waits(0), waits(0), waits(1), waits(2), waits(2), waits(2)}, -1},
		{"Max is 0 of the lesser one", none, [3]int{8, 0, 8}, nil, [3]impl.GroupState{}, []impl.Pod{waits(0)}, 0},
		{"Max is 0 of all", none, none, nil, [3]impl.GroupState{}, []impl.Pod{waits(0), waits(1), waits(2)}, -1},

		{"the first who is left", none, many, nil, [3]impl.GroupState{}, []impl.Pod{waits(2), waits(0)}, 1},
		{"the first of one rank", none, many, nil, [3]impl.GroupState{}, []impl.Pod{waits(2), waits(1)}, 1},
		{"the first is held, the second is left", none, many, []int{1}, [3]impl.GroupState{}, []impl.Pod{waits(2), waits(0)}, 2},
		{"the first has a place, the second is left", none, many, []int{1}, [3]impl.GroupState{}, []impl.Pod{waits(2), waitsFor(0, 1)}, 2},
		{"no group can hold the first", none, [3]int{0, 0, 8}, nil, [3]impl.GroupState{}, []impl.Pod{waits(0), waits(2)}, 2},
		{"those that could hold the first rest", none, many, nil, [3]impl.GroupState{{Rest: 2}, {Rest: 1}}, []impl.Pod{waits(0), waits(1)}, 2},
		{"those that could hold the first two rest", none, [3]int{8, 0, 8}, nil, [3]impl.GroupState{{Rest: 2}}, []impl.Pod{waits(0), waits(0), waits(2)}, 2},
		{"the first none, the second the lesser one", none, [3]int{0, 0, 8}, []int{2}, [3]impl.GroupState{}, []impl.Pod{waits(0), waits(1), waits(1), waits(2)}, 2},
		{"the first is left for a place of lower rank", none, many, []int{1}, [3]impl.GroupState{}, []impl.Pod{waits(0), waitsFor(1, 1)}, 1},
	} {
		c, s := growCfgOf(x.least, x.most), hosting(growCfg(), x.nodes, x.pods...)
		s.Groups = x.stands[:]
		wantGrowPick(t, x.why, c, s, x.want)
		wantAskingEnds(t, x.why, c, s)
	}
}

// Each group by itself, of each size beside the pod's: a node is asked for if it fits, in both measures.
func TestGrowPickFits(t *testing.T) {
	for _, one := range []impl.Size{size(3, 2), size(0, 4), size(5, 0), size(most, 1), size(1, most), size(most, most)} {
		for _, cpu := range []int{0, one.Cpu - 1, one.Cpu, one.Cpu + 1, most} {
			for _, mem := range []int{0, one.Mem - 1, one.Mem, one.Mem + 1, most} {
				if !impl.SizeOk(size(cpu, mem)) {
					continue
				}
				c := rankedCfg([]impl.CfgWork{ranked(one.Cpu, one.Mem, 0)}, size(cpu, mem))
				want := -1
				if cpu >= one.Cpu && mem >= one.Mem {
					want = 0
				}
				s := hosting(c, nil, waits(0))
				wantGrowPick(t, "one group", c, s, want)
				wantGrowLeft(t, "one group", c, s, 1)
				if s := asking(s, 1); want == 0 {
					wantGrowLeft(t, "one group, asked for", c, s)
				} else {
					wantGrowLeft(t, "one group, asked for", c, s, 1)
				}
			}
		}
	}
}

// Three groups of every small size: of those that hold the pod the least, of equal ones the first.
func TestGrowPickLeast(t *testing.T) {
	works := []impl.CfgWork{ranked(1, 2, 0)}
	for way := range 12 * 12 * 12 {
		var rooms []impl.Size
		for left := way; len(rooms) < 3; left /= 12 {
			rooms = append(rooms, size(left%12%4, left%12/4+1))
		}
		c := rankedCfg(works, rooms...)
		want := -1
		for together := range 10 {
			for group, room := range rooms {
				if want < 0 && room.Cpu+room.Mem == together && isIn(size(1, 2), room) {
					want = group
				}
			}
		}
		wantGrowPick(t, "every size", c, hosting(c, nil, waits(0)), want)
	}
	far := rankedCfg(works, size(most, most), size(most-1, most), size(most, most-1))
	wantGrowPick(t, "great sizes", far, hosting(far, nil, waits(0)), 1)
}

func TestGrowPlan(t *testing.T) {
	c := growCfg()
	wantGrowPlan(t, "nobody", c, hosting(c, nil))
	wantGrowPlan(t, "one that two hold", c, hosting(c, nil, waits(0)), ask(1))
	wantGrowPlan(t, "three are left", c, hosting(c, nil, waits(0), waits(0), waits(0)), ask(1))
	wantGrowPlan(t, "the last group", c, hosting(c, nil, waits(2)), ask(2))
	wantGrowPlan(t, "all are held", c, hosting(c, []int{0}, waits(0), waits(1)))
	c = growCfgOf([3]int{3, 0, 2}, [3]int{3, 0, 4})
	wantGrowPlan(t, "three too few", c, hosting(c, nil), ask(0))
	wantGrowPlan(t, "too few, and it is the last", c, hosting(c, []int{0, -1, 0}), ask(2))
	wantGrowPlan(t, "too few of none", c, hosting(c, []int{0, 0, 0, 2, -3}))
	wantGrowPlan(t, "plain", plainCfg(), plainState())
	wantGrowPlan(t, "plain, open", plainCfg(), impl.StateOpen(plainCfg()))
	wantGrowPlan(t, "wide", wideCfg(), wideState())
	wantGrowPlan(t, "wide, open", wideCfg(), impl.StateOpen(wideCfg()), ask(0))
	wantGrowPlan(t, "tight", tightCfg(), tightState())
}

// Asked again and again, one after another: those that have too few, then for whoever is left, till nobody is or nothing may be.
func TestGrowAgainAndAgain(t *testing.T) {
	for _, x := range []struct {
		why   string
		least [3]int
		most  [3]int
		nodes []int
		rests [3]int
		pods  []impl.Pod
		want  []int
	}{
		{"nothing", [3]int{}, [3]int{8, 8, 8}, nil, [3]int{}, nil, nil},
		{"Min of each", [3]int{1, 2, 3}, [3]int{8, 8, 8}, nil, [3]int{}, nil, []int{0, 1, 1, 2, 2, 2}},
		{"Min of each, with some there", [3]int{1, 2, 3}, [3]int{8, 8, 8}, []int{2, -2, 0}, [3]int{}, nil, []int{1, 2, 2}},
		{"Min of each, one rests", [3]int{1, 2, 3}, [3]int{8, 8, 8}, nil, [3]int{0, 1, 0}, nil, []int{0, 2, 2, 2}},
		{"Min of each, which is Max", [3]int{8, 8, 8}, [3]int{8, 8, 8}, nil, [3]int{}, []impl.Pod{waits(0)}, []int{0, 0, 0, 0, 0, 0, 0, 0, 1, 1, 1, 1, 1, 1, 1, 1, 2, 2, 2, 2, 2, 2, 2, 2}},
		{"Min is enough for all", [3]int{1, 0, 0}, [3]int{8, 8, 8}, nil, [3]int{}, []impl.Pod{waits(0), waits(1), waits(2)}, []int{0}},
		{"Min is not enough", [3]int{0, 0, 1}, [3]int{8, 8, 8}, nil, [3]int{}, []impl.Pod{waits(0), waits(1), waits(2)}, []int{2, 1}},
		{"one for each", [3]int{}, [3]int{8, 8, 8}, nil, [3]int{}, []impl.Pod{waits(0), waits(0), waits(0)}, []int{1, 1, 1}},
		{"one for two", [3]int{}, [3]int{8, 8, 8}, nil, [3]int{}, []impl.Pod{waits(1), waits(1), waits(1)}, []int{1, 1}},
		{"by rank", [3]int{}, [3]int{8, 8, 8}, nil, [3]int{}, []impl.Pod{waits(2), waits(1), waits(0)}, []int{1, 1, 2}},
		{"the lesser one up to Max", [3]int{}, [3]int{8, 2, 8}, nil, [3]int{}, []impl.Pod{waits(0), waits(0), waits(0), waits(0)}, []int{1, 1, 0, 0}},
		{"all that hold them up to Max", [3]int{}, [3]int{1, 2, 8}, nil, [3]int{}, []impl.Pod{waits(0), waits(0), waits(0), waits(0)}, []int{1, 1, 0}},
		{"all that hold them up to Max, and one behind", [3]int{}, [3]int{1, 1, 8}, nil, [3]int{}, []impl.Pod{waits(0), waits(0), waits(0), waits(2), waits(2), waits(2)}, []int{1, 0, 2}},
		{"nobody holds the first", [3]int{}, [3]int{0, 0, 8}, nil, [3]int{}, []impl.Pod{waits(0), waits(1), waits(1)}, []int{2, 2}},
		{"all rest", [3]int{1, 1, 1}, [3]int{8, 8, 8}, nil, [3]int{1, 1, 1}, []impl.Pod{waits(0), waits(1), waits(1)}, nil},
		{"one with a place beside one that is left", [3]int{}, [3]int{8, 8, 8}, []int{1}, [3]int{}, []impl.Pod{waitsFor(0, 1), waits(0), waits(0)}, []int{1, 1}},
	} {
		c, s := growCfgOf(x.least, x.most), hosting(growCfg(), x.nodes, x.pods...)
		for group, rest := range x.rests {
			s.Groups[group].Rest = rest
		}
		if got := wantAskingEnds(t, x.why, c, s); !slices.Equal(got, x.want) {
			t.Errorf("%s: of the groups %v is asked for, want %v: %v of %v", x.why, got, x.want, s, c)
		}
	}
}

// Pods of three ranks that wait, have a place and are on a node, in every order of their numbers, beside bins of each kind.
func TestGrowInEveryOrder(t *testing.T) {
	for _, x := range []struct {
		nodes []int
		asked []int
	}{
		{[]int{1, 2}, nil},
		{[]int{2, 0}, nil},
		{[]int{1, 1, -3}, nil},
		{[]int{2, 1}, []int{0, 0, 1}},
	} {
		for way := range 12 * 12 * 12 * 12 {
			var pods []impl.Pod
			for left := way; len(pods) < 4; left /= 12 {
				work, at := left%3, left/3%4
				pods = append(pods, []impl.Pod{waits(work), waitsFor(work, 1), waitsFor(work, 2), isOn(work, 1)}[at])
			}
			s := asking(hosting(growCfg(), x.nodes, pods...), x.asked...)
			if !impl.StateOk(growCfg(), s) {
				continue
			}
			wantGrowLeft(t, "in every order", growCfg(), s, modelGrowLeft(growCfg(), s)...)
			wantGrowPick(t, "in every order", growCfg(), s, modelGrowPick(growCfg(), s))
			if way%17 == 0 {
				wantGrown(t, "in every order", growCfg(), s)
			}
		}
	}
}

// Bins of one kind, as nodes that live, boot and are asked for: each holds as many as there are slots, those behind are left.
func TestGrowLeftSlots(t *testing.T) {
	for _, one := range []impl.Size{size(2, 1), size(1, 3), size(0, 2), size(5, 0), size(1, 1)} {
		for _, room := range []impl.Size{size(0, 0), one, size(4, 2), size(5, 5), size(11, 7)} {
			c, slots := rankedCfg([]impl.CfgWork{ranked(one.Cpu, one.Mem, 0)}, room), impl.SizeSlots(one, room)
			for way := range 3 * 3 * 3 {
				nodes := slices.Concat(slices.Repeat([]int{0}, way%3), slices.Repeat([]int{-1}, way/3%3))
				for pods := range impl.CfgMaxPods + 1 {
					s := asking(hosting(c, nodes, slices.Repeat([]impl.Pod{waits(0)}, pods)...), way/9)
					var want []int
					for pod := (way%3+way/3%3+way/9)*slots + 1; pod <= pods; pod++ {
						want = append(want, pod)
					}
					wantGrowLeft(t, "slots", c, s, want...)
				}
			}
		}
	}
}

// As many pods and nodes as there may be, with the last numbers, of which each node holds one.
func TestGrowOfMost(t *testing.T) {
	c, s := tightCfg(), tightState()
	for i := range s.Pods {
		onNode(i, 0, 0)(&s)
		s.Pods[i].Work = i / 8
	}
	wantGrowLeft(t, "a node for each", c, s)
	s.Nodes = s.Nodes[:23]
	last := impl.StateMaxId - 1
	wantGrowLeft(t, "a node for each but one", c, s, last)
	wantGrowPick(t, "the group rests", c, s, -1)
	s.Groups[2].Rest = 0
	wantGrowPick(t, "the group rests no more", c, s, 2)
	s.Groups[2].Asked = 1
	wantGrowLeft(t, "one is asked for", c, s)
	s.Pods[0].Nom = s.Nodes[22].Id
	wantGrowLeft(t, "one has a place", c, s)
	s.Pods[1].Nom = s.Nodes[22].Id
	wantGrowLeft(t, "two have one place", c, s)
	wantGrown(t, "two have one place", c, s)

	s.Nodes, s.Groups = nil, make([]impl.GroupState, 3)
	s.Pods[0].Nom, s.Pods[1].Nom = 0, 0
	var order, all []int
	for i := range s.Pods {
		order, all = append(order, s.Pods[i].Id), append(all, i/8)
	}
	wantGrowLeft(t, "no node", c, s, order...)
	if got := wantAskingEnds(t, "no node", c, s); !slices.Equal(got, all) {
		t.Errorf("of the groups %v is asked for, want %v", got, all)
	}
	wantGrowLeft(t, "all are asked for", c, asking(s, 8, 8, 8))
	wantGrowLeft(t, "all but one are asked for", c, asking(s, 8, 7, 8), last)
	c.Works[2].Rank, c.Works[0].Rank = 9, 0
	wantGrowLeft(t, "all but one, of another rank", c, asking(s, 8, 8, 7), impl.StateMaxId-17)
}

// someLot is what there may be with small sizes: nodes of each kind, groups that rest, need a node, or are full.
func someLot(seed *uint32) (impl.Cfg, impl.State) {
	c := growCfg()
	if nextNumber(seed, 3) > 0 {
		c = someRanked(seed)
	}
	var nodes []int
	for range nextNumber(seed, 5) {
		g := nextNumber(seed, len(c.Groups))
		if nextNumber(seed, 3) == 0 {
			g = -1 - g
		}
		nodes = append(nodes, g)
	}
	s := hosting(c, nodes)
	for g := range c.Groups {
		stands, there := &s.Groups[g], nodesOf(s, g)
		stands.Asked = nextNumber(seed, 3) * nextNumber(seed, 2)
		stands.Rest = nextNumber(seed, 3) * nextNumber(seed, 2)
		c.Groups[g].Max = there + stands.Asked + nextNumber(seed, 3)
		c.Groups[g].Min = min(c.Groups[g].Max, nextNumber(seed, 4)*nextNumber(seed, 2)*nextNumber(seed, 2))
	}
	for range nextNumber(seed, 10) {
		s, _ = modelDo(c, s, makePod(nextNumber(seed, len(c.Works))))
	}
	for range len(nodes) * min(1, len(s.Pods)) {
		w := nom(s.Pods[nextNumber(seed, len(s.Pods))].Id, 1+nextNumber(seed, len(nodes)))
		if nextNumber(seed, 3) == 0 {
			w.Kind = impl.WriteBind
		}
		s, _ = modelDo(c, s, w)
	}
	return c, s
}

// growCounts is of which kinds what there is was.
type growCounts struct {
	nobody, held, short, first, lesser, behind, stuck int
}

func (n *growCounts) add(c impl.Cfg, s impl.State) {
	left, group := modelGrowLeft(c, s), modelGrowPick(c, s)
	switch {
	case group >= 0 && isShort(c, s, group):
		n.short++
	case group >= 0 && len(hostsOf(c, s, left[0])) == 0:
		n.behind++
	case group >= 0 && hostsOf(c, s, left[0])[0] != group:
		n.lesser++
	case group >= 0:
		n.first++
	case len(left) > 0:
		n.stuck++
	case len(modelOrder(c, s)) > 0:
		n.held++
	default:
		n.nobody++
	}
}

func TestGrowOfManyWays(t *testing.T) {
	seed := uint32(29)
	var n growCounts
	for range 8000 {
		c, s := someLot(&seed)
		wantGrown(t, "some", c, s)
		n.add(c, s)
	}
	if n.nobody < 200 || n.held < 500 || n.short < 500 || n.first < 500 || n.lesser < 100 || n.behind < 100 || n.stuck < 500 {
		t.Errorf("of too few kinds: %+v", n)
	}
	for range 300 {
		c, s := someLot(&seed)
		wantAskingEnds(t, "some", c, s)
	}
}

// Long ways of any changes, and what is asked for behind each of them.
func TestGrowOnLongWays(t *testing.T) {
	var n growCounts
	for seed := range uint32(3) {
		for _, x := range growCases() {
			s := x.s
			if !impl.StateOk(x.c, s) {
				continue
			}
			for range 100 {
				s, _ = impl.WriteDo(x.c, s, someWrite(&seed, s))
				wantGrowLeft(t, x.why, x.c, s, modelGrowLeft(x.c, s)...)
				wantGrowPlan(t, x.why, x.c, s, modelGrow(x.c, s)...)
				n.add(x.c, s)
				if nextNumber(&seed, 10) == 0 {
					wantGrown(t, x.why, x.c, s)
				}
			}
		}
	}
	if n.nobody < 100 || n.held < 100 || n.short < 100 || n.first < 50 || n.lesser < 20 || n.stuck < 20 {
		t.Errorf("of too few kinds: %+v", n)
	}
}

// comes is what there is when a node that was asked for has come, and boots for so long.
func comes(s impl.State, group int, boot int) impl.State {
	s = copyState(s)
	s.Groups[group].Asked--
	s.Nodes = append(s.Nodes, impl.Node{Id: s.NextNode, Group: group, Boot: boot})
	s.NextNode++
	return s
}

// someTurn is what there is behind a turn of who finds places for pods, or when a node that was asked for has come, or all
// have booted.
func someTurn(seed *uint32, c impl.Cfg, s impl.State) impl.State {
	s = copyState(s)
	switch group := nextNumber(seed, len(c.Groups)); nextNumber(seed, 4) {
	case 0:
		s, _ = impl.WriteAll(c, s, impl.BindPlan(c, s))
	case 1:
		s, _ = impl.WriteAll(c, s, impl.OustPlan(c, s))
	case 2:
		if s.Groups[group].Asked > 0 {
			s = comes(s, group, nextNumber(seed, 3))
		}
	case 3:
		for i := range s.Nodes {
			s.Nodes[i].Boot = 0
		}
	}
	return s
}

// The components in turns, with each node that is asked for coming at some time: in the end nobody is left whom a group
// could hold, and all that was asked for was so justly.
func TestGrowInTurns(t *testing.T) {
	seed := uint32(9)
	for range 200 {
		c, s := someLot(&seed)
		for range 60 {
			if nextNumber(&seed, 3) > 0 {
				s = someTurn(&seed, c, s)
				continue
			}
			wantGrown(t, "in turns", c, s)
			s, _ = impl.WriteAll(c, s, impl.GrowPlan(c, s))
		}
		for range impl.CfgNodes(c) {
			s, _ = impl.WriteAll(c, s, impl.GrowPlan(c, s))
		}
		wantGrowPlan(t, "in the end", c, s)
		wantGrown(t, "in the end", c, s)
	}
}

// wantNotGrown asks that nothing is told of what is not ok.
func wantNotGrown(t *testing.T, why string, c impl.Cfg, s impl.State) {
	t.Helper()
	if impl.StateOk(c, s) {
		t.Fatalf("%s: ok: %v", why, s)
	}
	wantGrowLeft(t, why, c, s)
	wantGrowPick(t, why, c, s, -1)
	wantGrowPlan(t, why, c, s)
}

func TestGrowOfWrongState(t *testing.T) {
	for _, x := range wrongStates() {
		wantNotGrown(t, x.why, x.c, x.s)
	}
	for _, spoil := range []func(c *impl.Cfg, s *impl.State){
		func(c *impl.Cfg, s *impl.State) { s.Groups[0].Asked = 8 }, // beside a node more than Max
		func(c *impl.Cfg, s *impl.State) { s.Groups[1].Asked = -1 },
		func(c *impl.Cfg, s *impl.State) { s.Groups[2].Asked = math.MaxInt },
		func(c *impl.Cfg, s *impl.State) { s.Groups[1].Rest = -1 },
		func(c *impl.Cfg, s *impl.State) { s.Groups[2].Rest = 9 },
		func(c *impl.Cfg, s *impl.State) { s.Groups[2].Fails = 4 },
		func(c *impl.Cfg, s *impl.State) { s.Groups = s.Groups[:2] },
		func(c *impl.Cfg, s *impl.State) { s.Groups = append(s.Groups, impl.GroupState{}) },
		func(c *impl.Cfg, s *impl.State) { s.Nodes[0].Group = 3 },
		func(c *impl.Cfg, s *impl.State) { s.Nodes[0].Boot = 3 },
		func(c *impl.Cfg, s *impl.State) { s.Pods[1].Nom = 2 },
		func(c *impl.Cfg, s *impl.State) { s.Pods[1].Work = 3 },
		func(c *impl.Cfg, s *impl.State) { s.Pods[1].Wait = 1 },
		func(c *impl.Cfg, s *impl.State) { s.Pods[0].Id = 2 },
		func(c *impl.Cfg, s *impl.State) { s.NextNode = 1 },
		func(c *impl.Cfg, s *impl.State) { c.Groups[1].Min = 9 },
		func(c *impl.Cfg, s *impl.State) { c.Groups[1].Max = 9 },
		func(c *impl.Cfg, s *impl.State) { c.Groups[0].Max = 0 },
		func(c *impl.Cfg, s *impl.State) { c.Groups[1].Size.Mem = -1 },
		func(c *impl.Cfg, s *impl.State) { c.Groups[2].Size.Cpu = most + 1 },
		func(c *impl.Cfg, s *impl.State) { c.Groups = nil },
		func(c *impl.Cfg, s *impl.State) { c.Groups[0].Size = size(0, 0) }, // the node holds too much
	} {
		c, s := growCfg(), hosting(growCfg(), []int{0}, isOn(0, 1), waits(0), waits(1))
		c.Groups[0].Min = 2
		wantGrowPlan(t, "before it is spoilt", c, s, ask(0))
		wantGrowLeft(t, "before it is spoilt", c, s, 2)
		spoil(&c, &s)
		wantNotGrown(t, "spoilt", c, s)
	}
}

func TestGrowOfWildNumbers(t *testing.T) {
	eachWild(func(why string, c impl.Cfg, s impl.State) {
		if !impl.StateOk(c, s) {
			wantNotGrown(t, why, c, s)
			return
		}
		wantGrowLeft(t, why, c, s, modelGrowLeft(c, s)...)
		wantGrowPick(t, why, c, s, modelGrowPick(c, s))
		wantGrowPlan(t, why, c, s, modelGrow(c, s)...)
	})
}

// growCases are those of which the memory is asked, with some that are left, with a node that is asked for, and with none.
func growCases() []stateCase {
	return append(okStates(),
		stateCase{"some are left", growCfg(), hosting(growCfg(), []int{1, -3}, waits(0), waitsFor(1, 1), waits(0), waits(2), waits(1), waits(2))},
		stateCase{"some are held by what is asked for", growCfg(), asking(hosting(growCfg(), []int{2}, waits(0), waits(0), waits(1), waitsFor(2, 1)), 0, 1, 1)},
		stateCase{"too few", growCfgOf([3]int{0, 2, 1}, [3]int{3, 4, 5}), hosting(growCfg(), []int{1, 0}, isOn(0, 1), waits(1), waits(0))},
		stateCase{"looked at", lookCfg(), lookState()},
		stateCase{"turned round", wideCfg(), changed(func(s *impl.State) { slices.Reverse(s.Pods); slices.Reverse(s.Nodes) })},
		stateCase{"nothing", wideCfg(), impl.State{}},
		stateCase{"not ok", plainCfg(), wideState()},
	)
}

func TestGrowMemory(t *testing.T) {
	for _, x := range growCases() {
		wantPlanMemory(t, x, func(c impl.Cfg, s impl.State) []impl.Write {
			wantGrowLeft(t, x.why, c, s, impl.GrowLeft(x.c, x.s)...)
			wantGrowPick(t, x.why, c, s, impl.GrowPick(x.c, x.s))
			return impl.GrowPlan(c, s)
		})
		wantNewList(t, x, func(s impl.State) []int { return impl.GrowLeft(x.c, s) })
	}
}

// Nothing is kept between two calls: the same is answered whatever was asked in between.
func TestGrowKeepsNothing(t *testing.T) {
	seed := uint32(9)
	for range 200 {
		c, s := someLot(&seed)
		d, other := someLot(&seed)
		left, pick, plan := impl.GrowLeft(c, s), impl.GrowPick(c, s), impl.GrowPlan(c, s)
		impl.GrowLeft(d, other)
		impl.GrowPick(d, other)
		impl.GrowPlan(d, other)
		wantGrowLeft(t, "again", c, s, left...)
		wantGrowPick(t, "again", c, s, pick)
		wantGrowPlan(t, "again", c, s, plan...)
	}
}
