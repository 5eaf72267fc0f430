package tests

import (
	"math"
	"slices"
	"testing"

	"loop.example/hive/impl"
)

// times is a size so many times.
func times(one impl.Size, n int) impl.Size { return size(one.Cpu*n, one.Mem*n) }

// both is two sizes together, whatever comes of it.
func both(a impl.Size, b impl.Size) impl.Size { return size(a.Cpu+b.Cpu, a.Mem+b.Mem) }

// modelUsed is the chapter's StatUsed once more, for what is ok, work by work.
func modelUsed(c impl.Cfg, s impl.State) impl.Size {
	var sum impl.Size
	for work, w := range c.Works {
		waiting := 0
		for _, p := range s.Pods {
			if p.Work == work && p.Node == 0 {
				waiting++
			}
		}
		sum = both(sum, times(w.Size, podsOf(s, work)-waiting))
	}
	return sum
}

// modelAll is the chapter's StatAll once more, for what is ok, group by group.
func modelAll(c impl.Cfg, s impl.State) impl.Size {
	var sum impl.Size
	for group, g := range c.Groups {
		booting := 0
		for _, n := range s.Nodes {
			if n.Group == group && n.Boot > 0 {
				booting++
			}
		}
		sum = both(sum, times(g.Size, nodesOf(s, group)-booting))
	}
	return sum
}

// modelWaiting is the ranks of who waits, for what is ok, the highest first.
func modelWaiting(c impl.Cfg, s impl.State) []int {
	var ranks []int
	for _, pod := range modelOrder(c, s) {
		p, _ := podOf(s, pod)
		ranks = append(ranks, rankOf(c, p))
	}
	return ranks
}

// modelEmpty is the chapter's StatEmpty once more, for anything.
func modelEmpty(s impl.State) int {
	sum := 0
	for _, n := range s.Nodes {
		if n.Boot == 0 && !slices.ContainsFunc(s.Pods, func(p impl.Pod) bool { return p.Node == n.Id }) {
			sum++
		}
	}
	return sum
}

// modelFull is the chapter's StatFull once more, for what is ok and a work that there is, one pod behind the other.
func modelFull(c impl.Cfg, s impl.State, work int) int {
	sum, one := 0, c.Works[work].Size
	for _, n := range s.Nodes {
		left := modelFree(c, s, n)
		for slots := 0; n.Boot == 0 && slots < impl.SizeMax && isIn(one, left); slots++ {
			left = takeFrom(left, one)
			sum++
		}
	}
	return sum
}

// stat is how it stands: of who waits the ranks are told, of each work how many pods more would find room.
type stat struct {
	used, all impl.Size
	waiting   []int
	empty     int
	full      []int
}

func modelStat(c impl.Cfg, s impl.State) stat {
	x := stat{used: modelUsed(c, s), all: modelAll(c, s), waiting: modelWaiting(c, s), empty: modelEmpty(s)}
	for work := range c.Works {
		x.full = append(x.full, modelFull(c, s, work))
	}
	return x
}

// otherWorks are the numbers of none of so many works.
func otherWorks(works int) []int {
	return slices.DeleteFunc(append([]int{-3, -2, works, works + 1, 3, 4}, wildNumbers...), func(n int) bool { return 0 <= n && n < works })
}

// wantStat asks for all that the chapter tells; of a work that there is not none find room.
func wantStat(t *testing.T, why string, c impl.Cfg, s impl.State, want stat) {
	t.Helper()
	if got := impl.StatUsed(c, s); got != want.used {
		t.Errorf("%s: StatUsed is %v, want %v: %v of %v", why, got, want.used, s, c)
	}
	if got := impl.StatAll(c, s); got != want.all {
		t.Errorf("%s: StatAll is %v, want %v: %v of %v", why, got, want.all, s, c)
	}
	for _, rank := range append([]int{-9, -3, -2, 0, 1, 2, 3, 4, 5, 6, 7, 8, 9, 10, 11}, wildNumbers...) {
		wantWait(t, why, c, s, rank, want.waiting)
	}
	wantEmpty(t, why, s, want.empty)
	for work, n := range want.full {
		wantFull(t, why, c, s, work, n)
	}
	for _, work := range otherWorks(len(want.full)) {
		wantFull(t, why+", no such work", c, s, work, 0)
	}
}

// wantWait asks for as many of those that wait as are of the rank or a higher one.
func wantWait(t *testing.T, why string, c impl.Cfg, s impl.State, rank int, waiting []int) {
	t.Helper()
	want := 0
	for _, other := range waiting {
		if other >= rank {
			want++
		}
	}
	if got := impl.StatWait(c, s, rank); got != want {
		t.Errorf("%s: StatWait of the rank %d is %d, want %d: %v of %v", why, rank, got, want, s, c)
	}
}

func wantEmpty(t *testing.T, why string, s impl.State, want int) {
	t.Helper()
	if got := impl.StatEmpty(s); got != want {
		t.Errorf("%s: StatEmpty is %d, want %d: %v", why, got, want, s)
	}
}

func wantFull(t *testing.T, why string, c impl.Cfg, s impl.State, work int, want int) {
	t.Helper()
	if got := impl.StatFull(c, s, work); got != want {
		t.Errorf("%s: StatFull of the work %d is %d, want %d: %v of %v", why, work, got, want, s, c)
	}
}

// wantStands asks of what is ok what the model says, and P16.
func wantStands(t *testing.T, why string, c impl.Cfg, s impl.State) {
	t.Helper()
	if !impl.StateOk(c, s) {
		t.Fatalf("%s: not ok: %v of %v", why, s, c)
	}
	wantStat(t, why, c, s, modelStat(c, s))
	wantNoMore(t, why, c, s)
}

// wantNoMore is P16: what all pods take is no more than what all nodes have; and that and what is free are all that there
// is.
func wantNoMore(t *testing.T, why string, c impl.Cfg, s impl.State) {
	t.Helper()
	used, all := impl.StatUsed(c, s), impl.StatAll(c, s)
	if !impl.SizeFits(used, all) {
		t.Errorf("%s: all pods take %v, all nodes have %v: %v of %v", why, used, all, s, c)
	}
	sum := used
	for _, n := range s.Nodes {
		if n.Boot == 0 {
			sum = both(sum, impl.StateFree(c, s, n.Id))
		}
	}
	if sum != all {
		t.Errorf("%s: all pods take %v, with what is free %v, all nodes have %v: %v of %v", why, used, sum, all, s, c)
	}
}

// withoutWaiting is what there is without anybody who waits, and so without any place that is kept.
func withoutWaiting(s impl.State) impl.State {
	s = copyState(s)
	s.Pods = slices.DeleteFunc(s.Pods, func(p impl.Pod) bool { return p.Node == 0 })
	return s
}

// wantFindRoom asks that as many pods of a work as are told, and no more, find room one behind the other, while no place is
// kept: of as many as there may be. It tells how many were told, and how many there were.
func wantFindRoom(t *testing.T, why string, c impl.Cfg, s impl.State, work int) (int, int) {
	t.Helper()
	c, s = copyCfg(c), withoutWaiting(s)
	c.Works[work].Max = impl.CfgMaxPods
	told, there := impl.StatFull(c, s, work), podsOf(s, work)
	for may := true; may; {
		s, may = modelDo(c, s, makePod(work))
	}
	more := podsOf(s, work) - there
	list := impl.BindPlan(c, s)
	if len(list) != min(told, more) {
		t.Errorf("%s: of %d pods of the work %d %d find room, StatFull is %d: %v of %v", why, more, work, len(list), told, s, c)
	}
	for i, w := range list {
		s, _ = impl.WriteDo(c, s, w)
		wantFull(t, why+", one behind the other", c, s, work, told-1-i)
	}
	return told, more
}

// measuresTurned is with Cpu and Mem the other way round.
func measuresTurned(c impl.Cfg) impl.Cfg {
	c = copyCfg(c)
	for i := range c.Works {
		c.Works[i].Size = size(c.Works[i].Size.Mem, c.Works[i].Size.Cpu)
	}
	for i := range c.Groups {
		c.Groups[i].Size = size(c.Groups[i].Size.Mem, c.Groups[i].Size.Cpu)
	}
	return c
}

// statCase is what there is, and how it stands, reckoned by hand.
type statCase struct {
	why   string
	c     impl.Cfg
	nodes []int
	pods  []impl.Pod
	want  stat
}

// plainStats are of plainCfg: works of 2 and 1 with rank 1, and of 1 and 3 with rank 0, nodes of 4 and 6.
func plainStats() []statCase {
	c, none := plainCfg(), impl.Size{}
	node := size(4, 6)
	return []statCase{
		{"nothing", c, nil, nil, stat{none, none, nil, 0, []int{0, 0}}},
		{"an empty node", c, []int{0}, nil, stat{none, node, nil, 1, []int{2, 2}}},
		{"a node that boots", c, []int{-1}, nil, stat{none, none, nil, 0, []int{0, 0}}},
		{"a pod that waits, no node", c, nil, []impl.Pod{waits(0)}, stat{none, none, []int{1}, 0, []int{0, 0}}},
		{"a pod of each work waits, no node", c, nil, []impl.Pod{waits(1), waits(0)}, stat{none, none, []int{1, 0}, 0, []int{0, 0}}},
		{"a pod that waits, an empty node", c, []int{0}, []impl.Pod{waits(1)}, stat{none, node, []int{0}, 1, []int{2, 2}}},
		{"a pod that waits, a node that boots", c, []int{-1}, []impl.Pod{waits(0)}, stat{none, none, []int{1}, 0, []int{0, 0}}},
		{"a pod on a node", c, []int{0}, []impl.Pod{isOn(0, 1)}, stat{size(2, 1), node, nil, 0, []int{1, 1}}},
		{"a pod of the other work", c, []int{0}, []impl.Pod{isOn(1, 1)}, stat{size(1, 3), node, nil, 0, []int{1, 1}}},
		{"a pod that starts", c, []int{0}, []impl.Pod{{Node: 1, Wait: 1}}, stat{size(2, 1), node, nil, 0, []int{1, 1}}},
		{"two of one work", c, []int{0}, []impl.Pod{isOn(0, 1), isOn(0, 1)}, stat{size(4, 2), node, nil, 0, []int{0, 0}}},
		{"two of the other work", c, []int{0}, []impl.Pod{isOn(1, 1), isOn(1, 1)}, stat{size(2, 6), node, nil, 0, []int{0, 0}}},
		{"one of each work", c, []int{0}, []impl.Pod{isOn(0, 1), isOn(1, 1)}, stat{size(3, 4), node, nil, 0, []int{0, 0}}},
		{"one of each, on two nodes", c, []int{0, 0}, []impl.Pod{isOn(1, 2), isOn(0, 1)}, stat{size(3, 4), size(8, 12), nil, 0, []int{2, 2}}},
		{"one of each, on one of two nodes", c, []int{0, 0}, []impl.Pod{isOn(1, 2), isOn(0, 2)}, stat{size(3, 4), size(8, 12), nil, 1, []int{2, 2}}},
		{"a place is kept", c, []int{0}, []impl.Pod{waitsFor(0, 1)}, stat{none, node, []int{1}, 1, []int{2, 2}}},
		{"all is kept", c, []int{0}, []impl.Pod{waitsFor(0, 1), waitsFor(0, 1), waitsFor(1, 1)}, stat{none, node, []int{1, 1, 0}, 1, []int{2, 2}}},
		{"a place is kept beside a pod", c, []int{0, 0}, []impl.Pod{isOn(0, 2), waitsFor(1, 2)}, stat{size(2, 1), size(8, 12), []int{0}, 1, []int{3, 3}}},
		{"one lives, one boots", c, []int{0, -1}, []impl.Pod{isOn(0, 1)}, stat{size(2, 1), node, nil, 0, []int{1, 1}}},
		{"one boots, one lives", c, []int{-1, 0}, []impl.Pod{isOn(1, 2)}, stat{size(1, 3), node, nil, 0, []int{1, 1}}},
		{"an empty one between two that boot", c, []int{-1, 0, -1}, nil, stat{none, node, nil, 1, []int{2, 2}}},
		{"all boot", c, []int{-1, -1, -1}, []impl.Pod{waits(0), waits(1), waits(0)}, stat{none, none, []int{1, 1, 0}, 0, []int{0, 0}}},
		{"three empty nodes", c, []int{0, 0, 0}, nil, stat{none, size(12, 18), nil, 3, []int{6, 6}}},
		{"all that may be", c, []int{0, 0, 0}, []impl.Pod{isOn(0, 1), isOn(1, 1), isOn(0, 3), isOn(0, 2), isOn(1, 2), isOn(0, 3)}, stat{size(10, 10), size(12, 18), nil, 0, []int{0, 0}}},
	}
}

// severalStats are of growCfg: works of 4 and 0 with rank 7, of 2 and 1 with rank 4, of 0 and 3 with rank 1, groups of 6 and
// 6, of 4 and 2, of 2 and 4.
func severalStats() []statCase {
	c, none := growCfg(), impl.Size{}
	return []statCase{
		{"the first group", c, []int{0}, nil, stat{none, size(6, 6), nil, 1, []int{1, 3, 2}}},
		{"the second group", c, []int{1}, nil, stat{none, size(4, 2), nil, 1, []int{1, 2, 0}}},
		{"the last group", c, []int{2}, nil, stat{none, size(2, 4), nil, 1, []int{0, 1, 1}}},
		{"one of each group", c, []int{2, 0, 1}, nil, stat{none, size(12, 12), nil, 3, []int{2, 6, 3}}},
		{"one of each group, the first boots", c, []int{2, -1, 1}, nil, stat{none, size(6, 6), nil, 2, []int{1, 3, 1}}},
		{"several of several groups", c, []int{1, 1, 2, 0, 2, 2}, nil, stat{none, size(20, 22), nil, 6, []int{3, 10, 5}}},
		{"pods of each work on one node", c, []int{0}, []impl.Pod{isOn(0, 1), isOn(1, 1), isOn(2, 1)}, stat{size(6, 4), size(6, 6), nil, 0, []int{0, 0, 0}}},
		{"a measure is left", c, []int{0}, []impl.Pod{isOn(0, 1), isOn(2, 1)}, stat{size(4, 3), size(6, 6), nil, 0, []int{0, 1, 1}}},
		{"pods on each node", c, []int{1, 0, 2}, []impl.Pod{isOn(0, 1), isOn(1, 2), isOn(1, 2), isOn(2, 3)}, stat{size(8, 5), size(12, 12), nil, 0, []int{0, 2, 1}}},
		{"what fits on no one node, but on all together", c, []int{2, 2, 2}, nil, stat{none, size(6, 12), nil, 3, []int{0, 3, 3}}},
		{"full in both measures", c, []int{2}, []impl.Pod{isOn(1, 1), isOn(2, 1)}, stat{size(2, 4), size(2, 4), nil, 0, []int{0, 0, 0}}},
		{"full in Cpu", c, []int{1}, []impl.Pod{isOn(0, 1)}, stat{size(4, 0), size(4, 2), nil, 0, []int{0, 0, 0}}},
		{"full in Mem", c, []int{0}, []impl.Pod{isOn(2, 1), isOn(2, 1)}, stat{size(0, 6), size(6, 6), nil, 0, []int{1, 0, 0}}},
		{"who waits of each rank", c, []int{2, 0}, []impl.Pod{waits(2), isOn(1, 1), waits(0), waitsFor(2, 1), waitsFor(1, 2), isOn(0, 2), waits(1), waits(1)},
			stat{size(6, 1), size(8, 10), []int{7, 4, 4, 4, 1, 1}, 0, []int{0, 1, 3}}},
		{"of one rank alone", c, []int{1, -1}, []impl.Pod{waits(1), waitsFor(1, 1), waits(1)}, stat{none, size(4, 2), []int{4, 4, 4}, 1, []int{1, 2, 0}}},
	}
}

// edgeStats have measures of nought, and the greatest.
func edgeStats() []statCase {
	one := func(cpu int, mem int, rooms ...impl.Size) impl.Cfg {
		return rankedCfg([]impl.CfgWork{ranked(cpu, mem, 5)}, rooms...)
	}
	none := impl.Size{}
	return []statCase{
		{"no Cpu is asked for, no node", one(0, 2, size(most, 5)), nil, nil, stat{none, none, nil, 0, []int{0}}},
		{"no Cpu is asked for, of much", one(0, 2, size(most, 5)), []int{0, 0}, nil, stat{none, size(2*most, 10), nil, 2, []int{4}}},
		{"no Cpu is asked for, of none", one(0, 2, size(0, 5)), []int{0, 0}, []impl.Pod{isOn(0, 2)}, stat{size(0, 2), size(0, 10), nil, 1, []int{3}}},
		{"no Mem is asked for, of none", one(2, 0, size(5, 0)), []int{0, 0}, []impl.Pod{isOn(0, 1)}, stat{size(2, 0), size(10, 0), nil, 1, []int{3}}},
		{"a Cpu is asked for, of none", one(1, 2, size(0, most)), []int{0}, []impl.Pod{waits(0)}, stat{none, size(0, most), []int{5}, 1, []int{0}}},
		{"a Mem is asked for, of none", one(2, 1, size(most, 0)), []int{0}, []impl.Pod{waitsFor(0, 1)}, stat{none, size(most, 0), []int{5}, 1, []int{0}}},
		{"a node that has nothing", one(1, 0, none), []int{0, 0, 0}, []impl.Pod{waitsFor(0, 2)}, stat{none, none, []int{5}, 3, []int{0}}},
		{"the least of the greatest", one(0, 1, size(most, most)), []int{0}, nil, stat{none, size(most, most), nil, 1, []int{most}}},
		{"the least of the greatest, a pod on it", one(1, 0, size(most, 3)), []int{0}, []impl.Pod{isOn(0, 1)}, stat{size(1, 0), size(most, 3), nil, 0, []int{most - 1}}},
		{"the least of as many as there may be", one(1, 1, size(most, most), size(most, most), size(most, most)),
			slices.Repeat([]int{0, 1, 2}, 8), []impl.Pod{isOn(0, 7)}, stat{size(1, 1), size(24*most, 24*most), nil, 23, []int{24*most - 1}}},
		{"the greatest on the greatest", one(most, most, size(most, most)), []int{0, 0}, []impl.Pod{isOn(0, 2)}, stat{size(most, most), size(2*most, 2*most), nil, 1, []int{1}}},
		{"one more than the node has", one(3, 5, size(2, most), size(most, 4)), []int{0, 1}, nil, stat{none, size(most+2, most+4), nil, 2, []int{0}}},
		{"just what the node has", one(3, 5, size(3, 5)), []int{0, 0}, []impl.Pod{isOn(0, 1)}, stat{size(3, 5), size(6, 10), nil, 1, []int{1}}},
		{"one less than twice", one(3, 5, size(5, most), size(most, 9)), []int{0, 1}, nil, stat{none, size(most+5, most+9), nil, 2, []int{2}}},
		{"just twice", one(3, 5, size(6, most), size(most, 10)), []int{0, 1}, nil, stat{none, size(most+6, most+10), nil, 2, []int{4}}},
	}
}

// Each by hand, and with the measures the other way round.
func TestStat(t *testing.T) {
	for _, x := range slices.Concat(plainStats(), severalStats(), edgeStats()) {
		s := hosting(x.c, x.nodes, x.pods...)
		wantStat(t, x.why, x.c, s, x.want)
		wantStands(t, x.why, x.c, s)
		turned := x.want
		turned.used, turned.all = size(x.want.used.Mem, x.want.used.Cpu), size(x.want.all.Mem, x.want.all.Cpu)
		wantStat(t, x.why+", measures turned round", measuresTurned(x.c), s, turned)
		for work := range x.c.Works {
			wantFindRoom(t, x.why, x.c, s, work)
		}
	}
}

// Numbers of pods, nodes and works that are not their places, and all that a pod and a node can be.
func TestStatOfWhatThereIs(t *testing.T) {
	none := impl.Size{}
	for _, x := range []struct {
		stateCase
		want stat
	}{
		{stateCase{"plain", plainCfg(), plainState()}, stat{size(3, 4), size(4, 6), []int{0}, 0, []int{0, 0}}},
		{stateCase{"wide", wideCfg(), wideState()}, stat{size(4, 11), size(17, 23), []int{9, 4, 0}, 1, []int{6, 3, 5}}},
		{stateCase{"tight", tightCfg(), tightState()}, stat{size(24*most, 24*most), size(24*most, 24*most), nil, 0, []int{0, 0, 0}}},
		{stateCase{"plain, open", plainCfg(), impl.StateOpen(plainCfg())}, stat{none, none, nil, 0, []int{0, 0}}},
		{stateCase{"wide, open", wideCfg(), impl.StateOpen(wideCfg())}, stat{none, none, nil, 0, []int{0, 0, 0}}},
		{stateCase{"least, open", leastCfg(), impl.StateOpen(leastCfg())}, stat{none, none, nil, 0, []int{0}}},
		{stateCase{"wide, all nodes live", wideCfg(), changed(func(s *impl.State) { s.Nodes[1].Boot, s.Nodes[3].Boot = 0, 0 })},
			stat{size(4, 11), size(21, 30), []int{9, 4, 0}, 3, []int{8, 5, 8}}},
		{stateCase{"wide, no places", wideCfg(), changed(func(s *impl.State) { s.Pods[3].Nom, s.Pods[7].Nom = 0, 0 })},
			stat{size(4, 11), size(17, 23), []int{9, 4, 0}, 1, []int{6, 3, 5}}},
		{stateCase{"wide, all places on the empty node", wideCfg(), changed(func(s *impl.State) { s.Pods[3].Nom, s.Pods[4].Nom, s.Pods[7].Nom = 9, 9, 9 })},
			stat{size(4, 11), size(17, 23), []int{9, 4, 0}, 1, []int{6, 3, 5}}},
		{stateCase{"wide, none asked for and none at rest", wideCfg(), changed(func(s *impl.State) { s.Groups = make([]impl.GroupState, 3) })},
			stat{size(4, 11), size(17, 23), []int{9, 4, 0}, 1, []int{6, 3, 5}}},
	} {
		wantStat(t, x.why, x.c, x.s, x.want)
		wantStands(t, x.why, x.c, x.s)
	}
	idle := tightState()
	for i := range idle.Pods {
		onNode(i, 0, 0)(&idle)
	}
	wantStat(t, "all of the greatest wait", tightCfg(), idle, stat{none, size(24*most, 24*most), slices.Repeat([]int{9}, 24), 24, []int{24, 24, 24}})
}

// A node that comes has nothing till it lives: nothing fits on it, and it is not empty.
func TestStatOfNodeThatBoots(t *testing.T) {
	c := plainCfg()
	c.Groups[0].Boot = impl.CfgMaxWait
	none := impl.Size{}
	s := behind(c, asking(hosting(c, []int{0}, isOn(0, 1), waits(1)), 1), come(0))
	for range impl.CfgMaxWait {
		wantStat(t, "it boots", c, s, stat{size(2, 1), size(4, 6), []int{0}, 0, []int{1, 1}})
		s = behind(c, s, tick())
	}
	wantStat(t, "it lives", c, s, stat{size(2, 1), size(8, 12), []int{0}, 1, []int{3, 3}})
	s = behind(c, s, die(1))
	wantStat(t, "it is left alone", c, s, stat{none, size(4, 6), []int{1, 0}, 1, []int{2, 2}})
	s, _ = impl.WriteAll(c, s, []impl.Write{bind(2, 2), nom(1, 2)})
	wantStat(t, "it has a pod, and a place is kept", c, s, stat{size(1, 3), size(4, 6), []int{1}, 0, []int{1, 1}})
}

// A node that is asked for has nothing, and neither has one that failed to come.
func TestStatOfNodesThatAreAskedFor(t *testing.T) {
	for asked := range 4 {
		c := plainCfg()
		s := asking(hosting(c, nil, waits(0)), asked)
		wantStat(t, "asked for", c, s, stat{waiting: []int{1}, full: []int{0, 0}})
		wantStat(t, "failed to come", c, behind(c, s, fails(0, asked)...), stat{waiting: []int{1}, full: []int{0, 0}})
	}
}

// Who waits, at each rank of the works: each by itself, and all of them, with a place and without.
func TestStatWait(t *testing.T) {
	for low := range 10 {
		for high := range 10 {
			c := rankedCfg([]impl.CfgWork{ranked(1, 1, low), ranked(1, 1, high)}, size(9, 9))
			for way := range 4 * 4 * 4 {
				kinds := []impl.Pod{waits(0), waits(1), waitsFor(0, 1), isOn(1, 1)}
				a, b, d := way%4, way/4%4, way/16
				s := hosting(c, []int{0}, kinds[a], kinds[b], kinds[d])
				var waiting []int
				for _, kind := range []int{a, b, d} {
					waiting = append(waiting, [][]int{{low}, {high}, {low}, nil}[kind]...)
				}
				for rank := -1; rank <= 10; rank++ {
					wantWait(t, "at each rank", c, s, rank, waiting)
				}
			}
		}
	}
	c, s := wideCfg(), wideState() // of rank 9, 4 and 0
	for rank, want := range map[int]int{
		math.MinInt: 3, -impl.StateMaxId: 3, -1: 3, 0: 3, 1: 2, 3: 2, 4: 2, 5: 1, 8: 1, 9: 1, 10: 0, 11: 0, impl.StateMaxId: 0, math.MaxInt: 0,
	} {
		if got := impl.StatWait(c, s, rank); got != want {
			t.Errorf("StatWait of the rank %d is %d, want %d", rank, got, want)
		}
	}
}

// A pod with a place waits till it is put there.
func TestStatWaitOfPlaces(t *testing.T) {
	c := plainCfg()
	s := hosting(c, []int{0}, waits(0))
	for _, x := range []struct {
		w    impl.Write
		want stat
	}{
		{nom(1, 1), stat{size(0, 0), size(4, 6), []int{1}, 1, []int{2, 2}}},
		{nom(1, 0), stat{size(0, 0), size(4, 6), []int{1}, 1, []int{2, 2}}},
		{nom(1, 1), stat{size(0, 0), size(4, 6), []int{1}, 1, []int{2, 2}}},
		{bind(1, 1), stat{size(2, 1), size(4, 6), nil, 0, []int{1, 1}}},
		{oust(1), stat{size(0, 0), size(4, 6), []int{1}, 1, []int{2, 2}}},
		{kill(1), stat{size(0, 0), size(4, 6), nil, 1, []int{2, 2}}},
		{drop(1), stat{full: []int{0, 0}}},
	} {
		s, _ = impl.WriteDo(c, s, x.w)
		wantStat(t, "behind "+impl.TextWrite(x.w), c, s, x.want)
	}
}

// StatEmpty by its own words, of what is not ok too.
func TestStatEmpty(t *testing.T) {
	lives, boots, below := impl.Node{Id: 1}, impl.Node{Id: 1, Boot: 1}, impl.Node{Id: 1, Boot: -1}
	other := impl.Node{Id: 2}
	for _, x := range []struct {
		why   string
		nodes []impl.Node
		pods  []impl.Pod
		want  int
	}{
		{"nothing", nil, nil, 0},
		{"pods alone", nil, []impl.Pod{isOn(0, 1), waits(0)}, 0},
		{"a node alone", []impl.Node{lives}, nil, 1},
		{"one that boots", []impl.Node{boots}, nil, 0},
		{"one with a Boot below 0", []impl.Node{below}, nil, 0},
		{"one that boots for long", []impl.Node{{Id: 1, Boot: math.MaxInt}}, nil, 0},
		{"one that boots, with a pod", []impl.Node{boots}, []impl.Pod{isOn(0, 1)}, 0},
		{"a pod on it", []impl.Node{lives}, []impl.Pod{isOn(0, 1)}, 0},
		{"a pod that starts on it", []impl.Node{lives}, []impl.Pod{{Node: 1, Wait: 3}}, 0},
		{"two pods on it", []impl.Node{lives}, []impl.Pod{isOn(0, 1), isOn(1, 1)}, 0},
		{"two pods on it, one beside it", []impl.Node{lives, other}, []impl.Pod{isOn(0, 1), isOn(1, 1)}, 1},
		{"a place is kept on it", []impl.Node{lives}, []impl.Pod{waitsFor(0, 1)}, 1},
		{"a place is kept on it for one on another", []impl.Node{lives, other}, []impl.Pod{{Node: 2, Nom: 1}}, 1},
		{"a pod on a node that there is not", []impl.Node{lives}, []impl.Pod{isOn(0, 2)}, 1},
		{"pods on the nodes around it", []impl.Node{other}, []impl.Pod{isOn(0, 1), isOn(0, 3), isOn(0, -2)}, 1},
		{"a pod of its place, but not of its number", []impl.Node{{Id: 7}, {Id: 5}}, []impl.Pod{isOn(0, 1), isOn(0, 0)}, 2},
		{"a pod with its number", []impl.Node{{Id: 7}}, []impl.Pod{{Id: 7, Node: 3}}, 1},
		{"a pod of a work with its number", []impl.Node{lives}, []impl.Pod{waits(1)}, 1},
		{"two of one number", []impl.Node{lives, lives}, nil, 2},
		{"two of one number, a pod on it", []impl.Node{lives, lives}, []impl.Pod{isOn(0, 1)}, 0},
		{"two of one number, a place on it", []impl.Node{lives, lives}, []impl.Pod{waitsFor(0, 1)}, 2},
		{"two of one number, the first boots", []impl.Node{boots, lives}, nil, 1},
		{"two of one number, the second boots", []impl.Node{lives, boots}, nil, 1},
		{"two of one number, both boot", []impl.Node{boots, boots}, nil, 0},
		{"two of one number, one boots, a pod on it", []impl.Node{lives, boots}, []impl.Pod{isOn(0, 1)}, 0},
		{"three of one number, another between", []impl.Node{lives, boots, other, lives}, nil, 3},
		{"three of one number, a pod on the other", []impl.Node{lives, boots, other, lives}, []impl.Pod{isOn(0, 2)}, 2},
		{"three of one number, a pod on it", []impl.Node{lives, boots, other, lives}, []impl.Pod{isOn(0, 1)}, 1},
		{"turned round", []impl.Node{{Id: 3}, {Id: 2}, {Id: 1}}, []impl.Pod{isOn(0, 3), isOn(0, 1)}, 1},
		{"of groups and works that there are not", []impl.Node{{Id: 1, Group: 9}, {Id: 2, Group: -1}}, []impl.Pod{isOn(7, 2)}, 1},
		{"with looks", []impl.Node{{Id: 1, Idle: -3}, {Id: 2, Idle: 9}}, nil, 2},
		{"of any numbers", []impl.Node{{Id: math.MinInt}, {Id: math.MaxInt}, {Id: -1}}, []impl.Pod{isOn(0, math.MaxInt), waitsFor(0, -1)}, 2},
		{"the number of none", []impl.Node{{}}, nil, 1},
		{"the number of none, a pod on another", []impl.Node{{}}, []impl.Pod{isOn(0, 1)}, 1},
		{"the number of none, by the number alone", []impl.Node{{}, lives}, []impl.Pod{waits(0)}, 1},
	} {
		for _, s := range []impl.State{{Nodes: x.nodes, Pods: x.pods}, {Nodes: x.nodes, Pods: x.pods, Works: wideState().Works, Groups: wideState().Groups, NextPod: 20, NextNode: 20}} {
			s = copyState(s)
			wantEmpty(t, x.why, s, x.want)
			wantEmpty(t, x.why+", the model", s, modelEmpty(s))
			slices.Reverse(s.Pods)
			wantEmpty(t, x.why+", pods turned round", s, x.want)
			slices.Reverse(s.Nodes)
			wantEmpty(t, x.why+", nodes turned round", s, x.want)
		}
	}
}

// Three nodes and two pods in all ways, ok or not: nodes of three numbers, that boot or live, pods on them and with places.
func TestStatEmptyInAllWays(t *testing.T) {
	var told [4]int
	for way := range 9 * 9 * 9 * 9 * 9 {
		var digits [5]int
		for i, left := 0, way; i < 5; i, left = i+1, left/9 {
			digits[i] = left % 9
		}
		s := impl.State{NextPod: 3, NextNode: 4}
		for _, d := range digits[:3] {
			s.Nodes = append(s.Nodes, impl.Node{Id: 1 + d%3, Boot: d/3 - 1})
		}
		for i, d := range digits[3:] {
			s.Pods = append(s.Pods, impl.Pod{Id: i + 1, Node: d % 3, Nom: 1 + d/3})
		}
		want := modelEmpty(s)
		wantEmpty(t, "in all ways", s, want)
		told[want]++
	}
	if slices.Min(told[:3]) < 1000 || told[3] < 100 {
		t.Errorf("of too few kinds: %v", told)
	}
}

// Of what is not ok there may be many of both.
func TestStatEmptyOfMany(t *testing.T) {
	const many = 200000
	s := impl.State{Pods: make([]impl.Pod, many), Nodes: make([]impl.Node, many)}
	for i := range many {
		s.Pods[i], s.Nodes[i] = impl.Pod{Id: i + 1, Node: 2 * (i + 1)}, impl.Node{Id: i + 1}
	}
	wantEmptyOfMany := func(why string, want int) {
		if got := impl.StatEmpty(s); got != want {
			t.Errorf("%s: StatEmpty is %d, want %d", why, got, want)
		}
	}
	wantEmptyOfMany("each second one is empty", many/2)
	for i := range many {
		s.Nodes[i].Boot = i % 4 // each fourth one lives, and none of these has an even number
	}
	wantEmptyOfMany("each fourth one lives", many/4)
	s.Pods = nil
	wantEmptyOfMany("no pods", many/4)
}

// A work's slots of each node are told together, whatever lies on the nodes: pods of three works on three nodes in all ways.
func TestStatInAllWays(t *testing.T) {
	c := wideCfg()
	c.Groups[0].Size, c.Groups[1].Size, c.Groups[2].Size = size(4, 5), size(3, 3), size(2, 6)
	ok := 0
	for way := range 4096 {
		s := hosting(c, []int{0, 1, 2, -1})
		for i, work := range []int{0, 1, 0, 2, 1, 2} {
			s.Pods = append(s.Pods, impl.Pod{Id: i + 1, Work: work, Node: way >> (2 * i) & 3})
		}
		s.NextPod = 7
		if !impl.StateOk(c, s) {
			wantNoStat(t, "a way that is not ok", c, s)
			continue
		}
		wantStands(t, "a way", c, s)
		for work := range c.Works {
			wantFindRoom(t, "a way", c, s, work)
		}
		ok++
	}
	if ok < 500 {
		t.Errorf("only %d were ok", ok)
	}
}

// statCounts is of which kinds what there is was.
type statCounts struct {
	used, waiting, empty, booting, none, some, enough int
}

func (n *statCounts) add(s impl.State, x stat) {
	if x.used != (impl.Size{}) {
		n.used++
	}
	if len(x.waiting) > 0 {
		n.waiting++
	}
	if x.empty > 0 {
		n.empty++
	}
	if slices.ContainsFunc(s.Nodes, func(one impl.Node) bool { return one.Boot > 0 }) {
		n.booting++
	}
}

// find counts how many pods were told to find room: none, fewer than there were, or enough for all.
func (n *statCounts) find(told int, more int) {
	switch {
	case more == 0:
	case told == 0:
		n.none++
	case told < more:
		n.some++
	default:
		n.enough++
	}
}

func (n statCounts) least() int {
	return min(n.used, n.waiting, n.empty, n.booting, n.none, n.some, n.enough)
}

// wantCounted asks of what is ok all that is told, and counts it.
func wantCounted(t *testing.T, why string, c impl.Cfg, s impl.State, n *statCounts) {
	t.Helper()
	wantStands(t, why, c, s)
	n.add(s, modelStat(c, s))
	for work := range c.Works {
		n.find(wantFindRoom(t, why, c, s, work))
	}
}

func TestStatOfManyWays(t *testing.T) {
	seed := uint32(15)
	var n statCounts
	for way := range 6000 {
		c, s := someHive(&seed)
		if way%2 == 0 {
			c, s = someRest(&seed)
		}
		wantCounted(t, "some", c, s, &n)
	}
	if n.least() < 500 {
		t.Errorf("of too few kinds: %+v", n)
	}
}

// P16 on long ways of events and changes, from each beginning and from many.
func TestStatOnLongWays(t *testing.T) {
	seed := uint32(16)
	var n statCounts
	for way := range 150 {
		c, s := someRest(&seed)
		if all := loopCases(); way < len(all) {
			c, s = all[way].c, all[way].s
		}
		for range 60 {
			switch nextNumber(&seed, 4) {
			case 0:
				s, _ = impl.WriteDo(c, s, someWrite(&seed, s))
			case 1:
				s = impl.LoopRound(c, s, nextNumber(&seed, 720))
			default:
				s = impl.LoopDo(c, s, someEvent(&seed, c, s))
			}
			wantCounted(t, "on a long way", c, s, &n)
		}
	}
	if n.least() < 300 {
		t.Errorf("of too few kinds: %+v", n)
	}
}

// At rest nobody waits; what is told is what the load asks for.
func TestStatAtRest(t *testing.T) {
	c := plainCfg()
	s := behind(c, impl.StateOpen(c), turnLoad(0, 350), turnLoad(1, 15))
	for order := range 10 {
		s = impl.LoopRound(c, s, order)
	}
	wantStat(t, "at rest", c, s, stat{size(10, 10), size(12, 18), nil, 0, []int{0, 0}})
	s = behind(c, s, turnLoad(0, 90))
	for order := range 3 {
		s = impl.LoopRound(c, s, order)
	}
	wantStat(t, "with fewer", c, s, stat{size(4, 7), size(12, 18), nil, 0, []int{3, 3}})
	s = behind(c, s, die(1))
	wantStat(t, "behind a node that died", c, s, stat{size(2, 6), size(8, 12), []int{1}, 0, []int{2, 2}})
}

// wantNoStat asks that nothing is told of what is not ok, but of StatEmpty, which doesn't ask for it.
func wantNoStat(t *testing.T, why string, c impl.Cfg, s impl.State) {
	t.Helper()
	if impl.StateOk(c, s) {
		t.Fatalf("%s: ok: %v", why, s)
	}
	wantStat(t, why, c, s, stat{empty: modelEmpty(s), full: []int{0, 0, 0}})
}

func TestStatOfWrongState(t *testing.T) {
	for _, x := range append(wrongStates(), stateCase{"nothing at all", impl.Cfg{}, impl.State{}}, stateCase{"nothing is asked", impl.Cfg{}, wideState()}) {
		wantNoStat(t, x.why, x.c, x.s)
	}
	for _, x := range []restChange{
		{"a pod on a node that there is not", nil, func(s *impl.State) { s.Pods[0].Node = 4 }},
		{"a pod on a node that boots", nil, func(s *impl.State) { s.Pods[0].Node = 6 }},
		{"a pod on a node below 0", nil, func(s *impl.State) { s.Pods[0].Node = -2 }},
		{"a place on a node that there is not", nil, func(s *impl.State) { s.Pods[3].Nom = 4 }},
		{"a place on a node that boots", nil, func(s *impl.State) { s.Pods[3].Nom = 6 }},
		{"on a node, and a place there", nil, func(s *impl.State) { s.Pods[0].Nom = 2 }},
		{"one that waits and starts", nil, func(s *impl.State) { s.Pods[4].Wait = 1 }},
		{"too great a Wait", nil, func(s *impl.State) { s.Pods[0].Wait = 4 }},
		{"a Wait below 0", nil, func(s *impl.State) { s.Pods[0].Wait = -1 }},
		{"a work below 0, of one that waits", nil, func(s *impl.State) { s.Pods[4].Work = -1 }},
		{"a work too many, of one that waits", nil, func(s *impl.State) { s.Pods[4].Work = 3 }},
		{"a work below 0, of one on a node", nil, func(s *impl.State) { s.Pods[0].Work = -1 }},
		{"a work too many, of one on a node", nil, func(s *impl.State) { s.Pods[0].Work = 3 }},
		{"a group below 0, of one that lives", nil, func(s *impl.State) { s.Nodes[4].Group = -1 }},
		{"a group too many, of one that lives", nil, func(s *impl.State) { s.Nodes[4].Group = 3 }},
		{"a group too many, of one that boots", nil, func(s *impl.State) { s.Nodes[1].Group = 3 }},
		{"several nodes of one number", nil, func(s *impl.State) { s.Nodes[3].Id = 5 }},
		{"several nodes of one number, all empty", nil, func(s *impl.State) { s.Nodes[3] = s.Nodes[4] }},
		{"several pods of one number", nil, func(s *impl.State) { s.Pods[4].Id = 6 }},
		{"nodes turned round", nil, func(s *impl.State) { slices.Reverse(s.Nodes) }},
		{"pods turned round", nil, func(s *impl.State) { slices.Reverse(s.Pods) }},
		{"a Boot below 0", nil, func(s *impl.State) { s.Nodes[4].Boot = -1 }},
		{"too great a Boot", nil, func(s *impl.State) { s.Nodes[3].Boot = 2 }},
		{"too great an Idle", nil, func(s *impl.State) { s.Nodes[4].Idle = 6 }},
		{"too much Mem on a node", nil, func(s *impl.State) { s.Pods[6].Node = 5 }},
		{"too little on all nodes, but not together", nil, func(s *impl.State) { s.Pods[0].Node, s.Pods[2].Node, s.Pods[6].Node = 5, 5, 5 }},
		{"NextPod is a pod's", nil, func(s *impl.State) { s.NextPod = 13 }},
		{"NextNode is a node's", nil, func(s *impl.State) { s.NextNode = 9 }},
		{"too great a NextNode", nil, func(s *impl.State) { s.NextNode = impl.StateMaxId + 1 }},
		{"too great a Want", nil, func(s *impl.State) { s.Works[0].Want = 5 }},
		{"too great a load", nil, func(s *impl.State) { s.Works[0].Load = impl.CfgMaxLoad + 1 }},
		{"too great a Low", nil, func(s *impl.State) { s.Works[0].Low = 5 }},
		{"too many asked for", nil, func(s *impl.State) { s.Groups[0].Asked = 2 }},
		{"too great a Rest", nil, func(s *impl.State) { s.Groups[0].Rest = 49 }},
		{"too many Fails", nil, func(s *impl.State) { s.Groups[0].Fails = 4 }},
		{"a work more", nil, func(s *impl.State) { s.Works = append(s.Works, impl.WorkState{}) }},
		{"a work fewer", nil, func(s *impl.State) { s.Works = s.Works[:2] }},
		{"a group fewer", nil, func(s *impl.State) { s.Groups = s.Groups[:2] }},
		{"too many pods of a work", func(c *impl.Cfg) { c.Works[1].Max = 2 }, nil},
		{"too many nodes of a group", func(c *impl.Cfg) { c.Groups[2].Max = 4 }, nil},
		{"a node that is too small", func(c *impl.Cfg) { c.Groups[0].Size = size(2, 9) }, nil},
		{"a work that is too great", func(c *impl.Cfg) { c.Works[2].Size = size(4, 2) }, nil},
		{"a work that asks for nothing", func(c *impl.Cfg) { c.Works[2].Size = impl.Size{} }, nil},
		{"a work below 0", func(c *impl.Cfg) { c.Works[2].Size = size(-1, 2) }, nil},
		{"a group too great", func(c *impl.Cfg) { c.Groups[0].Size = size(most+1, 9) }, nil},
		{"a Rank of 10", func(c *impl.Cfg) { c.Works[0].Rank = 10 }, nil},
		{"a Rank below 0", func(c *impl.Cfg) { c.Works[1].Rank = -1 }, nil},
		{"an Idle of 1", func(c *impl.Cfg) { c.Idle = 1 }, nil},
		{"no works are asked", func(c *impl.Cfg) { c.Works = nil }, nil},
		{"no groups are asked", func(c *impl.Cfg) { c.Groups = nil }, nil},
	} {
		c, s := x.of(wideCfg(), wideState())
		wantNoStat(t, x.why, c, s)
	}
}

// Numbers of any greatness in each field of what there is and of what is asked.
func TestStatOfWildNumbers(t *testing.T) {
	eachWild(func(why string, c impl.Cfg, s impl.State) {
		if impl.StateOk(c, s) {
			wantStands(t, why, c, s)
		} else {
			wantNoStat(t, why, c, s)
		}
	})
}

// Neither the lists of what there is and of what is asked nor what lies behind their ends are written into; the same is
// answered once more.
func TestStatMemory(t *testing.T) {
	for _, x := range append(memoryCases(), stateCase{"wide", wideCfg(), wideState()}) {
		want := stat{empty: modelEmpty(x.s), full: make([]int, len(x.c.Works))}
		if impl.StateOk(x.c, x.s) {
			want = modelStat(x.c, x.s)
		}
		s, whole := spare(x.s)
		was := copyState(whole)
		for range 2 {
			wantKeepsCfg(t, x, func(c impl.Cfg) { wantStat(t, x.why, c, s, want) })
		}
		if !sameState(whole, was) || !sameState(s, x.s) {
			t.Errorf("%s: an argument was written into: %v", x.why, whole)
		}
	}
}

// An empty list is as none.
func TestStatOfEmptyLists(t *testing.T) {
	c, s := plainCfg(), impl.StateOpen(plainCfg())
	s.Pods, s.Nodes = []impl.Pod{}, []impl.Node{}
	wantStat(t, "no pods and no nodes", c, s, stat{full: []int{0, 0}})
	s.Nodes, s.NextNode = []impl.Node{{Id: 1}}, 2
	wantStat(t, "no pods", c, s, stat{all: size(4, 6), empty: 1, full: []int{2, 2}})
	wantStat(t, "nothing", impl.Cfg{Works: []impl.CfgWork{}, Groups: []impl.CfgGroup{}}, impl.State{Pods: []impl.Pod{}, Nodes: []impl.Node{}}, stat{})
}

// Nothing is kept between two calls: the same is answered whatever was asked in between.
func TestStatKeepsNothing(t *testing.T) {
	seed := uint32(7)
	for range 200 {
		c, s := someRest(&seed)
		d, other := someHive(&seed)
		wantStat(t, "first", c, s, modelStat(c, s))
		wantStat(t, "another", d, other, modelStat(d, other))
		wantStat(t, "not ok", d, impl.State{}, stat{full: make([]int, len(d.Works))})
		wantStat(t, "again", c, s, modelStat(c, s))
	}
}
