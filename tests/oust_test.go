package tests

import (
	"math"
	"slices"
	"testing"

	"loop.example/hive/impl"
)

// rankCfg has works of 4, 2 and 1 of Cpu, of a lower rank each, and groups of 6, 4 and 3.
func rankCfg() impl.Cfg {
	return rankedCfg([]impl.CfgWork{ranked(4, 0, 7), ranked(2, 0, 4), ranked(1, 0, 1)}, size(6, 0), size(4, 0), size(3, 0))
}

func wantSet(t *testing.T, why string, c impl.Cfg, s impl.State, pod int, node int, want []int, held bool) {
	t.Helper()
	if got, ok := impl.OustSet(c, s, pod, node); !slices.Equal(got, want) || ok != held {
		t.Errorf("%s: OustSet of the pod %d and the node %d is %v and %v, want %v and %v: %v of %v", why, pod, node, got, ok, want, held, s, c)
	}
}

func wantOustPick(t *testing.T, why string, c impl.Cfg, s impl.State, pod int, node int, out ...int) {
	t.Helper()
	if got, who := impl.OustPick(c, s, pod); got != node || !slices.Equal(who, out) {
		t.Errorf("%s: OustPick of the pod %d is %d and %v, want %d and %v: %v of %v", why, pod, got, who, node, out, s, c)
	}
}

func wantOustPlan(t *testing.T, why string, c impl.Cfg, s impl.State, want ...impl.Write) {
	t.Helper()
	if got := impl.OustPlan(c, s); !slices.Equal(got, want) {
		t.Errorf("%s: OustPlan is %v, want %v: %v of %v", why, got, want, s, c)
	}
}

func podOf(s impl.State, pod int) (impl.Pod, bool) {
	at := slices.IndexFunc(s.Pods, func(p impl.Pod) bool { return p.Id == pod })
	if at < 0 {
		return impl.Pod{}, false
	}
	return s.Pods[at], true
}

func rankOf(c impl.Cfg, p impl.Pod) int { return c.Works[p.Work].Rank }

// without is what there is behind the pods being put out.
func without(c impl.Cfg, s impl.State, pods []int) impl.State {
	for _, pod := range pods {
		s, _ = modelDo(c, s, oust(pod))
	}
	return s
}

// roomWithout says whether a pod has room on a node behind the others being put out.
func roomWithout(c impl.Cfg, s impl.State, p impl.Pod, node int, out []int) bool {
	left, ok := modelLeft(c, without(c, s, out), p.Id, node)
	return ok && c.Works[p.Work].Size.Cpu <= left.Cpu && c.Works[p.Work].Size.Mem <= left.Mem
}

// modelLower is the chapter's lower ones once more, rank by rank.
func modelLower(c impl.Cfg, s impl.State, p impl.Pod, node int) []int {
	var list []int
	for rank := range rankOf(c, p) {
		for _, q := range slices.Backward(s.Pods) {
			if q.Node == node && rankOf(c, q) == rank {
				list = append(list, q.Id)
			}
		}
	}
	return list
}

// modelSet is the chapter's OustSet once more, for what is ok: who goes is put out, and what is left is asked of chapter 7.
func modelSet(c impl.Cfg, s impl.State, pod int, node int) ([]int, bool) {
	p, found := podOf(s, pod)
	if !found || p.Node != 0 {
		return nil, false
	}
	lower := modelLower(c, s, p, node)
	if !roomWithout(c, s, p, node, lower) {
		return nil, false
	}
	stays := map[int]bool{}
	others := func() []int {
		return slices.DeleteFunc(slices.Clone(lower), func(q int) bool { return stays[q] })
	}
	for _, q := range slices.Backward(lower) {
		stays[q] = true
		stays[q] = roomWithout(c, s, p, node, others())
	}
	return others(), true
}

// modelOustPick is the chapter's OustPick once more, for what is ok, by the number of those who go.
func modelOustPick(c impl.Cfg, s impl.State, pod int) (int, []int) {
	for many := range impl.CfgMaxWorks*impl.CfgMaxPods + 1 {
		for _, n := range s.Nodes {
			if out, held := modelSet(c, s, pod, n.Id); held && len(out) == many {
				return n.Id, out
			}
		}
	}
	return 0, nil
}

// modelPlace is the node of a pod that had the Nom ahead of all, and who is put out for it.
func modelPlace(c impl.Cfg, s impl.State, pod int, nom int) (int, []int) {
	p, _ := podOf(s, pod)
	if roomWithout(c, s, p, nom, nil) {
		return nom, nil
	}
	if node := modelPick(c, s, pod); node != 0 {
		return node, nil
	}
	return modelOustPick(c, s, pod)
}

// modelOust is the chapter's OustPlan once more, for what is ok.
func modelOust(c impl.Cfg, s impl.State) []impl.Write {
	var list []impl.Write
	noms, served := map[int]int{}, map[int]bool{}
	s = copyState(s)
	for i, p := range s.Pods {
		noms[p.Id], s.Pods[i].Nom = p.Nom, 0
	}
	for {
		order := slices.DeleteFunc(modelOrder(c, s), func(pod int) bool { return served[pod] })
		if len(order) == 0 {
			return list
		}
		pod := order[0]
		served[pod] = true
		node, out := modelPlace(c, s, pod, noms[pod])
		for _, q := range out {
			list = append(list, oust(q))
		}
		if node != noms[pod] || len(out) > 0 {
			list = append(list, nom(pod, node))
		}
		s, _ = modelDo(c, without(c, s, out), nom(pod, node))
	}
}

// wantJust is P8 of each pod and each node: all who go are on it and of strictly lower rank, without them there is room,
// without one fewer there is not; and it is false only where there is none even without all of lower rank.
func wantJust(t *testing.T, why string, c impl.Cfg, s impl.State) {
	t.Helper()
	for _, p := range s.Pods {
		for _, n := range s.Nodes {
			out, held := impl.OustSet(c, s, p.Id, n.Id)
			if could := p.Node == 0 && roomWithout(c, s, p, n.Id, modelLower(c, s, p, n.Id)); held != could {
				t.Errorf("%s: OustSet of the pod %d and the node %d is %v, want %v: %v of %v", why, p.Id, n.Id, held, could, s, c)
			}
			wantNoFewer(t, why, c, s, p, n.Id, out, held)
		}
	}
}

// wantNoFewer asks that who goes is on the node, of strictly lower rank and enough, and that no fewer would do.
func wantNoFewer(t *testing.T, why string, c impl.Cfg, s impl.State, p impl.Pod, node int, out []int, held bool) {
	t.Helper()
	if held && !roomWithout(c, s, p, node, out) {
		t.Errorf("%s: the pod %d has no room on the node %d without %v: %v of %v", why, p.Id, node, out, s, c)
	}
	for i, pod := range out {
		if q, _ := podOf(s, pod); q.Node != node || rankOf(c, q) >= rankOf(c, p) {
			t.Errorf("%s: the pod %d goes for the pod %d on the node %d: %v of %v", why, pod, p.Id, node, s, c)
		}
		if fewer := slices.Delete(slices.Clone(out), i, i+1); roomWithout(c, s, p, node, fewer) {
			t.Errorf("%s: %v would do for the pod %d on the node %d, of %v: %v of %v", why, fewer, p.Id, node, out, s, c)
		}
	}
}

// wantOusted asks of what is ok what the models say, and P8 and P4, change by change.
func wantOusted(t *testing.T, why string, c impl.Cfg, s impl.State) {
	t.Helper()
	if !impl.StateOk(c, s) {
		t.Fatalf("%s: not ok: %v of %v", why, s, c)
	}
	for _, pod := range askedPods(s) {
		for _, node := range askedNodes(s) {
			out, held := modelSet(c, s, pod, node)
			wantSet(t, why, c, s, pod, node, out, held)
		}
		node, out := modelOustPick(c, s, pod)
		wantOustPick(t, why, c, s, pod, node, out...)
	}
	wantJust(t, why, c, s)
	wantPlanJust(t, why, c, s, modelOust(c, s))
}

// wantPlanJust asks for the plan, and P8 and P4 behind each of its changes and behind all of them.
func wantPlanJust(t *testing.T, why string, c impl.Cfg, s impl.State, list []impl.Write) {
	t.Helper()
	wantOustPlan(t, why, c, s, list...)
	behind, out := s, []int(nil)
	for _, w := range list {
		ahead, done := behind, false
		if behind, done = impl.WriteDo(c, ahead, w); !done || !impl.StateOk(c, behind) {
			t.Fatalf("%s: %v is not done, or not ok behind it: %v", why, w, behind)
		}
		switch w.Kind {
		case impl.WriteOust:
			out = append(out, w.A)
		case impl.WriteNom:
			wantServed(t, why, c, back(ahead, s, out), w, out)
			out = nil
		default:
			t.Errorf("%s: %v is in the plan: %v", why, w, list)
		}
	}
	if all, n := impl.WriteAll(c, s, list); n != len(list) || !sameState(all, behind) || len(out) > 0 {
		t.Errorf("%s: %d of %v are done, behind them is %v, want %v", why, n, list, all, behind)
	}
	wantHeldByNone(t, why, c, behind)
	wantOnlyOusted(t, why, s, behind, list)
	wantPlacesHold(t, why, c, behind)
}

// back is s with those who were put out last where they were ahead of all.
func back(s impl.State, first impl.State, out []int) impl.State {
	s = copyState(s)
	for i, p := range s.Pods {
		if slices.Contains(out, p.Id) {
			s.Pods[i], _ = podOf(first, p.Id)
		}
	}
	return s
}

// wantServed asks of a change that keeps a place, as things are behind the ones ahead, that who is put out for it goes
// justly, that nobody is put out where a node had room, and that no other node was left with fewer.
func wantServed(t *testing.T, why string, c impl.Cfg, s impl.State, w impl.Write, out []int) {
	t.Helper()
	p, _ := podOf(s, w.A)
	order := modelOrder(c, s)
	for i, q := range s.Pods { // the places of who was not served are not kept
		if slices.Index(order, q.Id) >= slices.Index(order, p.Id) {
			s.Pods[i].Nom = 0
		}
	}
	held := false
	for _, n := range s.Nodes {
		lower := modelLower(c, s, p, n.Id)
		held = held || roomWithout(c, s, p, n.Id, lower)
		if len(out) > 0 && roomWithout(c, s, p, n.Id, nil) {
			t.Errorf("%s: %v go for the pod %d, which has room on the node %d: %v of %v", why, out, w.A, n.Id, s, c)
		}
		if set, ok := impl.OustSet(c, s, w.A, n.Id); ok && len(set) < len(out) {
			t.Errorf("%s: %v go for the pod %d, but only %v from the node %d: %v of %v", why, out, w.A, set, n.Id, s, c)
		}
	}
	if held != (w.B != 0) {
		t.Errorf("%s: the pod %d is held %v, by the node %d: %v of %v", why, w.A, held, w.B, s, c)
	}
	wantNoFewer(t, why+", in the plan", c, s, p, w.B, out, w.B != 0)
}

// wantHeldByNone is the last part of P8: a pod that waits behind the plan and has no place could be held by no node, even
// without all of lower rank.
func wantHeldByNone(t *testing.T, why string, c impl.Cfg, behind impl.State) {
	t.Helper()
	for _, p := range behind.Pods {
		if p.Node != 0 || p.Nom != 0 {
			continue
		}
		wantOustPick(t, why+", behind the plan", c, behind, p.Id, 0)
		for _, n := range behind.Nodes {
			if lower := modelLower(c, behind, p, n.Id); roomWithout(c, behind, p, n.Id, lower) {
				t.Errorf("%s: the pod %d waits behind the plan, and the node %d could hold it without %v: %v of %v", why, p.Id, n.Id, lower, behind, c)
			}
		}
	}
}

// wantOnlyOusted asks that who is put out was on a node, once, and waits, that places are as the plan says, and that all
// else is as it was.
func wantOnlyOusted(t *testing.T, why string, s impl.State, behind impl.State, list []impl.Write) {
	t.Helper()
	s = copyState(s)
	asked := map[impl.Write]bool{}
	for _, w := range list {
		at := slices.IndexFunc(s.Pods, func(p impl.Pod) bool { return p.Id == w.A })
		one := impl.Write{Kind: w.Kind, A: w.A}
		if at < 0 || asked[one] || w.N != 0 {
			t.Fatalf("%s: %v is no change, or one of a pod that had one: %v", why, w, list)
		}
		asked[one] = true
		switch p := &s.Pods[at]; {
		case w.Kind == impl.WriteOust && p.Node != 0 && w.B == 0:
			p.Node, p.Wait = 0, 0
		case w.Kind == impl.WriteNom && p.Node == 0:
			p.Nom = w.B
		default:
			t.Errorf("%s: %v is of no such pod: %v of %v", why, w, list, s)
		}
	}
	if !sameState(s, behind) {
		t.Errorf("%s: behind the plan %v is %v, want %v", why, list, behind, s)
	}
}

// wantPlacesHold asks that behind the plan all places that are kept hold together: there is no more to be done, and who
// has one is put there.
func wantPlacesHold(t *testing.T, why string, c impl.Cfg, behind impl.State) {
	t.Helper()
	wantOustPlan(t, why+", behind the plan", c, behind)
	var list []impl.Write
	for _, pod := range modelOrder(c, behind) {
		if p, _ := podOf(behind, pod); p.Nom != 0 {
			list = append(list, bind(pod, p.Nom))
		}
	}
	wantBindPlan(t, why+", behind the plan", c, behind, list...)
}

func TestOustSet(t *testing.T) {
	for _, x := range []struct {
		why  string
		pods []impl.Pod // beside the nodes 1 of 6, 2 of 4, 3 that boots, 4 of 3; 4 go with rank 7, 2 with rank 4, 1 with rank 1
		pod  int
		node int
		want []int
		held bool
	}{
		{"an empty node", []impl.Pod{waits(0)}, 1, 1, nil, true},
		{"an empty node that it fits just", []impl.Pod{waits(0)}, 1, 2, nil, true},
		{"an empty node that it does not fit", []impl.Pod{waits(0)}, 1, 4, nil, false},
		{"it fits just beside lower ones", []impl.Pod{waits(0), isOn(2, 1), isOn(2, 1)}, 1, 1, nil, true},
		{"it fits just beside one", []impl.Pod{waits(1), isOn(2, 4)}, 1, 4, nil, true},
		{"lower ones elsewhere", []impl.Pod{waits(0), isOn(1, 1), isOn(1, 1), isOn(2, 4)}, 1, 2, nil, true},

		{"one of three", []impl.Pod{waits(0), isOn(2, 1), isOn(2, 1), isOn(2, 1)}, 1, 1, []int{4}, true},
		{"one of two", []impl.Pod{waits(0), isOn(1, 1), isOn(1, 1)}, 1, 1, []int{3}, true},
		{"the only one", []impl.Pod{waits(0), isOn(1, 2)}, 1, 2, []int{2}, true},
		{"the one of the lower rank, of a greater number", []impl.Pod{waits(0), isOn(1, 1), isOn(2, 1)}, 1, 1, []int{3}, true},
		{"the one of the lower rank, of a lesser number", []impl.Pod{isOn(2, 1), isOn(1, 1), waits(0)}, 3, 1, []int{1}, true},
		{"two of three", []impl.Pod{waits(0), isOn(1, 1), isOn(1, 1), isOn(1, 1)}, 1, 1, []int{4, 3}, true},
		{"two of six", []impl.Pod{isOn(2, 1), isOn(2, 1), isOn(2, 1), waits(1), isOn(2, 1), isOn(2, 1), isOn(2, 1)}, 4, 1, []int{7, 6}, true},
		{"four of six", []impl.Pod{isOn(2, 1), isOn(2, 1), isOn(2, 1), waits(0), isOn(2, 1), isOn(2, 1), isOn(2, 1)}, 4, 1, []int{7, 6, 5, 3}, true},
		{"both", []impl.Pod{waits(0), isOn(1, 2), isOn(1, 2)}, 1, 2, []int{3, 2}, true},
		{"all four", []impl.Pod{waits(0), isOn(2, 2), isOn(2, 2), isOn(2, 2), isOn(2, 2)}, 1, 2, []int{5, 4, 3, 2}, true},
		{"all, of two ranks", []impl.Pod{waits(0), isOn(1, 2), isOn(2, 2), isOn(2, 2)}, 1, 2, []int{4, 3, 2}, true},
		{"the lowest rank first, then the greatest number", []impl.Pod{waits(0), isOn(2, 1), isOn(1, 1), isOn(2, 1), isOn(1, 1)}, 1, 1, []int{4, 2, 5}, true},
		{"one that starts, and one", []impl.Pod{waits(0), {Work: 1, Node: 2, Wait: 3}, isOn(1, 2)}, 1, 2, []int{3, 2}, true},
		{"one that starts tells nothing", []impl.Pod{waits(0), isOn(1, 1), {Work: 1, Node: 1, Wait: 3}}, 1, 1, []int{3}, true},

		{"two of the lowest rank go ahead of one that would do", []impl.Pod{waits(0), isOn(1, 1), isOn(2, 1), isOn(2, 1)}, 1, 1, []int{4, 3}, true},
		{"the one of higher rank stays, as two do", []impl.Pod{waits(1), isOn(2, 4), isOn(2, 4), isOn(2, 4)}, 1, 4, []int{4, 3}, true},
		{"a higher one goes with a lower one, another stays", []impl.Pod{waits(0), isOn(1, 1), isOn(1, 1), isOn(2, 1)}, 1, 1, []int{4, 3}, true},

		{"one of equal rank never goes", []impl.Pod{waits(1), isOn(1, 2), isOn(1, 2)}, 1, 2, nil, false},
		{"of equal rank, and a lower one that is not enough", []impl.Pod{waits(1), isOn(1, 4), isOn(2, 4)}, 1, 4, nil, false},
		{"of equal rank, and lower ones", []impl.Pod{waits(1), isOn(1, 2), isOn(2, 2), isOn(2, 2)}, 1, 2, []int{4, 3}, true},
		{"of equal rank and a lesser number", []impl.Pod{isOn(0, 2), waits(0)}, 2, 2, nil, false},
		{"one of higher rank never goes", []impl.Pod{waits(1), isOn(0, 2)}, 1, 2, nil, false},
		{"of higher rank, and lower ones", []impl.Pod{waits(1), isOn(2, 1), isOn(0, 1), isOn(2, 1)}, 1, 1, []int{4, 2}, true},
		{"the lowest rank puts out nobody", []impl.Pod{waits(2), isOn(2, 4), isOn(2, 4), isOn(2, 4)}, 1, 4, nil, false},
		{"without all it does not fit yet", []impl.Pod{waits(0), isOn(1, 4), isOn(2, 4)}, 1, 4, nil, false},

		{"kept for higher rank", []impl.Pod{waits(1), waitsFor(0, 1), isOn(2, 1)}, 1, 1, []int{3}, true},
		{"kept for higher rank, which leaves too little", []impl.Pod{waits(1), waitsFor(0, 2), isOn(2, 2)}, 1, 2, nil, false},
		{"kept for equal rank", []impl.Pod{waits(1), waitsFor(1, 1), isOn(1, 1), isOn(2, 1)}, 1, 1, []int{4}, true},
		{"kept for equal rank, which leaves too little", []impl.Pod{waits(0), waitsFor(0, 1), isOn(2, 1)}, 1, 1, nil, false},
		{"kept for one of equal rank and a lesser number", []impl.Pod{waitsFor(1, 4), isOn(2, 4), waits(1)}, 3, 4, nil, false},
		{"kept for lower rank", []impl.Pod{waits(0), waitsFor(1, 1), waitsFor(2, 1), waitsFor(1, 1)}, 1, 1, nil, true},
		{"kept for lower rank, with lower ones", []impl.Pod{waits(0), waitsFor(1, 1), isOn(2, 1), waitsFor(1, 1), isOn(1, 1)}, 1, 1, []int{3}, true},
		{"kept for each rank", []impl.Pod{waits(1), waitsFor(1, 1), waitsFor(2, 1), isOn(2, 1), isOn(2, 1), isOn(2, 1)}, 1, 1, []int{6}, true},
		{"kept for the pod itself", []impl.Pod{waitsFor(0, 1), isOn(2, 1), isOn(2, 1)}, 1, 1, nil, true},
		{"kept for the pod itself, with too many", []impl.Pod{waitsFor(0, 1), isOn(2, 1), isOn(2, 1), isOn(2, 1)}, 1, 1, []int{4}, true},
		{"kept for the pod itself elsewhere", []impl.Pod{waitsFor(0, 1), isOn(2, 2)}, 1, 2, []int{2}, true},
		{"kept elsewhere", []impl.Pod{waits(0), waitsFor(0, 1), isOn(2, 2)}, 1, 2, []int{3}, true},

		{"a node that boots", []impl.Pod{waits(0)}, 1, 3, nil, false},
		{"the next node", []impl.Pod{waits(0)}, 1, 5, nil, false},
		{"no node", []impl.Pod{waits(0)}, 1, 0, nil, false},
		{"no node, others wait", []impl.Pod{waits(0), waits(2), waits(2)}, 1, 0, nil, false},
		{"a node below 0", []impl.Pod{waits(0)}, 1, -1, nil, false},
		{"the next pod", []impl.Pod{waits(0)}, 2, 1, nil, false},
		{"no pod", []impl.Pod{waits(0)}, 0, 1, nil, false},
		{"a pod below 0", []impl.Pod{waits(0)}, -1, 1, nil, false},
		{"a pod on that node", []impl.Pod{isOn(1, 1), isOn(2, 1)}, 1, 1, nil, false},
		{"a pod on another node", []impl.Pod{isOn(1, 2), isOn(2, 1)}, 1, 1, nil, false},
		{"a pod that starts", []impl.Pod{{Work: 1, Node: 2, Wait: 2}, isOn(2, 1)}, 1, 1, nil, false},
	} {
		s := hosting(rankCfg(), []int{0, 1, -1, 2}, x.pods...)
		wantSet(t, x.why, rankCfg(), s, x.pod, x.node, x.want, x.held)
		wantOusted(t, x.why, rankCfg(), s)
	}
}

// Both measures: one of the lowest rank stays where it is of no use, and what is kept never leaves less than nothing.
func TestOustSetOfBothMeasures(t *testing.T) {
	c := rankedCfg([]impl.CfgWork{ranked(2, 2, 7), ranked(0, 3, 4), ranked(1, 0, 1)}, size(4, 4), size(2, 3))
	for _, x := range []struct {
		why  string
		pods []impl.Pod // beside the nodes 1 of 4 and 4, 2 of 2 and 3
		pod  int
		node int
		want []int
		held bool
	}{
		{"the lowest is of no use", []impl.Pod{waits(0), isOn(1, 1), isOn(2, 1)}, 1, 1, []int{2}, true},
		{"two of the lowest are of no use", []impl.Pod{waits(0), isOn(2, 1), isOn(1, 1), isOn(2, 1)}, 1, 1, []int{3}, true},
		{"one of the lowest is of use, two are not", []impl.Pod{waits(0), isOn(2, 1), isOn(1, 1), isOn(2, 1), isOn(2, 1)}, 1, 1, []int{5, 3}, true},
		{"both measures are short", []impl.Pod{waits(0), isOn(1, 2), isOn(2, 2)}, 1, 2, []int{3, 2}, true},
		{"only Cpu is short", []impl.Pod{waits(0), isOn(2, 2), isOn(2, 2)}, 1, 2, []int{3, 2}, true},
		{"only Mem is short", []impl.Pod{waits(0), isOn(1, 2)}, 1, 2, []int{2}, true},
		{"it takes no Cpu, and more is kept than is free", []impl.Pod{waits(1), isOn(0, 1), isOn(2, 1), isOn(2, 1), waitsFor(0, 1)}, 1, 1, nil, false},
		{"it takes no Mem, and more is kept than there is", []impl.Pod{waitsFor(2, 2), waits(2), waitsFor(1, 2), waitsFor(1, 2)}, 2, 2, nil, true},
		{"more Mem is kept than there is, Cpu has room", []impl.Pod{waits(2), waitsFor(1, 1), waitsFor(1, 1), waitsFor(1, 1)}, 1, 1, nil, true},
		{"more Cpu is kept than is free, Mem has room", []impl.Pod{waits(1), isOn(2, 1), isOn(2, 1), isOn(2, 1), waitsFor(0, 1)}, 1, 1, nil, false},
	} {
		s := hosting(c, []int{0, 1}, x.pods...)
		wantSet(t, x.why, c, s, x.pod, x.node, x.want, x.held)
		wantOusted(t, x.why, c, s)
	}
	c = rankedCfg([]impl.CfgWork{ranked(3, 0, 7), ranked(0, 2, 4), ranked(1, 1, 1)}, size(4, 4))
	s := hosting(c, []int{0}, waits(1), waitsFor(0, 1), waitsFor(0, 1), isOn(2, 1), isOn(2, 1), isOn(2, 1))
	wantSet(t, "more Cpu is kept than is free, of which it takes none", c, s, 1, 1, []int{6}, true)
	wantOusted(t, "more Cpu is kept than is free, of which it takes none", c, s)
}

// Works of one rank do not put out each other, also where they are two works.
func TestOustOfOneRank(t *testing.T) {
	for rank := range 10 {
		c := rankCfg()
		c.Works[0].Rank, c.Works[1].Rank, c.Works[2].Rank = rank, rank, 4
		s := hosting(c, []int{1}, isOn(1, 1), isOn(2, 1), waits(0), isOn(2, 1))
		want, held := []int(nil), false
		wantSet(t, "of one rank", c, s, 3, 1, want, held)
		wantOusted(t, "of one rank", c, s)
		s.Pods[0] = impl.Pod{Id: 1, Work: 1}
		s.Pods[2].Work = 1
		wantSet(t, "two that wait, of one rank", c, s, 3, 1, nil, true)
		s = hosting(c, []int{1}, isOn(2, 1), isOn(2, 1), waits(0), isOn(2, 1))
		if rank > 4 {
			want, held = []int{4, 2, 1}, true
		}
		wantSet(t, "of another rank", c, s, 3, 1, want, held)
		wantOusted(t, "of another rank", c, s)
	}
}

func TestOustPick(t *testing.T) {
	for _, x := range []struct {
		why    string
		groups []int // of the nodes 1 and on: 0 of 6, 1 of 4, 2 of 3; -1 is one of 6 that boots
		pods   []impl.Pod
		pod    int
		node   int
		out    []int
	}{
		{"no node", nil, []impl.Pod{waits(0)}, 1, 0, nil},
		{"one node", []int{0}, []impl.Pod{waits(0)}, 1, 1, nil},
		{"one that boots", []int{-1}, []impl.Pod{waits(0)}, 1, 0, nil},
		{"one that boots, and one", []int{-1, 0}, []impl.Pod{waits(0)}, 1, 2, nil},
		{"one that is too little", []int{2}, []impl.Pod{waits(0)}, 1, 0, nil},
		{"one that is too little, and one", []int{2, 1}, []impl.Pod{waits(0)}, 1, 2, nil},
		{"one of which one goes", []int{1}, []impl.Pod{waits(0), isOn(1, 1)}, 1, 1, []int{2}},
		{"two of which one goes each", []int{1, 1}, []impl.Pod{waits(0), isOn(1, 2), isOn(1, 1)}, 1, 1, []int{3}},
		{"three of which one goes each, the first boots", []int{-2, 1, 1}, []impl.Pod{waits(0), isOn(1, 3), isOn(1, 2)}, 1, 2, []int{3}},
		{"two go, or one", []int{1, 1}, []impl.Pod{waits(0), isOn(2, 1), isOn(2, 1), isOn(2, 2)}, 1, 2, []int{4}},
		{"one goes, or two", []int{1, 1}, []impl.Pod{waits(0), isOn(2, 1), isOn(2, 2), isOn(2, 2)}, 1, 1, []int{2}},
		{"three, one, two", []int{1, 1, 1}, []impl.Pod{waits(0), isOn(2, 1), isOn(2, 1), isOn(2, 1), isOn(2, 2), isOn(2, 3), isOn(2, 3)}, 1, 2, []int{5}},
		{"three, two, two", []int{1, 1, 1}, []impl.Pod{waits(0), isOn(2, 1), isOn(2, 1), isOn(2, 1), isOn(2, 2), isOn(2, 3), isOn(2, 3), isOn(2, 2)}, 1, 2, []int{8, 5}},
		{"two of a lower rank, or one of a higher", []int{1, 1}, []impl.Pod{waits(0), isOn(2, 1), isOn(2, 1), isOn(1, 2)}, 1, 2, []int{4}},
		{"one of a higher rank ahead of one of a lower", []int{1, 1}, []impl.Pod{waits(0), isOn(2, 2), isOn(1, 1)}, 1, 1, []int{3}},
		{"three little ones, or two great ones", []int{0, 0}, []impl.Pod{waits(0), isOn(1, 1), isOn(1, 1), isOn(2, 1), isOn(2, 1), isOn(1, 2), isOn(1, 2), isOn(1, 2)}, 1, 2, []int{8, 7}},
		{"none goes, behind one of which one goes", []int{1, 0}, []impl.Pod{waits(0), isOn(1, 1)}, 1, 2, nil},
		{"two of which none goes, the emptier one first", []int{0, 1}, []impl.Pod{waits(0)}, 1, 1, nil},
		{"two of which none goes, the fuller one first", []int{1, 0}, []impl.Pod{waits(0)}, 1, 1, nil},
		{"equal rank on one, lower on the other", []int{1, 1}, []impl.Pod{waits(1), isOn(1, 1), isOn(1, 1), isOn(2, 2), isOn(2, 2), isOn(2, 2), isOn(2, 2)}, 1, 2, []int{7, 6}},
		{"equal rank on both", []int{1, 1}, []impl.Pod{waits(1), isOn(1, 1), isOn(1, 1), isOn(0, 2)}, 1, 0, nil},
		{"its place tells nothing", []int{1, 1}, []impl.Pod{waitsFor(0, 2), isOn(2, 1), isOn(2, 2)}, 1, 1, []int{2}},
		{"its place has room, and so has the first", []int{1, 1}, []impl.Pod{waitsFor(0, 2)}, 1, 1, nil},
		{"a place is kept for equal rank", []int{1, 1}, []impl.Pod{waits(0), waitsFor(0, 1), isOn(2, 2)}, 1, 2, []int{3}},
		{"a place is kept for lower rank", []int{1, 1}, []impl.Pod{waits(0), waitsFor(1, 1), isOn(2, 2)}, 1, 1, nil},
		{"a place is kept for higher rank, one more goes", []int{0, 2}, []impl.Pod{waits(1), waitsFor(0, 1), isOn(2, 1), isOn(2, 1), isOn(2, 2), isOn(2, 2)}, 1, 2, []int{6}},

		{"a pod that is ready", []int{0, 0}, []impl.Pod{isOn(0, 1), isOn(2, 2)}, 1, 0, nil},
		{"a pod that starts", []int{0, 0}, []impl.Pod{{Work: 1, Node: 1, Wait: 2}}, 1, 0, nil},
		{"the next pod", []int{0, 0}, []impl.Pod{waits(1)}, 2, 0, nil},
		{"no pod", []int{0, 0}, []impl.Pod{waits(1)}, 0, 0, nil},
		{"a pod below 0", []int{0, 0}, []impl.Pod{waits(1)}, -1, 0, nil},
	} {
		s := hosting(rankCfg(), x.groups, x.pods...)
		wantOustPick(t, x.why, rankCfg(), s, x.pod, x.node, x.out...)
		wantOusted(t, x.why, rankCfg(), s)
	}
}

func TestOustPlanCases(t *testing.T) {
	for _, x := range []struct {
		why    string
		groups []int // of the nodes 1 and on: 0 of 6, 1 of 4, 2 of 3; -1 is one of 6 that boots
		pods   []impl.Pod
		want   []impl.Write
	}{
		{"nobody", []int{0}, nil, nil},
		{"nobody waits", []int{0, 0}, []impl.Pod{isOn(0, 1), isOn(2, 2)}, nil},
		{"no nodes", nil, []impl.Pod{waits(0), waits(1)}, nil},
		{"only one that boots", []int{-1}, []impl.Pod{waits(0), waits(2)}, nil},
		{"one", []int{0}, []impl.Pod{waits(2)}, []impl.Write{nom(1, 1)}},
		{"one that fits just", []int{1}, []impl.Pod{waits(0)}, []impl.Write{nom(1, 1)}},
		{"one that does not fit", []int{2}, []impl.Pod{waits(0)}, nil},
		{"the fullest node", []int{0, 1, 0}, []impl.Pod{waits(2), isOn(0, 3), isOn(2, 2)}, []impl.Write{nom(1, 3)}},
		{"several", []int{0, 1}, []impl.Pod{waits(2), waits(1), waits(0)}, []impl.Write{nom(3, 2), nom(2, 1), nom(1, 1)}},

		{"the same place as before", []int{0, 0}, []impl.Pod{waitsFor(1, 2)}, nil},
		{"the same place on the emptier one", []int{0, 1}, []impl.Pod{waitsFor(1, 1)}, nil},
		{"the same places of several", []int{1, 2}, []impl.Pod{waitsFor(2, 2), waitsFor(0, 1), waitsFor(1, 2)}, nil},
		{"another place, as there is no room any more", []int{0, 2}, []impl.Pod{waitsFor(1, 2), isOn(2, 2), isOn(1, 2)}, []impl.Write{nom(1, 1)}},
		{"another place, ahead of putting out somebody", []int{2, 0}, []impl.Pod{waitsFor(1, 1), isOn(2, 1), isOn(2, 1)}, []impl.Write{nom(1, 2)}},
		{"another place, as one of higher rank has it", []int{1, 2}, []impl.Pod{waitsFor(1, 1), waits(0)}, []impl.Write{nom(2, 1), nom(1, 2)}},
		{"its place is lost to higher rank", []int{1}, []impl.Pod{waitsFor(1, 1), waits(0)}, []impl.Write{nom(2, 1), nom(1, 0)}},
		{"its place is lost to a lesser number", []int{2}, []impl.Pod{waits(1), waitsFor(1, 1)}, []impl.Write{nom(1, 1), nom(2, 0)}},
		{"its place is lost to a pod on a node", []int{2}, []impl.Pod{isOn(1, 1), waitsFor(1, 1)}, []impl.Write{nom(2, 0)}},
		{"two have one place", []int{2, 2}, []impl.Pod{waitsFor(1, 1), waitsFor(1, 1)}, []impl.Write{nom(2, 2)}},
		{"two have one place, and no other is there", []int{2}, []impl.Pod{waitsFor(1, 1), waitsFor(1, 1)}, []impl.Write{nom(2, 0)}},
		{"a place of lower rank is not kept at first", []int{1, 1}, []impl.Pod{waits(0), waitsFor(2, 1)}, []impl.Write{nom(1, 1), nom(2, 2)}},
		{"a place of higher rank elsewhere is free then", []int{0, 1}, []impl.Pod{waitsFor(0, 2), isOn(0, 1), waits(1), isOn(2, 2)}, []impl.Write{oust(4), nom(1, 2), nom(3, 1)}},

		{"one goes", []int{1}, []impl.Pod{waits(0), isOn(1, 1)}, []impl.Write{oust(2), nom(1, 1)}},
		{"two go, in order", []int{1}, []impl.Pod{waits(0), isOn(1, 1), isOn(2, 1)}, []impl.Write{oust(3), oust(2), nom(1, 1)}},
		{"one goes where its place is", []int{1}, []impl.Pod{waitsFor(0, 1), isOn(1, 1)}, []impl.Write{oust(2), nom(1, 1)}},
		{"one goes where its place is not", []int{1, 1}, []impl.Pod{waitsFor(0, 2), isOn(1, 1), isOn(0, 2)}, []impl.Write{oust(2), nom(1, 1)}},
		{"nobody goes, as there is room elsewhere", []int{1, 0}, []impl.Pod{waits(0), isOn(1, 1)}, []impl.Write{nom(1, 2)}},
		{"nobody goes from a node that boots", []int{-1, 1}, []impl.Pod{waits(0), isOn(1, 2)}, []impl.Write{oust(2), nom(1, 2)}},
		{"nobody of equal rank goes", []int{1, 1}, []impl.Pod{waits(1), waitsFor(0, 1), isOn(0, 1), isOn(0, 2)}, []impl.Write{nom(2, 0)}},
		{"one goes, and another has no room beside who stays", []int{0}, []impl.Pod{waits(0), waits(1), isOn(1, 1), isOn(2, 1)}, []impl.Write{oust(4), nom(1, 1)}},
		{"two go for two", []int{1, 1}, []impl.Pod{waits(0), waits(0), isOn(2, 2), isOn(2, 1), isOn(2, 1)}, []impl.Write{oust(3), nom(1, 2), oust(5), oust(4), nom(2, 1)}},
		{"one goes for the first, the second has no room", []int{1}, []impl.Pod{waits(0), waits(0), isOn(2, 1)}, []impl.Write{oust(3), nom(1, 1)}},

		{"who goes is served", []int{1, 2}, []impl.Pod{waits(0), isOn(1, 1)}, []impl.Write{oust(2), nom(1, 1), nom(2, 2)}},
		{"who goes has no room where it was", []int{0}, []impl.Pod{waits(0), isOn(1, 1), isOn(2, 1), isOn(2, 1)}, []impl.Write{oust(4), oust(3), nom(1, 1)}},
		{"one goes for each of two", []int{0, 1}, []impl.Pod{waits(0), isOn(2, 1), isOn(2, 1), isOn(2, 1), waits(0), isOn(2, 2)}, []impl.Write{oust(4), nom(1, 1), oust(6), nom(5, 2)}},
		{"who goes has others go", []int{1, 2}, []impl.Pod{waits(0), isOn(1, 1), isOn(1, 1), isOn(2, 2), isOn(2, 2), isOn(2, 2)},
			[]impl.Write{oust(3), oust(2), nom(1, 1), oust(6), oust(5), nom(2, 2)}},
		{"who goes is served ahead of one of its rank that waits", []int{1, 2}, []impl.Pod{isOn(1, 1), waits(0), waits(1)}, []impl.Write{oust(1), nom(2, 1), nom(1, 2)}},
		{"who goes is served behind one of its rank that waits", []int{1, 2}, []impl.Pod{waits(1), waits(0), isOn(1, 1)}, []impl.Write{oust(3), nom(2, 1), nom(1, 2)}},
		{"who goes takes the place of one of its rank", []int{1, 2}, []impl.Pod{isOn(1, 1), waits(0), waitsFor(1, 2)}, []impl.Write{oust(1), nom(2, 1), nom(1, 2), nom(3, 0)}},
		{"who goes takes the place of one of lower rank", []int{1, 2}, []impl.Pod{waitsFor(2, 2), waitsFor(2, 2), waits(0), isOn(1, 1)}, []impl.Write{oust(4), nom(3, 1), nom(4, 2), nom(2, 0)}},
	} {
		s := hosting(rankCfg(), x.groups, x.pods...)
		wantOustPlan(t, x.why, rankCfg(), s, x.want...)
		wantOusted(t, x.why, rankCfg(), s)
		wantBrokenOff(t, x.why, rankCfg(), s, x.want)
	}
	wantOustPlan(t, "wide", wideCfg(), wideState(), nom(7, 9))
	wantOustPlan(t, "plain", plainCfg(), plainState(), nom(4, 0))
	wantOustPlan(t, "tight", tightCfg(), tightState())
	for _, x := range okStates() {
		wantOusted(t, x.why, x.c, x.s)
	}
}

// Pods of three ranks that wait, have a place and are on nodes, in every order of their numbers.
func TestOustInEveryOrder(t *testing.T) {
	nodes := []int{1, 2}
	for way := range 12 * 12 * 12 * 12 {
		var pods []impl.Pod
		for left := way; len(pods) < 4; left /= 12 {
			work, at := left%3, left/3%4
			pods = append(pods, []impl.Pod{waits(work), waitsFor(work, 2), isOn(work, 1), isOn(work, 2)}[at])
		}
		if s := hosting(rankCfg(), nodes, pods...); impl.StateOk(rankCfg(), s) {
			wantOustPlan(t, "in every order", rankCfg(), s, modelOust(rankCfg(), s)...)
			if way%13 == 0 {
				wantOusted(t, "in every order", rankCfg(), s)
			}
		}
	}
}

// As many pods and nodes as there may be, with the last numbers, of which each node holds one: all of the middle rank are
// put out by those of the highest, and put out those of the lowest.
func TestOustPlanOfMost(t *testing.T) {
	c, s := tightCfg(), tightState()
	var want []impl.Write
	for i := range c.Works {
		c.Works[i].Rank = 9 - 4*i
	}
	for i := range s.Pods {
		s.Pods[i].Work = i / 8
	}
	wantOusted(t, "all are on nodes", c, s)
	wantOustPlan(t, "all are on nodes", c, s)
	for i := range 8 {
		onNode(i, 0, 0)(&s)
		s.Nodes[i].Boot = 1
	}
	for i := range 8 {
		want = append(want, oust(s.Pods[8+i].Id), nom(s.Pods[i].Id, s.Nodes[8+i].Id))
	}
	for i := range 8 {
		want = append(want, oust(s.Pods[16+i].Id), nom(s.Pods[8+i].Id, s.Nodes[16+i].Id))
	}
	wantOustPlan(t, "each rank puts out the next", c, s, want...)
	wantOusted(t, "each rank puts out the next", c, s)
	wantBrokenOff(t, "each rank puts out the next", c, s, want)
	for i := range c.Works {
		c.Works[i].Rank = 4
	}
	wantOustPlan(t, "all are of one rank", c, s)
	wantOusted(t, "all are of one rank", c, s)
}

// One node full of lower ones of each number: as many go as it takes, no more.
func TestOustSetSlots(t *testing.T) {
	for many := range impl.CfgMaxPods + 1 {
		for one := 1; one <= 4; one++ {
			for asks := 1; asks <= 16; asks++ {
				c := rankedCfg([]impl.CfgWork{ranked(asks, 0, 1), ranked(one, 0, 0)}, size(18, 0))
				pods := []impl.Pod{waits(0)}
				for len(pods) <= many && len(pods)*one <= 18 {
					pods = append(pods, isOn(1, 1))
				}
				free := 18 - (len(pods)-1)*one
				var want []int
				for pod := len(pods); free < asks; pod-- {
					want = append(want, pod)
					free += one
				}
				wantSet(t, "slots", c, hosting(c, []int{0}, pods...), 1, 1, want, true)
			}
		}
	}
}

// someCrowd is what there may be with small sizes, such that pods of higher rank wait and those of lower are on nodes.
func someCrowd(seed *uint32) (impl.Cfg, impl.State) {
	c := rankCfg()
	if nextNumber(seed, 3) > 0 {
		c = someRanked(seed)
		for i := range c.Works {
			c.Works[i].Rank = nextNumber(seed, 4) * nextNumber(seed, 4)
		}
	}
	var groups []int
	for range 1 + nextNumber(seed, 5) {
		groups = append(groups, nextNumber(seed, len(c.Groups)))
	}
	if nextNumber(seed, 4) == 0 {
		groups[0] = -1 - groups[0]
	}
	s := hosting(c, groups)
	for range 3 + nextNumber(seed, 12) {
		s, _ = modelDo(c, s, makePod(nextNumber(seed, len(c.Works))))
	}
	for range 3 * len(s.Pods) {
		p := s.Pods[nextNumber(seed, len(s.Pods))]
		w := bind(p.Id, 1+nextNumber(seed, len(groups)))
		if nextNumber(seed, 10) < rankOf(c, p) {
			w.Kind = impl.WriteNom
		}
		if nextNumber(seed, 8) > 0 {
			s, _ = modelDo(c, s, w)
		}
	}
	return c, s
}

// oustCounts is of which kinds plans were.
type oustCounts struct {
	none, kept, lost, out, several, back, same, chain int
}

func (n *oustCounts) add(c impl.Cfg, s impl.State, list []impl.Write) {
	out := 0
	var first []int
	for _, w := range list {
		p, _ := podOf(s, w.A)
		switch {
		case w.Kind == impl.WriteOust:
			out++
			first = append(first, w.A)
			continue
		case w.B == 0:
			n.lost++
		case out > 0 && p.Node != 0:
			n.chain++
		case out > 0 && p.Nom == w.B:
			n.same++
		case p.Node != 0:
			n.back++
		}
		n.kept++
		n.several += out / 2
		out = 0
	}
	n.out += len(first)
	if len(list) == 0 {
		n.none++
	}
}

func TestOustOfManyWays(t *testing.T) {
	seed := uint32(26)
	var n oustCounts
	for range 4000 {
		c, s := someCrowd(&seed)
		wantOusted(t, "some", c, s)
		n.add(c, s, modelOust(c, s))
	}
	if n.none < 100 || n.kept < 1000 || n.lost < 200 || n.out < 1000 || n.several < 200 || n.back < 200 || n.same < 100 || n.chain < 50 {
		t.Errorf("plans of too few kinds: %+v", n)
	}
}

// fullCases are some that are crowded.
func fullCases(seed *uint32) []stateCase {
	var list []stateCase
	for range 10 {
		c, s := someCrowd(seed)
		list = append(list, stateCase{"crowded", c, s})
	}
	return list
}

// Long ways of any changes, and the plan behind each of them.
func TestOustOnLongWays(t *testing.T) {
	var n oustCounts
	for seed := range uint32(3) {
		for _, x := range append(oustCases()[:len(okStates())+3], fullCases(&seed)...) {
			s := x.s
			for range 100 {
				s, _ = impl.WriteDo(x.c, s, someWrite(&seed, s))
				list := modelOust(x.c, s)
				wantOustPlan(t, x.why, x.c, s, list...)
				n.add(x.c, s, list)
				if nextNumber(&seed, 10) == 0 {
					wantOusted(t, x.why, x.c, s)
				}
			}
		}
	}
	if n.none < 500 || n.kept < 500 || n.lost < 100 || n.out < 500 || n.several < 50 {
		t.Errorf("plans of too few kinds: %+v", n)
	}
}

// The plan of a component behind the other's, broken off anywhere: who has a place is put there, all are in the end.
func TestOustAndBindInTurns(t *testing.T) {
	seed := uint32(8)
	for range 300 {
		c, s := someCrowd(&seed)
		for range 3 {
			list := impl.OustPlan(c, s)
			s, _ = impl.WriteAll(c, s, list[:nextNumber(&seed, len(list)+1)])
			wantOusted(t, "in turns", c, s)
			list = impl.BindPlan(c, s)
			s, _ = impl.WriteAll(c, s, list[:nextNumber(&seed, len(list)+1)])
			wantOusted(t, "in turns", c, s)
		}
		for range 2 * len(s.Pods) {
			s, _ = impl.WriteAll(c, s, impl.OustPlan(c, s))
			s, _ = impl.WriteAll(c, s, impl.BindPlan(c, s))
		}
		wantOustPlan(t, "in the end", c, s)
		wantBindPlan(t, "in the end", c, s)
	}
}

// wantNotOusted asks that nothing is told of what is not ok.
func wantNotOusted(t *testing.T, why string, c impl.Cfg, s impl.State) {
	t.Helper()
	if impl.StateOk(c, s) {
		t.Fatalf("%s: ok: %v", why, s)
	}
	wantOustPlan(t, why, c, s)
	for _, pod := range []int{-1, 0, 1, 2, 6, 7, 13, len(s.Pods)} {
		wantOustPick(t, why, c, s, pod, 0)
		for _, node := range []int{-1, 0, 1, 2, 4, 5, 9} {
			wantSet(t, why, c, s, pod, node, nil, false)
		}
	}
}

func TestOustOfWrongState(t *testing.T) {
	for _, x := range wrongStates() {
		wantNotOusted(t, x.why, x.c, x.s)
	}
	over := hosting(rankCfg(), []int{1}, waits(0), isOn(1, 1), isOn(1, 1), isOn(2, 1))
	wantNotOusted(t, "a node that holds too much, which the plan would mend", rankCfg(), over)
}

// Pods and nodes that there are not, of any greatness.
func TestOustOfNoPodAndNoNode(t *testing.T) {
	crowd := stateCase{"a crowd", rankCfg(), hosting(rankCfg(), []int{1, -1, 2}, waits(0), isOn(1, 1), waitsFor(1, 3), isOn(2, 3))}
	for _, x := range append(okStates(), crowd) {
		for _, wild := range append([]int{-1, -2, 0, x.s.NextPod, x.s.NextNode, impl.StateMaxId}, wildNumbers...) {
			if _, found := podOf(x.s, wild); !found {
				wantOustPick(t, x.why, x.c, x.s, wild, 0)
				for _, n := range x.s.Nodes {
					wantSet(t, x.why, x.c, x.s, wild, n.Id, nil, false)
				}
				wantSet(t, x.why, x.c, x.s, wild, wild, nil, false)
			}
			if !slices.Contains(someNodes(x.s), wild) {
				for _, p := range x.s.Pods {
					wantSet(t, x.why, x.c, x.s, p.Id, wild, nil, false)
				}
			}
		}
	}
}

func TestOustOfWildNumbers(t *testing.T) {
	eachWild(func(why string, c impl.Cfg, s impl.State) {
		if !impl.StateOk(c, s) {
			wantSet(t, why, c, s, 6, 5, nil, false)
			wantOustPick(t, why, c, s, 6, 0)
			wantOustPlan(t, why, c, s)
			return
		}
		wantOustPlan(t, why, c, s, modelOust(c, s)...)
		for _, pod := range []int{-1, 0, 4, 6, 7} {
			node, out := modelOustPick(c, s, pod)
			wantOustPick(t, why, c, s, pod, node, out...)
			out, held := modelSet(c, s, pod, 5)
			wantSet(t, why, c, s, pod, 5, out, held)
		}
	})
}

// oustCases are those of which the memory is asked, with plans that are long, have some put out, and are none.
func oustCases() []stateCase {
	return append(okStates(),
		stateCase{"some go", rankCfg(), hosting(rankCfg(), []int{1, 2}, waits(0), isOn(1, 1), isOn(1, 1), isOn(2, 2), isOn(2, 2), isOn(2, 2))},
		stateCase{"places are lost", rankCfg(), hosting(rankCfg(), []int{0, 1}, waitsFor(0, 2), waitsFor(2, 2), isOn(2, 2), isOn(2, 2), isOn(0, 1), waitsFor(1, 1), waitsFor(1, 1))},
		stateCase{"looked at", lookCfg(), lookState()},
		stateCase{"turned round", wideCfg(), changed(func(s *impl.State) { slices.Reverse(s.Pods); slices.Reverse(s.Nodes) })},
		stateCase{"nothing", wideCfg(), impl.State{}},
		stateCase{"not ok", plainCfg(), wideState()},
	)
}

func TestOustMemory(t *testing.T) {
	for _, x := range oustCases() {
		wantPlanMemory(t, x, func(c impl.Cfg, s impl.State) []impl.Write {
			for _, pod := range askedPods(x.s) {
				node, out := impl.OustPick(x.c, x.s, pod)
				wantOustPick(t, x.why, c, s, pod, node, out...)
				for _, node := range askedNodes(x.s) {
					out, held := impl.OustSet(x.c, x.s, pod, node)
					wantSet(t, x.why, c, s, pod, node, out, held)
				}
			}
			return impl.OustPlan(c, s)
		})
	}
}

func TestOustListsMemory(t *testing.T) {
	for _, x := range oustCases() {
		for _, pod := range askedPods(x.s) {
			wantNewList(t, x, func(s impl.State) []int {
				_, out := impl.OustPick(x.c, s, pod)
				return out
			})
			for _, node := range askedNodes(x.s) {
				wantNewList(t, x, func(s impl.State) []int {
					out, _ := impl.OustSet(x.c, s, pod, node)
					return out
				})
			}
		}
	}
}

// Nothing is kept between two calls: the same is answered whatever was asked in between.
func TestOustKeepsNothing(t *testing.T) {
	seed := uint32(9)
	for range 200 {
		c, s := someCrowd(&seed)
		d, other := someCrowd(&seed)
		out, held := impl.OustSet(c, s, 1, 1)
		node, who := impl.OustPick(c, s, 1)
		plan := impl.OustPlan(c, s)
		impl.OustSet(d, other, 1, 1)
		impl.OustPick(d, other, 1)
		impl.OustPlan(d, other)
		impl.OustPick(c, s, math.MaxInt)
		wantSet(t, "again", c, s, 1, 1, out, held)
		wantOustPick(t, "again", c, s, 1, node, who...)
		wantOustPlan(t, "again", c, s, plan...)
	}
}
