package tests

import (
	"math"
	"slices"
	"testing"

	"loop.example/hive/impl"
)

func waits(work int) impl.Pod            { return impl.Pod{Work: work} }
func hasPlace(work int) impl.Pod         { return impl.Pod{Work: work, Nom: 4} }
func starts(work int, wait int) impl.Pod { return impl.Pod{Work: work, Node: 4, Wait: wait} }
func ready(work int) impl.Pod            { return impl.Pod{Work: work, Node: 4} }

// standing has the pods with the numbers 1 and on, beside the node 4.
func standing(c impl.Cfg, pods ...impl.Pod) impl.State {
	s := readyState(c)
	for i, p := range pods {
		p.Id = i + 1
		s.Pods = append(s.Pods, p)
	}
	s.NextPod = len(pods) + 1
	return s
}

// wanted is s with so many pods wanted of each work.
func wanted(s impl.State, wants ...int) impl.State {
	s = copyState(s)
	for work, n := range wants {
		s.Works[work].Want = n
	}
	return s
}

func wantVictim(t *testing.T, why string, s impl.State, work int, want int) {
	t.Helper()
	if got := impl.MakeVictim(s, work); got != want {
		t.Errorf("%s: MakeVictim of the work %d is %d, want %d: %v", why, work, got, want, s.Pods)
	}
}

func wantMakePlan(t *testing.T, why string, c impl.Cfg, s impl.State, want ...impl.Write) {
	t.Helper()
	if got := impl.MakePlan(c, s); !slices.Equal(got, want) {
		t.Errorf("%s: MakePlan is %v, want %v: %v of %v", why, got, want, s, c)
	}
}

// goers are the pods of a work in the order in which they go, without a comparison of two of them but by number.
func goers(s impl.State, work int) []int {
	var list []int
	for _, isOf := range []func(p impl.Pod) bool{
		func(p impl.Pod) bool { return p.Node == 0 },
		func(p impl.Pod) bool { return p.Node != 0 && p.Wait > 0 },
		func(p impl.Pod) bool { return p.Node != 0 && p.Wait <= 0 },
	} {
		var alike []int
		for _, p := range s.Pods {
			if p.Work == work && isOf(p) {
				alike = append(alike, p.Id)
			}
		}
		slices.Sort(alike)
		slices.Reverse(alike)
		list = append(list, alike...)
	}
	return list
}

func modelVictim(s impl.State, work int) int {
	if list := goers(s, work); len(list) > 0 {
		return list[0]
	}
	return 0
}

// modelMake is the chapter's MakePlan once more, for what is ok, by counting alone: no change is done.
func modelMake(s impl.State) []impl.Write {
	var list []impl.Write
	numbers := impl.StateMaxId - s.NextPod
	for work, w := range s.Works {
		pods := goers(s, work)
		for _, pod := range pods[:max(0, len(pods)-w.Want)] {
			list = append(list, kill(pod))
		}
		for range max(0, w.Want-len(pods)) {
			if numbers == 0 {
				return list
			}
			numbers--
			list = append(list, makePod(work))
		}
	}
	return list
}

// wantMade asks of what is ok what the models say, and P6 and P4, change by change.
func wantMade(t *testing.T, why string, c impl.Cfg, s impl.State) {
	t.Helper()
	if !impl.StateOk(c, s) {
		t.Fatalf("%s: not ok: %v of %v", why, s, c)
	}
	for work := -1; work <= len(c.Works); work++ {
		wantVictim(t, why, s, work, modelVictim(s, work))
	}
	list := modelMake(s)
	wantMakePlan(t, why, c, s, list...)
	behind := s
	for i, w := range list {
		wantNoneReadyAhead(t, why, behind, w)
		done := false
		if behind, done = impl.WriteDo(c, behind, w); !done || !impl.StateOk(c, behind) {
			t.Fatalf("%s: %v is not done, or not ok behind it: %v", why, w, behind)
		}
		wantMakePlan(t, why+", behind a part of the plan", c, behind, list[i+1:]...)
	}
	wantAsMany(t, why, behind)
	wantOthersKept(t, why, s, behind)
	wantBrokenOff(t, why, c, s, list)
}

// wantNoneReadyAhead is the second part of P6: a pod that is ready does not go while one of its kind waits or starts.
func wantNoneReadyAhead(t *testing.T, why string, s impl.State, w impl.Write) {
	t.Helper()
	if w.Kind != impl.WriteKill {
		return
	}
	at := slices.IndexFunc(s.Pods, func(p impl.Pod) bool { return p.Id == w.A })
	if at < 0 {
		t.Fatalf("%s: %v of no pod of %v", why, w, s)
	}
	pods, readyOnes := impl.StatePods(s, s.Pods[at].Work)
	if s.Pods[at].Node != 0 && s.Pods[at].Wait == 0 && readyOnes != pods {
		t.Errorf("%s: the pod %d goes, which is ready, of %v", why, w.A, s.Pods)
	}
}

// wantAsMany is the first part of P6: behind the plan there are as many as are wanted, unless there is no number left.
func wantAsMany(t *testing.T, why string, behind impl.State) {
	t.Helper()
	for work, w := range behind.Works {
		if n := podsOf(behind, work); n != w.Want && behind.NextPod < impl.StateMaxId {
			t.Errorf("%s: behind the plan there are %d pods of the work %d, want %d: %v", why, n, work, w.Want, behind)
		}
	}
}

// wantOthersKept asks that those that stay are as they were, those that come wait, and all else is the same.
func wantOthersKept(t *testing.T, why string, s impl.State, behind impl.State) {
	t.Helper()
	for _, p := range behind.Pods {
		if p.Id < s.NextPod && !slices.Contains(s.Pods, p) || p.Id >= s.NextPod && p != (impl.Pod{Id: p.Id, Work: p.Work}) {
			t.Errorf("%s: the pod %v is another behind the plan of %v", why, p, s)
		}
	}
	behind.Pods, behind.NextPod = s.Pods, s.NextPod
	if !sameState(s, behind) {
		t.Errorf("%s: behind the plan is %v, ahead of it %v", why, behind, s)
	}
}

func TestMakeVictim(t *testing.T) {
	for _, x := range []struct {
		why  string
		pods []impl.Pod // with the numbers 1 and on
		want [3]int     // of each work
	}{
		{"none", nil, [3]int{}},
		{"one that waits", []impl.Pod{waits(0)}, [3]int{1}},
		{"one that has a place", []impl.Pod{hasPlace(0)}, [3]int{1}},
		{"one that starts", []impl.Pod{starts(0, 1)}, [3]int{1}},
		{"one that is ready", []impl.Pod{ready(0)}, [3]int{1}},

		{"several that wait", []impl.Pod{waits(0), waits(0), waits(0)}, [3]int{3}},
		{"several that start", []impl.Pod{starts(0, 1), starts(0, 1), starts(0, 1)}, [3]int{3}},
		{"several that are ready", []impl.Pod{ready(0), ready(0), ready(0)}, [3]int{3}},

		{"ready, then one that starts", []impl.Pod{ready(0), starts(0, 1)}, [3]int{2}},
		{"starts, then one that is ready", []impl.Pod{starts(0, 1), ready(0)}, [3]int{1}},
		{"starts, then many that are ready", []impl.Pod{starts(0, 1), ready(0), ready(0), ready(0)}, [3]int{1}},
		{"ready, then one that waits", []impl.Pod{ready(0), waits(0)}, [3]int{2}},
		{"waits, then one that is ready", []impl.Pod{waits(0), ready(0)}, [3]int{1}},
		{"waits, then one that starts", []impl.Pod{waits(0), starts(0, 1)}, [3]int{1}},
		{"starts, then one that waits", []impl.Pod{starts(0, 1), waits(0)}, [3]int{2}},
		{"has a place, then one that starts", []impl.Pod{hasPlace(0), starts(0, 1)}, [3]int{1}},
		{"has a place, then one that is ready", []impl.Pod{hasPlace(0), ready(0)}, [3]int{1}},
		{"waits, starts, is ready", []impl.Pod{waits(0), starts(0, 1), ready(0)}, [3]int{1}},
		{"is ready, starts, waits", []impl.Pod{ready(0), starts(0, 1), waits(0)}, [3]int{3}},
		{"starts, waits, is ready", []impl.Pod{starts(0, 1), waits(0), ready(0)}, [3]int{2}},
		{"two of each", []impl.Pod{waits(0), starts(0, 1), ready(0), waits(0), starts(0, 1), ready(0)}, [3]int{4}},
		{"two that start among those that are ready", []impl.Pod{ready(0), starts(0, 1), starts(0, 1), ready(0)}, [3]int{3}},

		{"a place that is kept tells nothing", []impl.Pod{hasPlace(0), waits(0)}, [3]int{2}},
		{"nor the other way round", []impl.Pod{waits(0), hasPlace(0)}, [3]int{2}},
		{"how long it starts yet tells nothing", []impl.Pod{starts(0, 3), starts(0, 1)}, [3]int{2}},
		{"nor the other way round", []impl.Pod{starts(0, 1), starts(0, 3)}, [3]int{2}},

		{"another work's pod waits", []impl.Pod{ready(0), waits(1)}, [3]int{1, 2}},
		{"another work's pods start and wait", []impl.Pod{starts(1, 1), ready(0), waits(2), starts(0, 1), ready(0), ready(2)}, [3]int{4, 1, 3}},
		{"only others have pods", []impl.Pod{waits(1), ready(1)}, [3]int{0, 1, 0}},
	} {
		s := standing(lookCfg(), x.pods...)
		for work, pod := range x.want {
			wantVictim(t, x.why, s, work, pod)
		}
		slices.Reverse(s.Pods)
		for work, pod := range x.want {
			wantVictim(t, x.why+", told from the end", s, work, pod)
		}
	}
	for work, pod := range map[int]int{-1: 0, 0: 6, 1: 7, 2: 13, 3: 0} {
		wantVictim(t, "wide", wideState(), work, pod)
	}
}

// Pods of two works that wait, have a place, start and are ready, in every order of their numbers, with every number of
// them wanted.
func TestMakeInEveryOrder(t *testing.T) {
	c := lookCfg()
	c.Works[0].Min = 1
	kinds := []impl.Pod{waits(0), starts(0, 2), ready(0), hasPlace(1), starts(1, 1), ready(1)}
	for way := range len(kinds) * len(kinds) * len(kinds) * len(kinds) {
		var pods []impl.Pod
		for left := way; len(pods) < 4; left /= len(kinds) {
			pods = append(pods, kinds[left%len(kinds)])
		}
		s := standing(c, pods...)
		for want := 1; want <= 4; want++ {
			wantMade(t, "in every order", c, wanted(s, want, 5-want))
		}
		for range pods {
			s.Pods = append(s.Pods[1:], s.Pods[0])
			for work := -1; work <= 2; work++ {
				wantVictim(t, "told from the middle", s, work, modelVictim(s, work))
			}
		}
	}
}

// All of a work's pods, one behind the other, in the order in which they go.
func TestMakeTheyGo(t *testing.T) {
	c := oneWork(impl.CfgWork{Min: 1, Max: 8, Target: 10, Limit: 20})
	s := standing(c, ready(0), waits(0), starts(0, 3), ready(0), hasPlace(0), starts(0, 1), waits(0), ready(0))
	order := []int{7, 5, 2, 6, 3, 8, 4, 1}
	for want := 1; want <= 8; want++ {
		var list []impl.Write
		for _, pod := range order[:8-want] {
			list = append(list, kill(pod))
		}
		wantMakePlan(t, "they go", c, wanted(s, want), list...)
		wantMade(t, "they go", c, wanted(s, want))
	}
	for i, pod := range order {
		wantVictim(t, "one behind the other", s, 0, pod)
		behind, done := impl.WriteDo(c, s, kill(pod))
		if s = behind; !done || podsOf(s, 0) != 7-i {
			t.Fatalf("the pod %d does not go: %v", pod, s)
		}
	}
	wantVictim(t, "none is left", s, 0, 0)
}

func TestMakePlanCases(t *testing.T) {
	few := []impl.Pod{ready(0), ready(0), ready(1), ready(2), ready(2), ready(2)}
	many := []impl.Pod{ready(0), ready(2), starts(1, 1), waits(0), hasPlace(2), ready(1), starts(0, 2), ready(2), ready(1), starts(2, 3), ready(1), waits(2)}
	for _, x := range []struct {
		why   string
		pods  []impl.Pod
		wants []int // from 2, 1 and 3 on, to 4, 7 and 5
		want  []impl.Write
	}{
		{"as many", few, []int{2, 1, 3}, nil},
		{"as many, none of them ready", []impl.Pod{waits(0), hasPlace(0), starts(1, 2), waits(2), starts(2, 3), waits(2)}, []int{2, 1, 3}, nil},
		{"as many, some of each", many, []int{3, 4, 5}, nil},

		{"one fewer", few, []int{3, 1, 3}, []impl.Write{makePod(0)}},
		{"two fewer", few, []int{4, 1, 3}, []impl.Write{makePod(0), makePod(0)}},
		{"fewer of a middle work", few, []int{2, 2, 3}, []impl.Write{makePod(1)}},
		{"fewer of the last work", few, []int{2, 1, 5}, []impl.Write{makePod(2), makePod(2)}},
		{"fewer of each", few, []int{4, 2, 4}, []impl.Write{makePod(0), makePod(0), makePod(1), makePod(2)}},
		{"Max of each", few, []int{4, 7, 5}, []impl.Write{makePod(0), makePod(0), makePod(1), makePod(1), makePod(1), makePod(1), makePod(1), makePod(1), makePod(2), makePod(2)}},
		{"no pods, Min of each", nil, []int{2, 1, 3}, []impl.Write{makePod(0), makePod(0), makePod(1), makePod(2), makePod(2), makePod(2)}},
		{"a middle work without a pod", []impl.Pod{ready(0), ready(2), waits(0), ready(2), ready(2)}, []int{2, 3, 3}, []impl.Write{makePod(1), makePod(1), makePod(1)}},
		{"one pod alone", []impl.Pod{ready(2)}, []int{2, 1, 3}, []impl.Write{makePod(0), makePod(0), makePod(1), makePod(2), makePod(2)}},

		{"one too many", many, []int{2, 4, 5}, []impl.Write{kill(4)}},
		{"one too many of a middle work", many, []int{3, 3, 5}, []impl.Write{kill(3)}},
		{"one too many of the last work", many, []int{3, 4, 4}, []impl.Write{kill(12)}},
		{"two too many of the last work", many, []int{3, 4, 3}, []impl.Write{kill(12), kill(5)}},
		{"all but one too many of a middle work", many, []int{3, 1, 5}, []impl.Write{kill(3), kill(11), kill(9)}},
		{"too many of each", many, []int{2, 2, 3}, []impl.Write{kill(4), kill(3), kill(11), kill(12), kill(5)}},

		{"too many, then too few", many, []int{2, 6, 5}, []impl.Write{kill(4), makePod(1), makePod(1)}},
		{"too few, then too many", many, []int{4, 2, 5}, []impl.Write{makePod(0), kill(3), kill(11)}},
		{"too few, too many, too many", many, []int{4, 3, 3}, []impl.Write{makePod(0), kill(3), kill(12), kill(5)}},
		{"too many, too few, too many", many, []int{2, 5, 4}, []impl.Write{kill(4), makePod(1), kill(12)}},
		{"only a middle work is as it should be", many, []int{4, 4, 4}, []impl.Write{makePod(0), kill(12)}},
		{"too many of which one has a place", []impl.Pod{hasPlace(0), ready(0), ready(0), ready(1), ready(2), ready(2), ready(2)}, []int{2, 1, 3}, []impl.Write{kill(1)}},
		{"too many of which all have a place", []impl.Pod{hasPlace(0), hasPlace(0), hasPlace(0), ready(1), ready(2), ready(2), ready(2)}, []int{2, 1, 3}, []impl.Write{kill(3)}},
		{"one with a place stays", []impl.Pod{hasPlace(0), waits(0), ready(0), ready(1), ready(2), ready(2), ready(2)}, []int{2, 1, 3}, []impl.Write{kill(2)}},
		{"a pod that starts, ahead of those that are ready", []impl.Pod{starts(0, 1), ready(0), ready(0), ready(1), ready(2), ready(2), ready(2)}, []int{2, 1, 3}, []impl.Write{kill(1)}},
	} {
		s := wanted(standing(lookCfg(), x.pods...), x.wants...)
		wantMakePlan(t, x.why, lookCfg(), s, x.want...)
		wantMade(t, x.why, lookCfg(), s)
	}
	wantMakePlan(t, "wide", wideCfg(), wideState(), makePod(0), kill(7), kill(2), makePod(2), makePod(2))
	wantMakePlan(t, "plain", plainCfg(), plainState())
	wantMakePlan(t, "tight", tightCfg(), tightState())
	for _, x := range okStates() {
		wantMade(t, x.why, x.c, x.s)
	}
}

// From each number of pods to each number that may be wanted, of one work and of three.
func TestMakeFromEachToEach(t *testing.T) {
	for pods := range impl.CfgMaxPods + 1 {
		for least := 1; least <= impl.CfgMaxPods; least++ {
			for want := least; want <= impl.CfgMaxPods; want++ {
				c := oneWork(impl.CfgWork{Min: least, Max: impl.CfgMaxPods, Target: 10, Limit: 20})
				s := wanted(readyState(c, pods), want)
				for i := range s.Pods {
					onNode(i, 4*min(1, (i+want)%3), (i+want)%3/2)(&s)
				}
				wantMade(t, "one work", c, s)
			}
		}
	}
	c := lookCfg()
	for way := range 5 * 8 * 6 {
		s := readyState(c, way%5, way/5%8, way/40)
		for wants := range 3 * 7 * 3 {
			s := wanted(s, 2+wants%3, 1+wants/3%7, 3+wants/21)
			list := impl.MakePlan(c, s)
			if !slices.Equal(list, modelMake(s)) {
				t.Fatalf("MakePlan is %v, want %v: %v", list, modelMake(s), s)
			}
		}
	}
}

// All of it ends ahead of a pod for which there is no number, also for the works behind it.
func TestMakePlanOfLastNumbers(t *testing.T) {
	c := lookCfg()
	pods := []impl.Pod{ready(0), waits(0), ready(0), ready(1), ready(2), waits(2), ready(2), ready(2)}
	for _, x := range []struct {
		why     string
		wants   []int // there are 3, 1 and 4
		numbers int   // that are left
		want    []impl.Write
	}{
		{"none left, none needed", []int{3, 1, 4}, 0, nil},
		{"none left, some go", []int{2, 1, 3}, 0, []impl.Write{kill(2), kill(6)}},
		{"none left, one needed", []int{4, 1, 4}, 0, nil},
		{"one left, one needed", []int{4, 1, 4}, 1, []impl.Write{makePod(0)}},
		{"none left, works behind end too", []int{4, 1, 3}, 0, nil},
		{"one left, works behind go on", []int{4, 1, 3}, 1, []impl.Write{makePod(0), kill(6)}},
		{"none left, works ahead are done", []int{2, 2, 3}, 0, []impl.Write{kill(2)}},
		{"one left, one needed of a middle work", []int{2, 2, 3}, 1, []impl.Write{kill(2), makePod(1), kill(6)}},
		{"one left, two needed of a middle work", []int{2, 3, 3}, 1, []impl.Write{kill(2), makePod(1)}},
		{"two left, two needed of a middle work", []int{2, 3, 3}, 2, []impl.Write{kill(2), makePod(1), makePod(1), kill(6)}},
		{"some left, all needed", []int{4, 7, 5}, 4, []impl.Write{makePod(0), makePod(1), makePod(1), makePod(1)}},
		{"one fewer than needed", []int{4, 7, 5}, 7, []impl.Write{makePod(0), makePod(1), makePod(1), makePod(1), makePod(1), makePod(1), makePod(1)}},
		{"as many as needed", []int{4, 7, 5}, 8, []impl.Write{makePod(0), makePod(1), makePod(1), makePod(1), makePod(1), makePod(1), makePod(1), makePod(2)}},
		{"none for the last work", []int{4, 2, 5}, 2, []impl.Write{makePod(0), makePod(1)}},
		{"none left, the last work alone", []int{2, 1, 5}, 0, []impl.Write{kill(2)}},
		{"a number that is free again is not taken", []int{2, 2, 4}, 0, []impl.Write{kill(2)}},
	} {
		s := wanted(standing(c, pods...), x.wants...)
		s.NextPod = impl.StateMaxId - x.numbers
		wantMakePlan(t, x.why, c, s, x.want...)
		wantMade(t, x.why, c, s)
		for i := range s.Pods {
			s.Pods[i].Id = s.NextPod - len(s.Pods) + i
		}
		wantMade(t, x.why+", the last numbers", c, s)
	}
	for numbers := range 30 {
		for _, c := range okCfgs() {
			s := impl.StateOpen(c)
			s.NextPod = impl.StateMaxId - numbers
			for work, w := range c.Works {
				s.Works[work].Want = w.Max
			}
			wantMade(t, "numbers that are left", c, s)
		}
	}
}

// As many changes as there can be at once.
func TestMakePlanOfMost(t *testing.T) {
	c := tightCfg()
	s := impl.StateOpen(c)
	s.Works[0].Want, s.Works[1].Want, s.Works[2].Want = 8, 8, 8
	list := impl.MakePlan(c, s)
	if len(list) != 24 {
		t.Errorf("%d changes: %v", len(list), list)
	}
	wantMade(t, "all come", c, s)
	s, _ = impl.WriteAll(c, s, list)
	for i := range s.Works {
		s.Works[i].Want = 1
	}
	if list := impl.MakePlan(c, s); len(list) != 21 {
		t.Errorf("%d changes: %v", len(list), list)
	}
	wantMade(t, "all but one go", c, s)
	wantMade(t, "all but one go from their nodes", c, wanted(tightState(), 1, 1, 1))
	wantMakePlan(t, "no number is left", c, wanted(tightState(), 8, 1, 8), kill(999998), kill(999995), kill(999992), kill(999989), kill(999986), kill(999983), kill(999980))
}

// MakeVictim asks nothing of what is not ok: it answers by its own words there too.
func TestMakeVictimOfWrongState(t *testing.T) {
	pods := func(list ...impl.Pod) impl.State { return impl.State{Pods: list} }
	const least, greatest = math.MinInt, math.MaxInt
	for _, x := range []struct {
		why        string
		s          impl.State
		work, want int
	}{
		{"nothing", impl.State{}, 0, 0},
		{"a work that there is not", pods(impl.Pod{Id: 7}), 0, 7},
		{"a work below 0", pods(impl.Pod{Id: 7, Work: -1}, impl.Pod{Id: 8}), -1, 7},
		{"the least work", pods(impl.Pod{Id: 7, Work: least}, impl.Pod{Id: 8, Work: -1}), least, 7},
		{"the greatest work", pods(impl.Pod{Id: 7, Work: greatest}, impl.Pod{Id: 8, Work: -1}), greatest, 7},
		{"two alike", pods(impl.Pod{Id: 7}, impl.Pod{Id: 7}), 0, 7},
		{"two alike, of two works", pods(impl.Pod{Id: 7, Work: 1, Node: 3}, impl.Pod{Id: 7}, impl.Pod{Id: 6, Work: 1, Node: 3}), 1, 7},
		{"two alike, of which one waits", pods(impl.Pod{Id: 7, Node: 3}, impl.Pod{Id: 7}, impl.Pod{Id: 8, Node: 3}), 0, 7},
		{"no order", pods(impl.Pod{Id: 5}, impl.Pod{Id: 9}, impl.Pod{Id: 2}), 0, 9},
		{"numbers below 0", pods(impl.Pod{Id: -5}, impl.Pod{Id: -2}, impl.Pod{Id: -9}), 0, -2},
		{"the number of none", pods(impl.Pod{Id: 0}, impl.Pod{Id: -2}), 0, 0},
		{"numbers far apart", pods(impl.Pod{Id: least}, impl.Pod{Id: greatest}), 0, greatest},
		{"numbers far apart, turned round", pods(impl.Pod{Id: greatest}, impl.Pod{Id: least}), 0, greatest},
		{"numbers far apart, and 1", pods(impl.Pod{Id: 1}, impl.Pod{Id: least}), 0, 1},
		{"the least number alone", pods(impl.Pod{Id: least}), 0, least},
		{"the least number goes ahead, as it waits", pods(impl.Pod{Id: greatest, Node: 1}, impl.Pod{Id: least}), 0, least},
		{"a Wait without a node", pods(impl.Pod{Id: 1, Wait: 3}, impl.Pod{Id: 2}, impl.Pod{Id: 3, Node: 1, Wait: 3}), 0, 2},
		{"a Wait without a node, greater", pods(impl.Pod{Id: 2, Wait: 3}, impl.Pod{Id: 1}, impl.Pod{Id: 3, Node: 1, Wait: 3}), 0, 2},
		{"a Wait below 0 without a node", pods(impl.Pod{Id: 2, Wait: -3}, impl.Pod{Id: 1}), 0, 2},
		{"the greatest Wait", pods(impl.Pod{Id: 1, Node: 1, Wait: greatest}, impl.Pod{Id: 2, Node: 1}, impl.Pod{Id: 3, Node: 1}), 0, 1},
		{"waits that are far apart", pods(impl.Pod{Id: 1, Node: 1, Wait: greatest}, impl.Pod{Id: 2, Node: 1, Wait: 1}), 0, 2},
		{"a Wait below 0 is none above 0", pods(impl.Pod{Id: 1, Node: 1, Wait: 1}, impl.Pod{Id: 2, Node: 1, Wait: -1}), 0, 1},
		{"a Wait below 0 is as one of 0", pods(impl.Pod{Id: 2, Node: 1, Wait: -1}, impl.Pod{Id: 1, Node: 1}, impl.Pod{Id: 3, Node: 1, Wait: least}), 0, 3},
		{"a Wait below 0, and a greater number", pods(impl.Pod{Id: 2, Node: 1, Wait: -1}, impl.Pod{Id: 3, Node: 1}), 0, 3},
		{"a node below 0", pods(impl.Pod{Id: 2, Node: -1}, impl.Pod{Id: 1}), 0, 1},
		{"a node that there is not", pods(impl.Pod{Id: 2, Node: 99}, impl.Pod{Id: 1, Node: 99, Wait: 1}), 0, 1},
		{"a place that is kept for one on a node", pods(impl.Pod{Id: 2, Node: 1, Nom: 3}, impl.Pod{Id: 1}), 0, 1},
	} {
		wantVictim(t, x.why, x.s, x.work, x.want)
		if goer := modelVictim(x.s, x.work); goer != x.want {
			t.Errorf("%s: the model says %d, want %d", x.why, goer, x.want)
		}
	}
	many := impl.State{}
	for i := range 3000 {
		many.Pods = append(many.Pods, impl.Pod{Id: i * 7 % 3000, Work: i % 2, Node: 1 + i%5, Wait: i % 11 / 10})
	}
	for work := range 3 {
		wantVictim(t, "many", many, work, modelVictim(many, work))
	}
}

// wantVictims asks MakeVictim of works of any greatness, whatever there is.
func wantVictims(t *testing.T, why string, s impl.State) {
	t.Helper()
	for _, work := range append([]int{-2, 0, 1, 2, 3, 4, len(s.Works)}, wildNumbers...) {
		wantVictim(t, why, s, work, modelVictim(s, work))
	}
}

// wantNotMade asks that there is no plan of what is not ok.
func wantNotMade(t *testing.T, why string, c impl.Cfg, s impl.State) {
	t.Helper()
	if impl.StateOk(c, s) {
		t.Fatalf("%s: ok: %v", why, s)
	}
	wantMakePlan(t, why, c, s)
	wantVictims(t, why, s)
}

func TestMakeOfNoWork(t *testing.T) {
	for _, x := range append(okStates(), stateCase{"looked at", lookCfg(), lookState()}) {
		for _, work := range append([]int{-1, -2, len(x.c.Works), len(x.c.Works) + 1, 10}, wildNumbers...) {
			wantVictim(t, x.why, x.s, work, 0)
		}
		wantVictims(t, x.why, x.s)
	}
}

func TestMakeOfWrongState(t *testing.T) {
	for _, x := range wrongLooks() {
		wantNotMade(t, x.why, x.c, x.s)
		for i := range x.s.Works {
			x.s.Works[i].Want = 3
		}
		x.s.Pods = x.s.Pods[:len(x.s.Pods)/2]
		if !impl.StateOk(x.c, x.s) {
			wantNotMade(t, x.why+", others than are wanted", x.c, x.s)
		}
	}
	for _, spoil := range []func(s *impl.State){
		addPods(0, 3), // more than Max, which the plan would mend
		func(s *impl.State) { s.Works[0].Want = 5 },
		func(s *impl.State) { s.Works[0].Want = 1 },
		func(s *impl.State) { s.Works[2].Want = math.MaxInt },
		func(s *impl.State) { s.NextPod = 0 },
		func(s *impl.State) { s.NextPod = 13 },
		func(s *impl.State) { s.NextPod = impl.StateMaxId + 1 },
		func(s *impl.State) { s.Pods[6].Node = 5 }, // too much Mem
		func(s *impl.State) { s.Pods[3].Nom = 6 },
		func(s *impl.State) { slices.Reverse(s.Pods) },
		func(s *impl.State) { s.Works = append(s.Works, impl.WorkState{Want: 1}) },
	} {
		wantNotMade(t, "not ok", wideCfg(), changed(spoil))
	}
	wantNotMade(t, "nothing at all", impl.Cfg{}, impl.State{})
}

func TestMakeOfWildNumbers(t *testing.T) {
	eachWild(func(why string, c impl.Cfg, s impl.State) {
		if impl.StateOk(c, s) {
			wantMade(t, why, c, s)
		} else {
			wantMakePlan(t, why, c, s)
		}
		for work := -1; work <= 3; work++ {
			wantVictim(t, why, s, work, modelVictim(s, work))
		}
	})
}

// Long ways of any changes, and the plan behind each of them.
func TestMakeOnLongWays(t *testing.T) {
	made, gone, both := 0, 0, 0
	for seed := range uint32(4) {
		for _, x := range append(okStates(), stateCase{"looked at", lookCfg(), lookState()}) {
			s := x.s
			for range 150 {
				s, _ = impl.WriteDo(x.c, s, someWrite(&seed, s))
				wantMade(t, x.why, x.c, s)
				list := impl.MakePlan(x.c, s)
				comes := slices.ContainsFunc(list, func(w impl.Write) bool { return w.Kind == impl.WriteMake })
				goes := slices.ContainsFunc(list, func(w impl.Write) bool { return w.Kind == impl.WriteKill })
				switch {
				case comes && goes:
					both++
				case comes:
					made++
				case goes:
					gone++
				}
				if nextNumber(&seed, 8) == 0 {
					s, _ = impl.WriteAll(x.c, s, list)
				}
			}
		}
	}
	if made < 200 || gone < 200 || both < 200 {
		t.Errorf("%d plans had pods come, %d had some go, %d had both", made, gone, both)
	}
}

// A look and the plan behind it, with all pods ready at once: there are as many as the load asks for.
func TestMakeBehindLook(t *testing.T) {
	c, s := lookCfg(), lookState()
	s.Works[0].Load, s.Works[1].Load, s.Works[2].Load, s.Works[1].Low = 331, 19, 28, 3
	s, _ = impl.WriteAll(c, s, impl.WantPlan(c, s))
	wantMakePlan(t, "behind a look", c, s, makePod(0), kill(7), kill(6), makePod(2))
	s, _ = impl.WriteAll(c, s, impl.MakePlan(c, s))
	wantMakePlan(t, "behind the plan", c, s)
	wantPlan(t, "behind the plan, as long as two wait", c, s)
	for i := range s.Pods {
		onNode(i, 4, 0)(&s)
	}
	wantPlan(t, "behind the plan, all ready", c, s)
	wantMakePlan(t, "behind the plan, all ready", c, s)
}

func TestMakeMemory(t *testing.T) {
	cases := append(okStates(),
		stateCase{"looked at", lookCfg(), lookState()}, stateCase{"some come, some go", lookCfg(), wanted(lookState(), 4, 1, 5)},
		stateCase{"most go", lookCfg(), wanted(lookState(), 2, 1, 3)}, stateCase{"turned round", wideCfg(), changed(func(s *impl.State) { slices.Reverse(s.Pods) })},
		stateCase{"nothing", wideCfg(), impl.State{}}, stateCase{"not ok", plainCfg(), wideState()},
	)
	for _, x := range cases {
		wantPlanMemory(t, x, func(c impl.Cfg, s impl.State) []impl.Write {
			for work := -1; work < 4; work++ {
				wantVictim(t, x.why, s, work, impl.MakeVictim(x.s, work))
			}
			return impl.MakePlan(c, s)
		})
	}
}

// Nothing is kept between two calls: the same is answered whatever was asked in between.
func TestMakeKeepsNothing(t *testing.T) {
	for _, x := range okStates() {
		victim, plan := impl.MakeVictim(x.s, 0), impl.MakePlan(x.c, x.s)
		for _, y := range okStates() {
			impl.MakePlan(y.c, y.s)
			impl.MakeVictim(y.s, 0)
			wantVictim(t, x.why+" behind "+y.why, x.s, 0, victim)
			wantMakePlan(t, x.why+" behind "+y.why, x.c, x.s, plan...)
		}
	}
}
