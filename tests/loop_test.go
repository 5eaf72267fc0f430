package tests

import (
	"math"
	"slices"
	"testing"

	"loop.example/hive/impl"
)

// step is a component that was broken off behind so many changes; below 0 it is whole.
func step(kind int, n int) impl.LoopEvent { return impl.LoopEvent{Kind: kind, N: n} }

func whole(kind int) impl.LoopEvent { return step(kind, -1) }

// event is something outside as an event.
func (o outside) event() impl.LoopEvent {
	switch o.what {
	case "tick":
		return impl.LoopEvent{Kind: impl.LoopTick}
	case "come":
		return impl.LoopEvent{Kind: impl.LoopCome, A: o.at, N: 1}
	case "fail":
		return impl.LoopEvent{Kind: impl.LoopCome, A: o.at}
	case "load":
		return impl.LoopEvent{Kind: impl.LoopLoad, A: o.at, N: o.load}
	case "die":
		return impl.LoopEvent{Kind: impl.LoopDie, A: o.at}
	}
	panic("no event: " + o.what)
}

// modelPlanOf is the plans of the chapters ahead once more, by kind, for what is ok.
func modelPlanOf(c impl.Cfg, s impl.State, kind int) []impl.Write {
	switch kind {
	case 1:
		return modelPlan(c, s)
	case 2:
		return modelMake(s)
	case 3:
		list, _ := modelBind(c, s)
		return list
	case 4:
		return modelOust(c, s)
	case 5:
		return modelGrow(c, s)
	case 6:
		return modelShrink(c, s)
	}
	return nil
}

// modelEvent is the chapter once more, for what is ok: changes one by one, and what happens outside as in its own chapter.
func modelEvent(c impl.Cfg, s impl.State, e impl.LoopEvent) impl.State {
	switch {
	case e.Kind == 7:
		return tick().model(c, s)
	case e.Kind == 8 && e.N <= 0:
		return failToCome(e.A).model(c, s)
	case e.Kind == 8:
		return come(e.A).model(c, s)
	case e.Kind == 9:
		return turnLoad(e.A, e.N).model(c, s)
	case e.Kind == 10:
		return die(e.A).model(c, s)
	}
	list := modelPlanOf(c, s, e.Kind)
	if e.N >= 0 {
		list = list[:min(e.N, len(list))]
	}
	return behindAll(c, s, list)
}

// modelLoopOrder is the chapter once more by the places of all orders: how often a number holds what the places behind
// hold in all, and how often it is more than that.
func modelLoopOrder(n int) []int {
	if n < 0 {
		n = -1 - n
	}
	var order []int
	for _, below := range []int{1, 6, 30, 120, 360, 720} {
		place, left := n/below%(6-len(order)), []int{1, 2, 3, 4, 5, 6}
		left = slices.DeleteFunc(left, func(kind int) bool { return slices.Contains(order, kind) })
		order = append(order, left[place])
	}
	return order
}

func modelRound(c impl.Cfg, s impl.State, order int) impl.State {
	for _, kind := range modelLoopOrder(order) {
		s = modelEvent(c, s, whole(kind))
	}
	asked := slices.Clone(s.Groups)
	for group := range asked {
		for asked[group].Asked > 0 {
			asked[group].Asked--
			s = come(group).model(c, s)
		}
	}
	return tick().model(c, s)
}

// wantAlways is P12 of what there is: StateOk, and no node holds more than it has, also as it is added up here.
func wantAlways(t *testing.T, why string, c impl.Cfg, s impl.State) {
	t.Helper()
	wantState(t, why, c, s, true)
	wantNoneOverfull(t, why, c, s)
}

// wantEvent asks what is behind an event, and P12 of it.
func wantEvent(t *testing.T, why string, c impl.Cfg, s impl.State, e impl.LoopEvent, want impl.State) {
	t.Helper()
	if !impl.StateOk(c, s) {
		t.Fatalf("%s: ahead of %v not StateOk of %v", why, e, s)
	}
	got := impl.LoopDo(c, s, e)
	if !sameState(got, want) {
		t.Errorf("%s: behind %v is %v, want %v: %v of %v", why, e, got, want, s, c)
	}
	wantAlways(t, why, c, got)
}

func wantLoopPlan(t *testing.T, why string, c impl.Cfg, s impl.State, kind int, want ...impl.Write) {
	t.Helper()
	if got := impl.LoopPlan(c, s, kind); !slices.Equal(got, want) {
		t.Errorf("%s: LoopPlan of %d is %v, want %v: %v of %v", why, kind, got, want, s, c)
	}
}

func wantPlay(t *testing.T, why string, c impl.Cfg, s impl.State, events []impl.LoopEvent, want impl.State) {
	t.Helper()
	if got := impl.LoopPlay(c, s, events); !sameState(got, want) {
		t.Errorf("%s: behind %v is %v, want %v: %v of %v", why, events, got, want, s, c)
	}
}

// wantRound asks what is behind a round, and P12 of it.
func wantRound(t *testing.T, why string, c impl.Cfg, s impl.State, order int, want impl.State) {
	t.Helper()
	got := impl.LoopRound(c, s, order)
	if !sameState(got, want) {
		t.Errorf("%s: behind the round %d is %v, want %v: %v of %v", why, order, got, want, s, c)
	}
	wantAlways(t, why, c, got)
}

func wantLoopOrder(t *testing.T, n int, want ...int) {
	t.Helper()
	if got := impl.LoopOrder(n); !slices.Equal(got, want) {
		t.Errorf("LoopOrder of %d is %v, want %v", n, got, want)
	}
}

// brokenOff is a component broken off anywhere: behind no change, behind each of them, and behind more than there are.
func brokenOff(kind int, plan int) []impl.LoopEvent {
	list := []impl.LoopEvent{step(kind, -2), step(kind, math.MinInt), step(kind, math.MaxInt)}
	for n := -1; n <= plan+2; n++ {
		list = append(list, step(kind, n))
	}
	return list
}

// allEvents is all that can happen, with components broken off anywhere, and with what is none.
func allEvents(c impl.Cfg, s impl.State) []impl.LoopEvent {
	list := []impl.LoopEvent{{}, {Kind: 11}, {Kind: -1, A: 1, N: 1}, {Kind: 11, A: 1, N: 5}}
	for kind := 1; kind <= 6; kind++ {
		list = append(list, brokenOff(kind, len(modelPlanOf(c, s, kind)))...)
	}
	for _, o := range allOutside(s) {
		list = append(list, o.event())
	}
	for group := range s.Groups {
		list = append(list, impl.LoopEvent{Kind: 8, A: group, N: -1}, impl.LoopEvent{Kind: 8, A: group, N: 2})
	}
	return list
}

// wantLoop asks of what is ok what the models say of all plans, and of all that can happen to it.
func wantLoop(t *testing.T, why string, c impl.Cfg, s impl.State) {
	t.Helper()
	for kind := -1; kind <= 11; kind++ {
		wantLoopPlan(t, why, c, s, kind, modelPlanOf(c, s, kind)...)
	}
	for _, e := range allEvents(c, s) {
		wantEvent(t, why, c, s, e, modelEvent(c, s, e))
	}
}

// loopCases are those of the chapters ahead that are ok: with something to do for each component, and with nothing.
func loopCases() []stateCase {
	ahead := len(okStates())
	list := slices.Concat(plantCases(), growCases()[ahead:], shrinkCases()[ahead:], oustCases()[ahead:])
	return slices.DeleteFunc(list, func(x stateCase) bool { return !impl.StateOk(x.c, x.s) })
}

// The limit of the document's table and the kinds of the chapter; the other tests take them by name.
func TestLoopLimits(t *testing.T) {
	if impl.LoopMax != 400 {
		t.Errorf("LoopMax is %d", impl.LoopMax)
	}
	kinds := [...]int{
		impl.LoopWant, impl.LoopMake, impl.LoopBind, impl.LoopOust, impl.LoopGrow, impl.LoopShrink,
		impl.LoopTick, impl.LoopCome, impl.LoopLoad, impl.LoopDie,
	}
	if kinds != [...]int{1, 2, 3, 4, 5, 6, 7, 8, 9, 10} {
		t.Errorf("the kinds are %v", kinds)
	}
}

func TestLoopPlan(t *testing.T) {
	for _, x := range loopCases() {
		wantLoopPlan(t, x.why, x.c, x.s, impl.LoopWant, impl.WantPlan(x.c, x.s)...)
		wantLoopPlan(t, x.why, x.c, x.s, impl.LoopMake, impl.MakePlan(x.c, x.s)...)
		wantLoopPlan(t, x.why, x.c, x.s, impl.LoopBind, impl.BindPlan(x.c, x.s)...)
		wantLoopPlan(t, x.why, x.c, x.s, impl.LoopOust, impl.OustPlan(x.c, x.s)...)
		wantLoopPlan(t, x.why, x.c, x.s, impl.LoopGrow, impl.GrowPlan(x.c, x.s)...)
		wantLoopPlan(t, x.why, x.c, x.s, impl.LoopShrink, impl.ShrinkPlan(x.c, x.s)...)
		for _, kind := range append([]int{-2, -1, 0, 7, 8, 9, 10, 11, 12, 255, 256, 257, 258}, wildNumbers...) {
			if kind < 1 || kind > 6 {
				wantLoopPlan(t, x.why, x.c, x.s, kind)
			}
		}
	}
}

// partCase is a component with something to do: its changes, and what each of them sets.
type partCase struct {
	kind    int
	c       impl.Cfg
	s       impl.State
	changes []impl.Write
	sets    []func(s *impl.State)
}

// partCases are reckoned by hand, one of each component; only to ask for nodes takes no more than one change.
func partCases() []partCase {
	seen := lookState()
	seen.Works[0].Low, seen.Works[1].Low, seen.Works[2].Low = 2, 2, 2
	made := wanted(hosting(growCfg(), []int{0}, isOn(0, 1), waits(1), isOn(1, 1), waits(1)), 3, 1, 1)
	return []partCase{
		{impl.LoopWant, lookCfg(), seen, []impl.Write{setWant(0, 4), setLow(0, 0), setLow(1, 3), setLow(2, 0)}, []func(s *impl.State){
			func(s *impl.State) { s.Works[0].Want = 4 },
			func(s *impl.State) { s.Works[0].Low = 0 },
			func(s *impl.State) { s.Works[1].Low = 3 },
			func(s *impl.State) { s.Works[2].Low = 0 },
		}},
		{impl.LoopMake, growCfg(), made, []impl.Write{makePod(0), makePod(0), kill(4), kill(2), makePod(2)}, []func(s *impl.State){
			func(s *impl.State) { s.Pods, s.NextPod = append(s.Pods, impl.Pod{Id: 5}), 6 },
			func(s *impl.State) { s.Pods, s.NextPod = append(s.Pods, impl.Pod{Id: 6}), 7 },
			func(s *impl.State) { s.Pods = slices.Delete(s.Pods, 3, 4) },
			func(s *impl.State) { s.Pods = slices.Delete(s.Pods, 1, 2) },
			func(s *impl.State) { s.Pods, s.NextPod = append(s.Pods, impl.Pod{Id: 7, Work: 2}), 8 },
		}},
		{impl.LoopBind, growCfg(), hosting(growCfg(), []int{0, 1}, waits(2), waits(0), waits(1), waitsFor(1, 2)),
			[]impl.Write{bind(2, 2), bind(3, 1), bind(4, 1), bind(1, 1)}, []func(s *impl.State){
				onNode(1, 2, 3),
				onNode(2, 1, 3),
				func(s *impl.State) { s.Pods[3] = impl.Pod{Id: 4, Work: 1, Node: 1, Wait: 3} },
				onNode(0, 1, 3),
			}},
		{impl.LoopOust, growCfg(), hosting(growCfg(), []int{0}, isOn(2, 1), isOn(2, 1), waits(0), waits(1)),
			[]impl.Write{nom(3, 1), oust(2), nom(4, 1)}, []func(s *impl.State){
				func(s *impl.State) { s.Pods[2].Nom = 1 },
				onNode(1, 0, 0),
				func(s *impl.State) { s.Pods[3].Nom = 1 },
			}},
		{impl.LoopGrow, growCfg(), asking(hosting(growCfg(), []int{2}, waits(0), waits(0)), 0, 1), []impl.Write{ask(1)}, []func(s *impl.State){
			func(s *impl.State) { s.Groups[1].Asked = 2 },
		}},
		{impl.LoopShrink, shrinkCfg(), idling(hosting(shrinkCfg(), []int{0, 0, 1}, isOn(2, 2)), 2, 1, 1),
			[]impl.Write{setIdle(1, 3), setIdle(2, 0), setIdle(3, 2), drop(1)}, []func(s *impl.State){
				func(s *impl.State) { s.Nodes[0].Idle = 3 },
				func(s *impl.State) { s.Nodes[1].Idle = 0 },
				func(s *impl.State) { s.Nodes[2].Idle = 2 },
				func(s *impl.State) { s.Nodes = s.Nodes[1:] },
			}},
	}
}

// behindFirst is what there is behind the first n changes, n being no more than there are.
func (x partCase) behindFirst(n int) impl.State {
	s := copyState(x.s)
	for _, set := range x.sets[:n] {
		set(&s)
	}
	return s
}

// A component whole, and broken off behind no change, behind each of its changes, and behind more than there are.
func TestLoopDoOfComponents(t *testing.T) {
	for _, x := range partCases() {
		all := len(x.changes)
		wantLoopPlan(t, "by hand", x.c, x.s, x.kind, x.changes...)
		for n := range all + 1 {
			wantEvent(t, "broken off", x.c, x.s, step(x.kind, n), x.behindFirst(n))
		}
		for _, n := range []int{-1, -2, -all, math.MinInt, all + 1, all + 2, 400, 401, math.MaxInt - 1, math.MaxInt} {
			wantEvent(t, "whole", x.c, x.s, step(x.kind, n), x.behindFirst(all))
		}
		for _, a := range append([]int{1, 5}, wildNumbers...) {
			wantEvent(t, "whatever A is", x.c, x.s, impl.LoopEvent{Kind: x.kind, A: a, N: -1}, x.behindFirst(all))
			wantEvent(t, "whatever A is", x.c, x.s, impl.LoopEvent{Kind: x.kind, A: a, N: all - 1}, x.behindFirst(all-1))
			wantEvent(t, "whatever A is", x.c, x.s, impl.LoopEvent{Kind: x.kind, A: a}, x.s)
		}
	}
}

// A component that was broken off plans anew at its next step, and may do another thing then than the rest of its plan.
func TestLoopDoBehindOneBrokenOff(t *testing.T) {
	for _, x := range partCases() {
		for n := range x.changes {
			s := impl.LoopDo(x.c, x.s, step(x.kind, n))
			wantEvent(t, "once more", x.c, s, whole(x.kind), behindAll(x.c, s, modelPlanOf(x.c, s, x.kind)))
		}
	}
	x := partCases()[5]
	s := impl.LoopDo(x.c, x.s, step(impl.LoopShrink, 3))
	wantLoopPlan(t, "three looks, and none goes", x.c, s, impl.LoopShrink, setIdle(3, 3), drop(1))
}

func TestLoopDoOutside(t *testing.T) {
	const none = math.MaxInt
	for _, x := range []struct {
		why    string
		e      impl.LoopEvent
		behind func(s *impl.State)
	}{
		{"a tick", impl.LoopEvent{Kind: impl.LoopTick}, func(s *impl.State) {
			s.Pods[1].Wait, s.Pods[2].Wait = 2, 0
			s.Nodes[1].Boot, s.Nodes[3].Boot = 6, 0
			s.Groups[0].Rest, s.Groups[2].Rest = 47, 4
		}},
		{"a tick, whatever its numbers are", impl.LoopEvent{Kind: impl.LoopTick, A: 9, N: -5}, func(s *impl.State) {
			s.Pods[1].Wait, s.Pods[2].Wait = 2, 0
			s.Nodes[1].Boot, s.Nodes[3].Boot = 6, 0
			s.Groups[0].Rest, s.Groups[2].Rest = 47, 4
		}},
		{"one comes", impl.LoopEvent{Kind: impl.LoopCome, A: 2, N: 1}, func(s *impl.State) {
			s.Groups[2] = impl.GroupState{Asked: 1, Rest: 5}
			s.Nodes, s.NextNode = append(s.Nodes, impl.Node{Id: 10, Group: 2, Boot: 1}), 11
		}},
		{"one alone comes of an N of 2", impl.LoopEvent{Kind: impl.LoopCome, A: 2, N: 2}, func(s *impl.State) {
			s.Groups[2] = impl.GroupState{Asked: 1, Rest: 5}
			s.Nodes, s.NextNode = append(s.Nodes, impl.Node{Id: 10, Group: 2, Boot: 1}), 11
		}},
		{"one comes, N of any greatness", impl.LoopEvent{Kind: impl.LoopCome, N: none}, func(s *impl.State) {
			s.Groups[0] = impl.GroupState{Rest: 48}
			s.Nodes, s.NextNode = append(s.Nodes, impl.Node{Id: 10, Boot: 3}), 11
		}},
		{"one fails to come", impl.LoopEvent{Kind: impl.LoopCome, A: 2}, func(s *impl.State) {
			s.Groups[2] = impl.GroupState{Asked: 1, Rest: 24, Fails: 2}
		}},
		{"one fails to come, N below 0", impl.LoopEvent{Kind: impl.LoopCome, A: 2, N: -1}, func(s *impl.State) {
			s.Groups[2] = impl.GroupState{Asked: 1, Rest: 24, Fails: 2}
		}},
		{"one fails to come, the least N", impl.LoopEvent{Kind: impl.LoopCome, N: math.MinInt}, func(s *impl.State) { s.Groups[0].Asked = 0 }},
		{"none is asked for", impl.LoopEvent{Kind: impl.LoopCome, A: 1, N: 1}, nil},
		{"none is asked for, to fail", impl.LoopEvent{Kind: impl.LoopCome, A: 1}, nil},
		{"no such group", impl.LoopEvent{Kind: impl.LoopCome, A: 3, N: 1}, nil},
		{"a group below 0", impl.LoopEvent{Kind: impl.LoopCome, A: -1}, nil},
		{"a load", impl.LoopEvent{Kind: impl.LoopLoad, A: 1, N: 77}, func(s *impl.State) { s.Works[1].Load = 77 }},
		{"no load", impl.LoopEvent{Kind: impl.LoopLoad, A: 0}, func(s *impl.State) { s.Works[0].Load = 0 }},
		{"a load below 0", impl.LoopEvent{Kind: impl.LoopLoad, A: 0, N: -1}, func(s *impl.State) { s.Works[0].Load = 0 }},
		{"too great a load", impl.LoopEvent{Kind: impl.LoopLoad, A: 1, N: none}, func(s *impl.State) { s.Works[1].Load = impl.CfgMaxLoad }},
		{"the load that there was", impl.LoopEvent{Kind: impl.LoopLoad, A: 0, N: 250}, nil},
		{"no such work", impl.LoopEvent{Kind: impl.LoopLoad, A: 3, N: 5}, nil},
		{"a work below 0", impl.LoopEvent{Kind: impl.LoopLoad, A: -1, N: 5}, nil},
		{"a node dies", impl.LoopEvent{Kind: impl.LoopDie, A: 5}, func(s *impl.State) {
			s.Nodes = slices.Delete(s.Nodes, 2, 3)
			s.Pods[1], s.Pods[3], s.Pods[5] = impl.Pod{Id: 2, Work: 1}, impl.Pod{Id: 6}, impl.Pod{Id: 9, Work: 2}
		}},
		{"a node that boots dies, whatever N is", impl.LoopEvent{Kind: impl.LoopDie, A: 3, N: 9}, func(s *impl.State) { s.Nodes = slices.Delete(s.Nodes, 1, 2) }},
		{"no such node", impl.LoopEvent{Kind: impl.LoopDie, A: 4, N: 5}, nil},
		{"no such node, the node of those who wait", impl.LoopEvent{Kind: impl.LoopDie}, nil},
		{"no such node, below 0", impl.LoopEvent{Kind: impl.LoopDie, A: -5}, nil},
		{"of no kind", impl.LoopEvent{}, nil},
		{"of no kind, with numbers", impl.LoopEvent{A: 2, N: 3}, nil},
		{"of the kind behind the last", impl.LoopEvent{Kind: 11, A: 2, N: 3}, nil},
		{"of a kind below 0", impl.LoopEvent{Kind: -1, A: 2, N: -1}, nil},
	} {
		want := wideState()
		if x.behind != nil {
			x.behind(&want)
		}
		wantEvent(t, x.why, wideCfg(), wideState(), x.e, want)
		if same := sameState(want, wideState()); same != (x.behind == nil) {
			t.Errorf("%s: as it is: %v", x.why, same)
		}
	}
}

func TestLoopOfCases(t *testing.T) {
	for _, x := range loopCases() {
		wantLoop(t, x.why, x.c, x.s)
	}
}

// Of an event of any other kind all is as it is, whatever its numbers are.
func TestLoopDoOfOtherKinds(t *testing.T) {
	for _, x := range loopCases() {
		for _, kind := range append([]int{-10, -2, -1, 0, 11, 12, 255, 256, 257, 263, 266}, wildNumbers...) {
			if kind >= 1 && kind <= 10 {
				continue
			}
			for _, n := range []int{math.MinInt, -1, 0, 1, 2, math.MaxInt} {
				wantEvent(t, x.why, x.c, x.s, impl.LoopEvent{Kind: kind, A: 1, N: n}, x.s)
				wantEvent(t, x.why, x.c, x.s, impl.LoopEvent{Kind: kind, A: n, N: 1}, x.s)
			}
		}
	}
}

// played are events reckoned by hand, from the beginning of what is asked at the desk: what each of them sets.
func played() ([]impl.LoopEvent, []func(s *impl.State)) {
	return []impl.LoopEvent{
		step(impl.LoopMake, 1), whole(impl.LoopMake), whole(impl.LoopGrow), whole(impl.LoopGrow), failToCome(0).event(),
		whole(impl.LoopGrow), tick().event(), tick().event(), step(impl.LoopGrow, 0), step(impl.LoopGrow, 5),
		come(0).event(), tick().event(), whole(impl.LoopBind), tick().event(), step(impl.LoopBind, 1),
		turnLoad(0, 150).event(), whole(impl.LoopBind), {Kind: 11}, tick().event(), whole(impl.LoopWant), die(1).event(),
	}, []func(s *impl.State){
		func(s *impl.State) { s.Pods, s.NextPod = []impl.Pod{{Id: 1}}, 2 },
		func(s *impl.State) { s.Pods, s.NextPod = []impl.Pod{{Id: 1}, {Id: 2, Work: 1}}, 3 },
		func(s *impl.State) { s.Groups[0].Asked = 1 },
		asItWas,
		func(s *impl.State) { s.Groups[0] = impl.GroupState{Rest: 2, Fails: 1} },
		asItWas,
		func(s *impl.State) { s.Groups[0].Rest = 1 },
		func(s *impl.State) { s.Groups[0].Rest = 0 },
		asItWas,
		func(s *impl.State) { s.Groups[0].Asked = 1 },
		func(s *impl.State) {
			s.Groups[0], s.Nodes, s.NextNode = impl.GroupState{}, []impl.Node{{Id: 1, Boot: 2}}, 2
		},
		func(s *impl.State) { s.Nodes[0].Boot = 1 },
		asItWas,
		func(s *impl.State) { s.Nodes[0].Boot = 0 },
		func(s *impl.State) { s.Pods[0] = impl.Pod{Id: 1, Node: 1, Wait: 1} },
		func(s *impl.State) { s.Works[0].Load = 150 },
		func(s *impl.State) { s.Pods[1] = impl.Pod{Id: 2, Work: 1, Node: 1, Wait: 1} },
		asItWas,
		func(s *impl.State) { s.Pods[0].Wait, s.Pods[1].Wait = 0, 0 },
		func(s *impl.State) { s.Works[0].Want = 2 },
		func(s *impl.State) { s.Nodes, s.Pods[0].Node, s.Pods[1].Node = nil, 0, 0 },
	}
}

func TestLoopPlay(t *testing.T) {
	c := plainCfg()
	events, sets := played()
	want, one := impl.StateOpen(c), impl.StateOpen(c)
	wantPlay(t, "none", c, want, nil, want)
	wantPlay(t, "none", c, want, []impl.LoopEvent{}, want)
	for i, set := range sets {
		want = copyState(want)
		set(&want)
		one = impl.LoopDo(c, one, events[i])
		if !sameState(one, want) {
			t.Errorf("behind %d events one by one is %v, want %v", i+1, one, want)
		}
		wantPlay(t, "in order", c, impl.StateOpen(c), events[:i+1], want)
		wantAlways(t, "in order", c, want)
	}
	wantPlay(t, "of what is not ok", c, impl.State{}, events, impl.State{})
	wantPlay(t, "of what is not asked", impl.Cfg{}, impl.StateOpen(c), events, impl.State{})
}

// The order of events is theirs: of the same ones turned round there is another thing behind.
func TestLoopPlayInOrder(t *testing.T) {
	c, s := plainCfg(), asking(impl.StateOpen(plainCfg()), 1)
	two := behind(c, s, come(0), tick())
	wantPlay(t, "comes ahead of the tick", c, s, []impl.LoopEvent{come(0).event(), tick().event()}, two)
	if s := impl.LoopPlay(c, s, []impl.LoopEvent{tick().event(), come(0).event()}); len(s.Nodes) != 1 || s.Nodes[0].Boot != 2 || two.Nodes[0].Boot != 1 {
		t.Errorf("comes behind the tick: %v, ahead of it %v", s, two)
	}
	loads := []impl.LoopEvent{turnLoad(0, 7).event(), turnLoad(1, 8).event(), turnLoad(0, 9).event()}
	wantPlay(t, "the last load stays", c, s, loads, behind(c, s, turnLoad(0, 9), turnLoad(1, 8)))
}

// LoopMax events are played, one more are not.
func TestLoopPlayOfMost(t *testing.T) {
	for _, x := range loopCases() {
		var events []impl.LoopEvent
		s := x.s
		for i := range impl.LoopMax {
			e := []impl.LoopEvent{whole(1 + i%6), tick().event(), step(1+i%5, i%3), come(i % 3).event(), turnLoad(i%3, i).event()}[i%5]
			events = append(events, e)
			s = impl.LoopDo(x.c, s, e)
			if n := len(events); n > impl.LoopMax-3 {
				wantPlay(t, x.why, x.c, x.s, events, s)
			}
		}
		wantAlways(t, x.why, x.c, s)
		for _, more := range []int{1, 2, 400, 100000} {
			wantPlay(t, x.why+", more", x.c, x.s, append(slices.Clone(events), slices.Repeat([]impl.LoopEvent{tick().event()}, more)...), impl.State{})
		}
		wantPlay(t, x.why+", more of no kind", x.c, x.s, make([]impl.LoopEvent, 401), impl.State{})
		wantPlay(t, x.why+", of no kind", x.c, x.s, make([]impl.LoopEvent, 400), x.s)
	}
}

func TestLoopOrder(t *testing.T) {
	for _, x := range []struct {
		n    int
		want [6]int
	}{
		{0, [6]int{1, 2, 3, 4, 5, 6}},
		{1, [6]int{2, 1, 3, 4, 5, 6}},
		{4, [6]int{5, 1, 2, 3, 4, 6}},
		{5, [6]int{6, 1, 2, 3, 4, 5}},
		{6, [6]int{1, 3, 2, 4, 5, 6}},   // 6 by 6 is 1, and none is left; 1 of the five that are left is 3
		{7, [6]int{2, 3, 1, 4, 5, 6}},   // 1 is left of 7; 1 of 1, 3, 4, 5, 6
		{8, [6]int{3, 2, 1, 4, 5, 6}},   // 2 is left of 8; 1 of 1, 2, 4, 5, 6
		{29, [6]int{6, 5, 1, 2, 3, 4}},  // 5 is left, and 4 of 5
		{30, [6]int{1, 2, 4, 3, 5, 6}},  // 30 by 6 is 5, by 5 is 1
		{100, [6]int{5, 2, 6, 1, 3, 4}}, // 4 is left of 100, 1 of 16, 3 of 3
		{119, [6]int{6, 5, 4, 1, 2, 3}},
		{120, [6]int{1, 2, 3, 5, 4, 6}},
		{359, [6]int{6, 5, 4, 3, 1, 2}},
		{360, [6]int{1, 2, 3, 4, 6, 5}},
		{718, [6]int{5, 6, 4, 3, 2, 1}},
		{719, [6]int{6, 5, 4, 3, 2, 1}},
		{720, [6]int{1, 2, 3, 4, 5, 6}},
		{721, [6]int{2, 1, 3, 4, 5, 6}},
		{1439, [6]int{6, 5, 4, 3, 2, 1}},
		{1000000007, [6]int{6, 3, 2, 5, 4, 1}},
		{math.MaxInt - 1, [6]int{1, 3, 2, 4, 6, 5}},
		{math.MaxInt, [6]int{2, 3, 1, 4, 6, 5}},
		{-1, [6]int{1, 2, 3, 4, 5, 6}},
		{-2, [6]int{2, 1, 3, 4, 5, 6}},
		{-6, [6]int{6, 1, 2, 3, 4, 5}},
		{-7, [6]int{1, 3, 2, 4, 5, 6}},
		{-720, [6]int{6, 5, 4, 3, 2, 1}},
		{-721, [6]int{1, 2, 3, 4, 5, 6}},
		{math.MinInt + 1, [6]int{1, 3, 2, 4, 6, 5}},
		{math.MinInt, [6]int{2, 3, 1, 4, 6, 5}},
	} {
		wantLoopOrder(t, x.n, x.want[:]...)
	}
	for n := -3000; n <= 3000; n++ {
		wantLoopOrder(t, n, modelLoopOrder(n)...)
		wantLoopOrder(t, -n-1, impl.LoopOrder(n)...)
	}
	for _, n := range wildNumbers {
		for off := -3; off <= 3; off++ {
			wantLoopOrder(t, n+off, modelLoopOrder(n+off)...)
		}
	}
}

// The first 720 orders are all that there are, each once: each holds each component once, and no two are one.
func TestLoopOrderOfAll(t *testing.T) {
	seen := map[[6]int]int{}
	for n := range 720 {
		order := impl.LoopOrder(n)
		if len(order) != 6 {
			t.Fatalf("LoopOrder of %d is %v", n, order)
		}
		if other, found := seen[[6]int(order)]; found {
			t.Errorf("LoopOrder of %d and of %d is %v", other, n, order)
		}
		seen[[6]int(order)] = n
		slices.Sort(order)
		if !slices.Equal(order, []int{1, 2, 3, 4, 5, 6}) {
			t.Errorf("LoopOrder of %d holds %v", n, order)
		}
	}
	if len(seen) != 720 {
		t.Errorf("%d orders", len(seen))
	}
}

// roundSteps are what each round sets, from the beginning of what is asked at the desk, with a load of 350 and of 15.
func roundSteps() []func(s *impl.State) {
	return []func(s *impl.State){
		// 1 2 3 4 5 6: two pods are made, and a node is asked for, which comes within the round
		func(s *impl.State) {
			s.Pods, s.NextPod = []impl.Pod{{Id: 1}, {Id: 2, Work: 1}}, 3
			s.Nodes, s.NextNode = []impl.Node{{Id: 1, Boot: 1}}, 2
		},
		// 2 1 3 4 5 6: the node that boots would hold both
		func(s *impl.State) { s.Nodes[0].Boot = 0 },
		// 3 1 2 4 5 6: both are put on it, and are ready behind the tick
		func(s *impl.State) { s.Pods[0].Node, s.Pods[1].Node = 1, 1 },
		// 4 1 2 3 5 6: one more of each is wanted and made, and has no room
		func(s *impl.State) {
			s.Works[0].Want, s.Works[1].Want = 2, 2
			s.Pods, s.NextPod = append(s.Pods, impl.Pod{Id: 3}, impl.Pod{Id: 4, Work: 1}), 5
			s.Nodes, s.NextNode = append(s.Nodes, impl.Node{Id: 2, Boot: 1}), 3
		},
		// 5 1 2 3 4 6: the pod 2 is put out for the pod 3
		func(s *impl.State) { s.Pods[1].Node, s.Pods[2].Nom, s.Nodes[1].Boot = 0, 1, 0 },
		// 6 1 2 3 4 5: the node 2 was empty at a look; then all who wait are put on nodes
		func(s *impl.State) {
			s.Nodes[1].Idle = 1
			s.Pods[1].Node, s.Pods[2], s.Pods[3].Node = 2, impl.Pod{Id: 3, Node: 1}, 2
		},
		// 1 3 2 4 5 6: a third one is wanted and made, the pod 4 is put out for it, and a node is asked for, as it is left
		func(s *impl.State) {
			s.Works[0].Want = 3
			s.Pods, s.NextPod = append(s.Pods, impl.Pod{Id: 5, Nom: 2}), 6
			s.Pods[3].Node, s.Nodes[1].Idle = 0, 0
			s.Nodes, s.NextNode = append(s.Nodes, impl.Node{Id: 3, Boot: 1}), 4
		},
		// 2 3 1 4 5 6: the pod 5 is put on its place
		func(s *impl.State) { s.Pods[4], s.Nodes[2].Boot = impl.Pod{Id: 5, Node: 2}, 0 },
		// 3 2 1 4 5 6: the pod 4 is put on the new node; a fourth one is wanted, but no longer made
		func(s *impl.State) { s.Pods[3].Node, s.Works[0].Want = 3, 4 },
		// 4 2 1 3 5 6: it is made, and put where the pod 4 is
		func(s *impl.State) { s.Pods, s.NextPod = append(s.Pods, impl.Pod{Id: 6, Node: 3}), 7 },
		// 5 2 1 3 4 6: all are as they should be
		asItWas,
	}
}

// The rounds of the document's example of the desk, reckoned step by step, up to what it says there is in the end.
func TestLoopRoundStepByStep(t *testing.T) {
	c := plainCfg()
	s := behind(c, impl.StateOpen(c), turnLoad(0, 350), turnLoad(1, 15))
	for order, set := range roundSteps() {
		want := copyState(s)
		set(&want)
		wantRound(t, "step by step", c, s, order, want)
		s = want
	}
	end := impl.State{
		Pods: []impl.Pod{
			{Id: 1, Node: 1}, {Id: 2, Work: 1, Node: 2}, {Id: 3, Node: 1}, {Id: 4, Work: 1, Node: 3}, {Id: 5, Node: 2}, {Id: 6, Node: 3},
		},
		Nodes:   []impl.Node{{Id: 1}, {Id: 2}, {Id: 3}},
		Works:   []impl.WorkState{{Want: 4, Load: 350}, {Want: 2, Load: 15}},
		Groups:  []impl.GroupState{{}},
		NextPod: 7, NextNode: 4,
	}
	if !sameState(s, end) {
		t.Errorf("in the end is %v, want %v", s, end)
	}
}

// What the document's example says of fewer who are asked for, and of a node that dies.
func TestLoopRoundOfFewer(t *testing.T) {
	c := plainCfg()
	s := behind(c, impl.StateOpen(c), turnLoad(0, 350), turnLoad(1, 15))
	for order := range 10 {
		s = impl.LoopRound(c, s, order)
	}
	s = behind(c, s, turnLoad(0, 90))
	want := copyState(s)
	want.Works[0].Low = 1
	wantRound(t, "the first look", c, s, 1, want)
	s = want
	want = copyState(s)
	want.Works[0].Low, want.Works[0].Want = 0, 1
	want.Pods = []impl.Pod{{Id: 1, Node: 1}, {Id: 2, Work: 1, Node: 2}, {Id: 4, Work: 1, Node: 3}}
	wantRound(t, "the second look", c, s, 2, want)
	wantRound(t, "and it stays", c, want, 3, want)
	s = impl.LoopPlay(c, want, []impl.LoopEvent{die(1).event(), whole(impl.LoopOust), whole(impl.LoopGrow), failToCome(0).event()})
	want.Nodes, want.Pods[0] = want.Nodes[1:], impl.Pod{Id: 1, Nom: 2}
	if !sameState(s, want) {
		t.Errorf("behind a node that died is %v, want %v", s, want)
	}
	want = copyState(want)
	want.Pods[0] = impl.Pod{Id: 1, Node: 2}
	wantRound(t, "behind a node that died", c, s, 0, want)
}

// asked is what there is in a round in which nothing else is to be done than that nodes come.
func asked(asked ...int) impl.State {
	s := asking(wanted(hosting(growCfg(), []int{0}, isOn(0, 1), isOn(1, 1), isOn(2, 1)), 1, 1, 1), asked...)
	for i := range s.Works {
		s.Works[i].Load = 10
	}
	return s
}

// As many come as are asked for, group by group, all in one round; each boots for one tick fewer behind it.
func TestLoopRoundOfSeveralThatCome(t *testing.T) {
	for _, x := range []struct {
		why   string
		asked []int
		nodes []impl.Node
	}{
		{"none", []int{0, 0, 0}, nil},
		{"one of the first", []int{1}, []impl.Node{{Id: 2, Boot: 1}}},
		{"one of the last", []int{0, 0, 1}, []impl.Node{{Id: 2, Group: 2, Boot: 1}}},
		{"several of one", []int{0, 3, 0}, []impl.Node{{Id: 2, Group: 1, Boot: 1}, {Id: 3, Group: 1, Boot: 1}, {Id: 4, Group: 1, Boot: 1}}},
		{"one of each", []int{1, 1, 1}, []impl.Node{{Id: 2, Boot: 1}, {Id: 3, Group: 1, Boot: 1}, {Id: 4, Group: 2, Boot: 1}}},
		{"several of several", []int{2, 0, 3}, []impl.Node{
			{Id: 2, Boot: 1}, {Id: 3, Boot: 1}, {Id: 4, Group: 2, Boot: 1}, {Id: 5, Group: 2, Boot: 1}, {Id: 6, Group: 2, Boot: 1},
		}},
	} {
		for _, order := range []int{0, 1, 77, 719, -5} {
			s := asked(x.asked...)
			for i := range s.Groups {
				s.Groups[i].Fails, s.Groups[i].Rest = 3, i*4
			}
			want := copyState(s)
			want.Nodes, want.NextNode = append(want.Nodes, x.nodes...), 2+len(x.nodes)
			for i := range s.Groups {
				want.Groups[i] = impl.GroupState{Rest: max(0, i*4-1), Fails: 3}
				if s.Groups[i].Asked > 0 {
					want.Groups[i].Fails = 0
				}
			}
			wantRound(t, x.why, growCfg(), s, order, want)
		}
	}
}

// Where too few numbers of a node are left, the others stay asked for, and the tick goes by all the same.
func TestLoopRoundOfLastNumbers(t *testing.T) {
	const last = impl.StateMaxId
	for left, nodes := range [][]impl.Node{
		nil,
		{{Id: last - 1, Boot: 1}},
		{{Id: last - 2, Boot: 1}, {Id: last - 1, Boot: 1}},
		{{Id: last - 3, Boot: 1}, {Id: last - 2, Boot: 1}, {Id: last - 1, Group: 2, Boot: 1}},
		{{Id: last - 4, Boot: 1}, {Id: last - 3, Boot: 1}, {Id: last - 2, Group: 2, Boot: 1}, {Id: last - 1, Group: 2, Boot: 1}},
	} {
		s := asked(2, 0, 2)
		s.NextNode, s.Groups[1].Rest = last-left, 3
		want := copyState(s)
		want.Nodes, want.NextNode = append(want.Nodes, nodes...), last
		want.Groups = []impl.GroupState{{Asked: max(0, 2-left)}, {Rest: 2}, {Asked: min(2, 4-left)}}
		for order := range 720 {
			wantRound(t, "numbers run out", growCfg(), s, order, want)
		}
	}
	s := impl.StateOpen(plainCfg())
	s.NextNode = last
	for order := range 5 {
		s = impl.LoopRound(plainCfg(), s, order)
		if len(s.Nodes) != 0 || len(s.Pods) != 2 || s.Groups[0] != (impl.GroupState{Asked: 1}) {
			t.Errorf("no number is left: behind the round %d is %v", order, s)
		}
	}
}

// A node that is asked for within the round comes in it, whatever the order is, with the one that was asked for ahead of it.
func TestLoopRoundAsksAndComes(t *testing.T) {
	// Nothing has room for the three who wait; the node that is asked for would hold one of them.
	s := asked(0, 1)
	s.Pods = append(s.Pods, impl.Pod{Id: 4}, impl.Pod{Id: 5}, impl.Pod{Id: 6})
	s.Works[0].Want, s.NextPod = 4, 7
	want := copyState(s)
	want.Groups[1].Asked = 0
	want.Nodes = append(want.Nodes, impl.Node{Id: 2, Group: 1, Boot: 1}, impl.Node{Id: 3, Group: 1, Boot: 1})
	want.NextNode = 4
	for order := range 720 {
		wantRound(t, "asks and comes", growCfg(), s, order, want)
	}
}

// P12 in every order: each round is as the chapter says, and all stays ok; the order is not all the same.
func TestLoopRoundInEveryOrder(t *testing.T) {
	lost := hosting(rankCfg(), []int{0, 1}, waitsFor(0, 2), waitsFor(2, 2), isOn(2, 2), isOn(2, 2), isOn(0, 1), waitsFor(1, 1), waitsFor(1, 1))
	looked := idling(hosting(shrinkCfg(), []int{0, 1, -1, 0, 2, 0}, isOn(0, 2), waitsFor(0, 6)), 0, 2, 1, 2, 3, 1)
	for _, x := range []stateCase{
		{"wide", wideCfg(), wideState()},
		{"looked at", lookCfg(), lookState()},
		{"places are lost", rankCfg(), lost},
		{"looks of each kind", shrinkCfg(), looked},
	} {
		var different []impl.State
		for order := range 720 {
			want := modelRound(x.c, x.s, order)
			wantRound(t, x.why, x.c, x.s, order, want)
			if !slices.ContainsFunc(different, func(s impl.State) bool { return sameState(s, want) }) {
				different = append(different, want)
			}
		}
		if len(different) < 4 {
			t.Errorf("%s: in all orders there is one of %d behind", x.why, len(different))
		}
	}
}

// P12 with a component broken off anywhere, in every order: all stays ok at each step.
func TestLoopBrokenOffInEveryOrder(t *testing.T) {
	for _, x := range []stateCase{
		{"plain", plainCfg(), behind(plainCfg(), plainState(), turnLoad(0, 350))},
		{"some go", rankCfg(), asking(hosting(rankCfg(), []int{1, 2}, waits(0), isOn(1, 1), isOn(1, 1), isOn(2, 2), isOn(2, 2), waitsFor(2, 1)), 1)},
	} {
		for order := range 720 {
			s := x.s
			for _, kind := range impl.LoopOrder(order) {
				list := impl.LoopPlan(x.c, s, kind)
				for n := range list {
					cut := impl.LoopDo(x.c, s, step(kind, n))
					if !sameState(cut, behindAll(x.c, s, list[:n])) {
						t.Errorf("%s: %d broken off behind %d: %v of %v", x.why, kind, n, cut, s)
					}
					wantAlways(t, x.why, x.c, cut)
				}
				s = impl.LoopDo(x.c, s, whole(kind))
				wantAlways(t, x.why, x.c, s)
			}
		}
	}
}

func TestLoopOfManyWays(t *testing.T) {
	seed := uint32(41)
	for range 300 {
		c, s := someRest(&seed)
		wantLoop(t, "some", c, s)
		for range 5 {
			order := nextNumber(&seed, 1440) - 720
			wantRound(t, "some", c, s, order, modelRound(c, s, order))
		}
	}
}

// loopCounts is of which kinds what happened was.
type loopCounts struct {
	whole, brokenOff, changed [7]int
	outside, round, asItIs    int
}

func (n *loopCounts) add(s impl.State, e impl.LoopEvent, plan int, behind impl.State) {
	if sameState(s, behind) {
		n.asItIs++
	}
	switch {
	case e.Kind > 6:
		n.outside++
	case e.N >= 0 && e.N < plan:
		n.brokenOff[e.Kind]++
	default:
		n.whole[e.Kind]++
	}
	if e.Kind <= 6 && !sameState(s, behind) {
		n.changed[e.Kind]++
	}
}

func (n loopCounts) least() int {
	least := min(n.outside, n.round, n.asItIs)
	for kind := 1; kind <= 6; kind++ {
		least = min(least, n.whole[kind], n.brokenOff[kind], n.changed[kind])
	}
	return least
}

// someEvent is one of all that can happen, components more often than what is outside.
func someEvent(seed *uint32, c impl.Cfg, s impl.State) impl.LoopEvent {
	if nextNumber(seed, 3) == 0 {
		return someOutside(seed, s).event()
	}
	kind := 1 + nextNumber(seed, 6)
	return step(kind, nextNumber(seed, 3+len(modelPlanOf(c, s, kind)))-1)
}

// P12 on long ways: whatever happens, in whatever order, broken off anywhere: all stays ok.
func TestLoopOnLongWays(t *testing.T) {
	var n loopCounts
	seed := uint32(12)
	for way := range 200 {
		c, s := someRest(&seed)
		if all := loopCases(); way < len(all) {
			c, s = all[way].c, all[way].s
		}
		for range 120 {
			if nextNumber(&seed, 8) == 0 {
				order := nextNumber(&seed, 720)
				wantRound(t, "on a long way", c, s, order, modelRound(c, s, order))
				s, n.round = impl.LoopRound(c, s, order), n.round+1
				continue
			}
			e := someEvent(&seed, c, s)
			want := modelEvent(c, s, e)
			wantEvent(t, "on a long way", c, s, e, want)
			n.add(s, e, len(modelPlanOf(c, s, e.Kind)), want)
			s = want
		}
	}
	if n.least() < 30 {
		t.Errorf("of too few kinds: %+v", n)
	}
}

// P12 of many events at once: as they are one by one.
func TestLoopPlayOnLongWays(t *testing.T) {
	seed := uint32(13)
	for range 100 {
		c, from := someRest(&seed)
		s := from
		var events []impl.LoopEvent
		for range nextNumber(&seed, 60) {
			e := someEvent(&seed, c, s)
			events = append(events, e)
			s = modelEvent(c, s, e)
		}
		wantPlay(t, "some", c, from, events, s)
		wantAlways(t, "some", c, s)
	}
}

// wantNotLooped asks that nothing is planned, and that there is nothing behind whatever happens to what is not ok.
func wantNotLooped(t *testing.T, why string, c impl.Cfg, s impl.State) {
	t.Helper()
	if impl.StateOk(c, s) {
		t.Fatalf("%s: ok: %v", why, s)
	}
	var events []impl.LoopEvent
	for kind := range 12 {
		wantLoopPlan(t, why, c, s, kind)
		events = append(events, impl.LoopEvent{Kind: kind, A: 2, N: kind%3 - 1})
	}
	for _, e := range events {
		if got := impl.LoopDo(c, s, e); !sameState(got, impl.State{}) {
			t.Errorf("%s: behind %v is %v: %v of %v", why, e, got, s, c)
		}
	}
	for _, list := range [][]impl.LoopEvent{nil, events[:1], events} {
		wantPlay(t, why, c, s, list, impl.State{})
	}
	for _, order := range []int{0, -300} {
		if got := impl.LoopRound(c, s, order); !sameState(got, impl.State{}) {
			t.Errorf("%s: behind the round %d is %v: %v of %v", why, order, got, s, c)
		}
	}
}

func TestLoopOfWrongState(t *testing.T) {
	for _, x := range append(wrongStates(), stateCase{"nothing at all", impl.Cfg{}, impl.State{}}, stateCase{"nothing is asked", impl.Cfg{}, wideState()}) {
		wantNotLooped(t, x.why, x.c, x.s)
	}
	for _, spoil := range []func(s *impl.State){
		func(s *impl.State) { s.Groups[0].Asked = 2 },
		func(s *impl.State) { s.Groups[1].Asked = -1 },
		func(s *impl.State) { s.Groups[2].Asked = math.MaxInt }, // a round must not wait for all of these
		func(s *impl.State) { s.Groups[0].Rest = 49 },
		func(s *impl.State) { s.Groups[0].Fails = 4 },
		func(s *impl.State) { s.Groups = append(s.Groups, impl.GroupState{Asked: 5}) },
		func(s *impl.State) { s.Nodes[3].Boot = 2 },  // a tick would mend it
		func(s *impl.State) { s.Pods[1].Wait = 4 },   // likewise
		func(s *impl.State) { s.Works[0].Load = -1 }, // a load would mend it
		func(s *impl.State) { s.Pods[4].Nom = 6 },    // a death would mend it
		func(s *impl.State) { s.NextNode = impl.StateMaxId + 1 },
	} {
		wantNotLooped(t, "spoilt", wideCfg(), changed(spoil))
	}
}

// Among events of all kinds one of any other kind leaves all as it is, and ends nothing.
func TestLoopPlayWithOtherKinds(t *testing.T) {
	c := plainCfg()
	events, _ := played()
	want := impl.LoopPlay(c, impl.StateOpen(c), events)
	for at := range len(events) + 1 {
		for _, kind := range append([]int{0, 11, -1}, wildNumbers...) {
			if kind >= 1 && kind <= 10 {
				continue
			}
			among := slices.Insert(slices.Clone(events), at, impl.LoopEvent{Kind: kind, A: kind, N: kind})
			wantPlay(t, "one of another kind", c, impl.StateOpen(c), among, want)
		}
	}
}

// Numbers of any greatness in each field of an event, alone and in all of them.
func TestLoopOfWildEvents(t *testing.T) {
	for _, x := range loopCases() {
		for _, n := range wildNumbers {
			for kind := 1; kind <= 10; kind++ {
				for _, e := range []impl.LoopEvent{{Kind: kind, A: n}, {Kind: kind, N: n}, {Kind: kind, A: n, N: 1}, {Kind: kind, A: 1, N: n}, {Kind: kind, A: n, N: n}} {
					want := modelEvent(x.c, x.s, e)
					wantEvent(t, x.why, x.c, x.s, e, want)
					wantPlay(t, x.why, x.c, x.s, []impl.LoopEvent{e}, want)
				}
			}
			wantRound(t, x.why, x.c, x.s, n, modelRound(x.c, x.s, n))
		}
	}
}

// Numbers of any greatness in each field of what there is and of what is asked.
func TestLoopOfWildNumbers(t *testing.T) {
	eachWild(func(why string, c impl.Cfg, s impl.State) {
		if !impl.StateOk(c, s) {
			wantNotLooped(t, why, c, s)
			return
		}
		for _, e := range []impl.LoopEvent{whole(1), whole(2), step(3, 1), whole(4), whole(5), whole(6), tick().event(), come(0).event(), failToCome(2).event(), die(5).event()} {
			wantEvent(t, why, c, s, e, modelEvent(c, s, e))
		}
		wantRound(t, why, c, s, 77, modelRound(c, s, 77))
	})
}

// memoryCases are also what is not ok, of which there is nothing behind.
func memoryCases() []stateCase {
	return append(loopCases(),
		stateCase{"turned round", wideCfg(), changed(func(s *impl.State) { slices.Reverse(s.Pods); slices.Reverse(s.Nodes) })},
		stateCase{"nothing", wideCfg(), impl.State{}},
		stateCase{"not ok", plainCfg(), wideState()},
	)
}

func TestLoopMemory(t *testing.T) {
	for _, x := range memoryCases() {
		events := []impl.LoopEvent{{}, {Kind: 99}}
		for kind := 1; kind <= 6; kind++ {
			wantPlanMemory(t, x, func(c impl.Cfg, s impl.State) []impl.Write { return impl.LoopPlan(c, s, kind) })
			events = append(events, step(kind, -1), step(kind, 0), step(kind, 1), step(kind, 99))
		}
		for _, o := range allOutside(x.s) {
			events = append(events, o.event())
		}
		for _, e := range events {
			wantOwnMemory(t, x.why, x.c, x.s, nil, func(c impl.Cfg, s impl.State, _ []impl.Write) impl.State { return impl.LoopDo(c, s, e) })
		}
		for _, list := range [][]impl.LoopEvent{nil, events[:1], events[:2], events[:5], events, make([]impl.LoopEvent, 401)} {
			wantOwnMemory(t, x.why, x.c, x.s, nil, func(c impl.Cfg, s impl.State, _ []impl.Write) impl.State { return impl.LoopPlay(c, s, list) })
		}
		for _, order := range []int{0, 1, 333, 719, -2} {
			wantOwnMemory(t, x.why, x.c, x.s, nil, func(c impl.Cfg, s impl.State, _ []impl.Write) impl.State { return impl.LoopRound(c, s, order) })
		}
	}
}

// Nothing is written into the events, nor behind their end; an order is new memory, spare room included.
func TestLoopListsMemory(t *testing.T) {
	row, _ := played()
	was := slices.Clone(row)
	for n := range len(row) + 1 {
		impl.LoopPlay(plainCfg(), impl.StateOpen(plainCfg()), row[:n])
		if !slices.Equal(row, was) {
			t.Fatalf("the events were written into: %v", row)
		}
	}
	for _, n := range []int{0, 1, 719, -1, math.MinInt} {
		a, b := impl.LoopOrder(n), impl.LoopOrder(n)
		want := slices.Clone(a)
		for i := range a[:cap(a)] {
			a[:cap(a)][i] = 99
		}
		if again := impl.LoopOrder(n); !slices.Equal(b, want) || !slices.Equal(again, want) {
			t.Errorf("two orders share memory: %v and %v, want %v", b, again, want)
		}
	}
}

func TestLoopKeepsCfg(t *testing.T) {
	for _, x := range memoryCases() {
		wantKeepsCfg(t, x, func(c impl.Cfg) {
			for kind := range 12 {
				impl.LoopPlan(c, x.s, kind)
				impl.LoopDo(c, x.s, whole(kind))
				impl.LoopPlay(c, x.s, []impl.LoopEvent{step(kind, 1), whole(kind)})
			}
			impl.LoopRound(c, x.s, 5)
		})
	}
}

// Nothing is kept between two calls: the same is answered whatever happened in between.
func TestLoopKeepsNothing(t *testing.T) {
	seed := uint32(12)
	for range 200 {
		c, s := someRest(&seed)
		d, other := someRest(&seed)
		e, between, order := someEvent(&seed, c, s), someEvent(&seed, d, other), nextNumber(&seed, 720)
		first, round := impl.LoopDo(c, s, e), impl.LoopRound(c, s, order)
		impl.LoopDo(d, other, between)
		impl.LoopRound(d, other, order+1)
		impl.LoopPlay(c, first, []impl.LoopEvent{between, e})
		if again := impl.LoopDo(c, s, e); !sameState(again, first) {
			t.Errorf("behind %v is %v, was %v", e, again, first)
		}
		wantRound(t, "again", c, s, order, round)
	}
}
