package tests

import (
	"math"
	"slices"
	"testing"

	"loop.example/hive/impl"
)

// The limit of the document's table, and the kinds of the chapter's; the other tests take them by name.
func TestWriteLimits(t *testing.T) {
	if impl.WriteMax != 400 {
		t.Errorf("WriteMax is %d", impl.WriteMax)
	}
	got := [...]int{
		impl.WriteWant, impl.WriteLow, impl.WriteMake, impl.WriteKill, impl.WriteBind,
		impl.WriteOust, impl.WriteNom, impl.WriteAsk, impl.WriteIdle, impl.WriteDrop,
	}
	if got != [...]int{1, 2, 3, 4, 5, 6, 7, 8, 9, 10} {
		t.Errorf("the kinds are %v", got)
	}
}

func setWant(work int, n int) impl.Write { return impl.Write{Kind: impl.WriteWant, A: work, N: n} }
func setLow(work int, n int) impl.Write  { return impl.Write{Kind: impl.WriteLow, A: work, N: n} }
func makePod(work int) impl.Write        { return impl.Write{Kind: impl.WriteMake, A: work} }
func kill(pod int) impl.Write            { return impl.Write{Kind: impl.WriteKill, A: pod} }
func bind(pod int, node int) impl.Write  { return impl.Write{Kind: impl.WriteBind, A: pod, B: node} }
func oust(pod int) impl.Write            { return impl.Write{Kind: impl.WriteOust, A: pod} }
func nom(pod int, node int) impl.Write   { return impl.Write{Kind: impl.WriteNom, A: pod, B: node} }
func ask(group int) impl.Write           { return impl.Write{Kind: impl.WriteAsk, A: group} }
func setIdle(node int, n int) impl.Write { return impl.Write{Kind: impl.WriteIdle, A: node, N: n} }
func drop(node int) impl.Write           { return impl.Write{Kind: impl.WriteDrop, A: node} }

// wantWrite asks what is behind one change: behind, if it may be, and else what there was; and P4, that what there was
// being ok, what is behind is too.
func wantWrite(t *testing.T, why string, c impl.Cfg, s impl.State, w impl.Write, behind impl.State, may bool) {
	t.Helper()
	if !impl.StateOk(c, s) {
		t.Fatalf("%s: ahead of %v not StateOk of %v", why, w, s)
	}
	done := 0
	if may {
		done = 1
	} else {
		behind = s
	}
	got, ok := impl.WriteDo(c, s, w)
	if ok != may || !sameState(got, behind) {
		t.Errorf("%s: WriteDo of %v is %v and %v, want %v and %v", why, w, got, ok, behind, may)
	}
	if !impl.StateOk(c, got) {
		t.Errorf("%s: behind %v not StateOk of %v", why, w, got)
	}
	all, n := impl.WriteAll(c, s, []impl.Write{w})
	if n != done || !sameState(all, behind) {
		t.Errorf("%s: WriteAll of %v is %v and %d, want %v and %d", why, w, all, n, behind, done)
	}
}

// writeCase is a change of wideState behind the change ahead (or none); behind is what it sets, or nil, if it may not be.
type writeCase struct {
	why    string
	ahead  func(s *impl.State)
	w      impl.Write
	behind func(s *impl.State)
}

func wantWrites(t *testing.T, c impl.Cfg, from impl.State, cases []writeCase) {
	t.Helper()
	for _, x := range cases {
		s := copyState(from)
		if x.ahead != nil {
			x.ahead(&s)
		}
		behind := copyState(s)
		if x.behind != nil {
			x.behind(&behind)
		}
		wantWrite(t, x.why, c, s, x.w, behind, x.behind != nil)
	}
}

func asItWas(*impl.State) {}

func TestWriteOfWorks(t *testing.T) {
	wantWrites(t, wideCfg(), wideState(), []writeCase{
		{"Want", nil, setWant(0, 4), func(s *impl.State) { s.Works[0].Want = 4 }},
		{"Want of Min", nil, setWant(0, 2), func(s *impl.State) { s.Works[0].Want = 2 }},
		{"Want below Min", nil, setWant(0, 1), nil},
		{"Want above Max", nil, setWant(0, 5), nil},
		{"Want as it was", nil, setWant(0, 3), asItWas},
		{"Want of Min, a middle work", nil, setWant(1, 1), func(s *impl.State) { s.Works[1].Want = 1 }},
		{"Want of Max, a middle work", nil, setWant(1, 7), func(s *impl.State) { s.Works[1].Want = 7 }},
		{"Want below Min, a middle work", nil, setWant(1, 0), nil},
		{"Want above Max, a middle work", nil, setWant(1, 8), nil},
		{"Want of Min, the last work", nil, setWant(2, 3), func(s *impl.State) { s.Works[2].Want = 3 }},
		{"Want of Max, the last work", nil, setWant(2, 5), asItWas},
		{"Want below Min, the last work", nil, setWant(2, 2), nil},
		{"Want above Max, the last work", nil, setWant(2, 6), nil},
		{"Want of a work too far", nil, setWant(3, 3), nil},
		{"Want of a work below 0", nil, setWant(-1, 3), nil},
		{"Want, with a B that tells nothing", nil, impl.Write{Kind: impl.WriteWant, A: 1, B: 77, N: 3}, func(s *impl.State) { s.Works[1].Want = 3 }},

		{"Low", nil, setLow(0, 3), func(s *impl.State) { s.Works[0].Low = 3 }},
		{"Low of 0", nil, setLow(0, 0), func(s *impl.State) { s.Works[0].Low = 0 }},
		{"Low of Calm", nil, setLow(0, 4), func(s *impl.State) { s.Works[0].Low = 4 }},
		{"Low below 0", nil, setLow(0, -1), nil},
		{"Low above Calm", nil, setLow(0, 5), nil},
		{"Low of 0, the last work", func(s *impl.State) { s.Works[2].Low = 1 }, setLow(2, 0), func(s *impl.State) { s.Works[2].Low = 0 }},
		{"Low of Calm, the last work", nil, setLow(2, 4), func(s *impl.State) { s.Works[2].Low = 4 }},
		{"Low as it was", nil, setLow(1, 4), asItWas},
		{"Low of a work too far", nil, setLow(3, 0), nil},
		{"Low of a work below 0", nil, setLow(-1, 0), nil},
	})
}

// addPods has so many pods more of the work, all waiting.
func addPods(work int, pods int) func(s *impl.State) {
	return func(s *impl.State) {
		for range pods {
			s.Pods = append(s.Pods, impl.Pod{Id: s.NextPod, Work: work})
			s.NextPod++
		}
	}
}

func TestWriteMakeAndKill(t *testing.T) {
	withoutPods := func(places ...int) func(s *impl.State) {
		return func(s *impl.State) {
			for _, place := range places {
				s.Pods = slices.Delete(s.Pods, place, place+1)
			}
		}
	}
	wantWrites(t, wideCfg(), wideState(), []writeCase{
		{"a pod comes", nil, makePod(0), addPods(0, 1)},
		{"a pod of a middle work", nil, makePod(1), addPods(1, 1)},
		{"a pod of the last work", nil, makePod(2), addPods(2, 1)},
		{"the first pod", func(s *impl.State) { s.Pods = nil }, makePod(1), addPods(1, 1)},
		{"the first number", func(s *impl.State) { s.Pods, s.NextPod = nil, 1 }, makePod(1), addPods(1, 1)},
		{"one fewer than Max", addPods(0, 1), makePod(0), addPods(0, 1)},
		{"as many as Max", addPods(0, 2), makePod(0), nil},
		{"as many as Max of another work", addPods(0, 2), makePod(1), addPods(1, 1)},
		{"one fewer than Max, a middle work", addPods(1, 3), makePod(1), addPods(1, 1)},
		{"as many as Max, a middle work", addPods(1, 4), makePod(1), nil},
		{"one fewer than Max, the last work", addPods(2, 1), makePod(2), addPods(2, 1)},
		{"as many as Max, the last work", addPods(2, 2), makePod(2), nil},
		{"more than Want, fewer than Max", func(s *impl.State) { s.Works[1].Want = 1 }, makePod(1), addPods(1, 1)},
		{"the last number but one", func(s *impl.State) { s.NextPod = impl.StateMaxId - 1 }, makePod(0), addPods(0, 1)},
		{"no number left", func(s *impl.State) { s.NextPod = impl.StateMaxId }, makePod(0), nil},
		{"no number left, no pods", func(s *impl.State) { s.Pods, s.NextPod = nil, impl.StateMaxId }, makePod(0), nil},
		{"no number of a node left", func(s *impl.State) { s.NextNode = impl.StateMaxId }, makePod(0), addPods(0, 1)},
		{"a work too far", nil, makePod(3), nil},
		{"a work below 0", nil, makePod(-1), nil},

		{"the first pod goes, from a node", nil, kill(1), withoutPods(0)},
		{"a pod that starts goes", nil, kill(2), withoutPods(1)},
		{"a pod with a place kept goes", nil, kill(6), withoutPods(3)},
		{"a pod that waits goes", nil, kill(7), withoutPods(4)},
		{"the last pod goes", nil, kill(13), withoutPods(7)},
		{"the only pod goes", withoutPods(0, 0, 0, 0, 0, 0, 0), kill(13), withoutPods(0)},
		{"fewer than Min and Want go too", withoutPods(3), kill(1), withoutPods(0)},
		{"a number between", nil, kill(3), nil},
		{"the next number", nil, kill(20), nil},
		{"the number of none", nil, kill(0), nil},
		{"a place is no number", withoutPods(0), kill(1), nil},
		{"a number of any greatness", nil, kill(math.MaxInt), nil},
		{"none to go", func(s *impl.State) { s.Pods = nil }, kill(1), nil},
	})
}

func onNode(place int, node int, wait int) func(s *impl.State) {
	return func(s *impl.State) { s.Pods[place].Node, s.Pods[place].Nom, s.Pods[place].Wait = node, 0, wait }
}

func TestWriteBindAndOust(t *testing.T) {
	wantWrites(t, wideCfg(), wideState(), []writeCase{
		{"where its place is kept", nil, bind(6, 5), onNode(3, 5, 3)},
		{"elsewhere than its place", nil, bind(6, 9), onNode(3, 9, 3)},
		{"without a place", nil, bind(7, 9), onNode(4, 9, 3)},
		{"the last pod, the first node", nil, bind(13, 2), onNode(7, 2, 3)},
		{"the first pod", onNode(0, 0, 0), bind(1, 2), onNode(0, 2, 3)},
		{"a place that is kept there for another", nil, bind(7, 2), onNode(4, 2, 3)},
		{"too much Mem", nil, bind(7, 5), nil},
		{"no room at all", func(s *impl.State) { s.Nodes[1].Boot = 0 }, bind(7, 3), nil},
		{"no room, of a work that takes one measure", func(s *impl.State) { s.Nodes[1].Boot = 0 }, bind(13, 3), nil},
		{"a node that boots", nil, bind(6, 6), nil},
		{"a node that boots no more", func(s *impl.State) { s.Nodes[3].Boot = 0 }, bind(6, 6), onNode(3, 6, 3)},
		{"a node of a number between", nil, bind(6, 4), nil},
		{"the next node", nil, bind(6, 10), nil},
		{"no node", nil, bind(6, 0), nil},
		{"no node, without a place", nil, bind(7, 0), nil},
		{"a node below 0", nil, bind(6, -5), nil},
		{"a pod on a node", nil, bind(1, 9), nil},
		{"a pod on that node", nil, bind(1, 2), nil},
		{"a pod that starts", nil, bind(2, 9), nil},
		{"a pod of a number between", nil, bind(3, 9), nil},
		{"the next pod", nil, bind(20, 9), nil},
		{"no pod", nil, bind(0, 9), nil},
		{"a pod and a node turned round", nil, bind(9, 6), nil},
		{"Idle of the node is left", func(s *impl.State) { s.Nodes[4].Idle = 5 }, bind(7, 9), onNode(4, 9, 3)},

		{"the first pod is put out", nil, oust(1), onNode(0, 0, 0)},
		{"one that starts is put out", nil, oust(2), onNode(1, 0, 0)},
		{"one that starts yet for 1 is put out", nil, oust(4), onNode(2, 0, 0)},
		{"the last on a node is put out", nil, oust(10), onNode(6, 0, 0)},
		{"the last of all is put out", onNode(7, 9, 0), oust(13), onNode(7, 0, 0)},
		{"one with a place kept", nil, oust(6), nil},
		{"one that waits", nil, oust(7), nil},
		{"a number between is put out", nil, oust(3), nil},
		{"the next number is put out", nil, oust(20), nil},
		{"none is put out", nil, oust(0), nil},
		{"one below 0 is put out", nil, oust(-1), nil},
	})
}

// The last slot of a node: what is free is just what the pod takes, and less in one measure alone, each in turn.
func TestWriteBindLastSlot(t *testing.T) {
	var cpuShort, memShort, fit int
	for work, one := range wideCfg().Works {
		for _, pods := range []int{1, 2, 3, 4} {
			whole := size(one.Size.Cpu*pods, one.Size.Mem*pods)
			for _, room := range []impl.Size{
				whole, size(whole.Cpu-1, whole.Mem), size(whole.Cpu, whole.Mem-1), size(whole.Cpu+1, whole.Mem), size(whole.Cpu, whole.Mem+1),
				size(whole.Cpu-1, most), size(most, whole.Mem-1), size(most, most), size(whole.Cpu+1, whole.Mem-1), size(whole.Cpu-1, whole.Mem+1),
			} {
				c := wideCfg()
				c.Groups[2].Size = room
				s := impl.StateOpen(c)
				s.Nodes, s.NextNode = []impl.Node{{Id: 1}, {Id: 2, Group: 2}, {Id: 3}}, 4
				addPods(work, pods)(&s)
				for i := range pods - 1 {
					s.Pods[i].Node = 2
				}
				s.Pods[pods-1].Nom = 1
				if !impl.SizeOk(room) || !impl.StateOk(c, s) {
					continue // the others alone are too much: there is no such case
				}
				behind := copyState(s)
				onNode(pods-1, 2, c.Start)(&behind)
				may := room.Cpu >= whole.Cpu && room.Mem >= whole.Mem
				wantWrite(t, "the last slot", c, s, bind(pods, 2), behind, may)
				switch {
				case may:
					fit++
				case room.Cpu < whole.Cpu:
					cpuShort++
				default:
					memShort++
				}
			}
		}
	}
	if fit < 12 || cpuShort < 8 || memShort < 12 {
		t.Errorf("%d had room, %d too little Cpu, %d too little Mem", fit, cpuShort, memShort)
	}
}

// A node is filled one by one: as many as there are slots have room, one more has not.
func TestWriteBindSlots(t *testing.T) {
	c := wideCfg()
	for work, one := range c.Works {
		s := impl.StateOpen(c)
		s.Nodes, s.NextNode = []impl.Node{{Id: 1, Group: 2}}, 2
		addPods(work, one.Max)(&s)
		slots := impl.SizeSlots(one.Size, c.Groups[2].Size)
		for i := range one.Max {
			behind := copyState(s)
			onNode(i, 1, c.Start)(&behind)
			wantWrite(t, "slots", c, s, bind(i+1, 1), behind, i < slots)
			s, _ = impl.WriteDo(c, s, bind(i+1, 1))
		}
	}
}

func TestWriteNom(t *testing.T) {
	place := func(at int, node int) func(s *impl.State) { return func(s *impl.State) { s.Pods[at].Nom = node } }
	wantWrites(t, wideCfg(), wideState(), []writeCase{
		{"a place", nil, nom(7, 9), place(4, 9)},
		{"another place", nil, nom(6, 9), place(3, 9)},
		{"the place that it has", nil, nom(6, 5), asItWas},
		{"no place any more", nil, nom(6, 0), place(3, 0)},
		{"none, where there was none", nil, nom(7, 0), asItWas},
		{"the last pod, none", nil, nom(13, 0), place(7, 0)},
		{"the first pod", onNode(0, 0, 0), nom(1, 2), place(0, 2)},
		{"on a full node", nil, nom(7, 5), place(4, 5)},
		{"on a node that has nothing", func(s *impl.State) { s.Nodes[1].Boot = 0 }, nom(7, 3), place(4, 3)},
		{"on a node that boots", nil, nom(7, 6), nil},
		{"on a node that boots for long", nil, nom(7, 3), nil},
		{"on a node of a number between", nil, nom(7, 4), nil},
		{"on the next node", nil, nom(7, 10), nil},
		{"on a node below 0", nil, nom(7, -1), nil},
		{"one that has a place, on no such node", nil, nom(6, 4), nil},
		{"for a pod on a node", nil, nom(1, 9), nil},
		{"for a pod on that node", nil, nom(1, 2), nil},
		{"none for a pod on a node", nil, nom(1, 0), nil},
		{"for a pod that starts", nil, nom(2, 9), nil},
		{"for a number between", nil, nom(3, 9), nil},
		{"none for a number between", nil, nom(3, 0), nil},
		{"for the next pod", nil, nom(20, 9), nil},
		{"for no pod", nil, nom(0, 9), nil},
		{"none for no pod", nil, nom(0, 0), nil},
	})
}

func TestWriteAsk(t *testing.T) {
	stands := func(group int, asked int, rest int) func(s *impl.State) {
		return func(s *impl.State) { s.Groups[group].Asked, s.Groups[group].Rest = asked, rest }
	}
	more := func(group int) func(s *impl.State) { return func(s *impl.State) { s.Groups[group].Asked++ } }
	wantWrites(t, wideCfg(), wideState(), []writeCase{ // of 2, 6 and 8 there are 1, 1 and 3
		{"one that does not rest", nil, ask(1), more(1)},
		{"one that rests for 1", stands(1, 0, 1), ask(1), nil},
		{"one that rests for long", stands(1, 0, 48), ask(1), nil},
		{"another rests", stands(0, 0, 1), ask(1), more(1)},
		{"one that failed and does not rest any more", func(s *impl.State) { s.Groups[1].Fails = 3 }, ask(1), more(1)},
		{"one below Max", stands(0, 0, 0), ask(0), more(0)},
		{"Max, with one that is asked for", stands(0, 1, 0), ask(0), nil},
		{"Max, all that there are", func(s *impl.State) {
			s.Nodes[4].Group = 0
			stands(0, 0, 0)(s)
		}, ask(0), nil},
		{"Max, and it rests", stands(0, 1, 1), ask(0), nil},
		{"one below Max, the last group", stands(2, 4, 0), ask(2), more(2)},
		{"Max, the last group", stands(2, 5, 0), ask(2), nil},
		{"one below Max, but it rests", stands(2, 4, 1), ask(2), nil},
		{"all asked for", func(s *impl.State) {
			s.Nodes[1].Group, s.Nodes[1].Boot = 2, 0
			stands(1, 6, 0)(s)
		}, ask(1), nil},
		{"all asked for but one", func(s *impl.State) {
			s.Nodes[1].Group, s.Nodes[1].Boot = 2, 0
			stands(1, 5, 0)(s)
		}, ask(1), more(1)},
		{"a group too far", nil, ask(3), nil},
		{"a group below 0", nil, ask(-1), nil},
	})
	open := impl.StateOpen(leastCfg())
	wantWrite(t, "a group of no nodes", leastCfg(), open, ask(0), open, false)
}

func TestWriteIdle(t *testing.T) {
	looks := func(place int, n int) func(s *impl.State) { return func(s *impl.State) { s.Nodes[place].Idle = n } }
	wantWrites(t, wideCfg(), wideState(), []writeCase{
		{"one more", nil, setIdle(5, 3), looks(2, 3)},
		{"0", nil, setIdle(5, 0), looks(2, 0)},
		{"Idle", nil, setIdle(5, 5), looks(2, 5)},
		{"below 0", nil, setIdle(5, -1), nil},
		{"above Idle", nil, setIdle(5, 6), nil},
		{"the first node, with pods", nil, setIdle(2, 5), looks(0, 5)},
		{"the last node", nil, setIdle(9, 0), looks(4, 0)},
		{"as it was", nil, setIdle(9, 5), asItWas},
		{"above Idle, the last node", nil, setIdle(9, 6), nil},
		{"one that boots", nil, setIdle(6, 1), nil},
		{"one that boots, 0", nil, setIdle(6, 0), nil},
		{"one that boots no more", func(s *impl.State) { s.Nodes[3].Boot = 0 }, setIdle(6, 0), looks(3, 0)},
		{"a number between", nil, setIdle(4, 1), nil},
		{"the next number", nil, setIdle(10, 1), nil},
		{"the number of none", nil, setIdle(0, 1), nil},
		{"below the numbers", nil, setIdle(-1, 1), nil},
	})
}

func TestWriteDrop(t *testing.T) {
	gone := func(place int) func(s *impl.State) {
		return func(s *impl.State) { s.Nodes = slices.Delete(s.Nodes, place, place+1) }
	}
	wantWrites(t, wideCfg(), wideState(), []writeCase{ // of the last group, with a Min of 2, there are 5, 6 and 9
		{"one more than Min, one of them boots", nil, drop(9), gone(4)},
		{"just Min, and two asked for", gone(3), drop(9), nil},
		{"just Min, and as many asked for as there may be", func(s *impl.State) {
			gone(3)(s)
			s.Groups[2].Asked = 6
		}, drop(9), nil},
		{"one below Min", func(s *impl.State) {
			onNode(1, 0, 0)(s)
			onNode(3, 0, 0)(s)
			onNode(5, 0, 0)(s)
			s.Nodes = slices.Delete(s.Nodes, 2, 4)
		}, drop(9), nil},
		{"one more than Min, none asked for", func(s *impl.State) { s.Groups[2].Asked = 0 }, drop(9), gone(4)},
		{"its group rests", func(s *impl.State) { s.Groups[2].Rest = 48 }, drop(9), gone(4)},
		{"Idle of 0", func(s *impl.State) { s.Nodes[4].Idle = 0 }, drop(9), gone(4)},
		{"the only one of a group, Min of 0", func(s *impl.State) { s.Nodes[1].Boot = 0 }, drop(3), gone(1)},
		{"a middle one", func(s *impl.State) { s.Nodes[3].Boot = 0 }, drop(6), gone(3)},
		{"the first one", func(s *impl.State) {
			s.Pods = s.Pods[:0]
			s.Nodes[4].Group = 0
			s.Groups[0].Asked = 0
		}, drop(2), gone(0)},
		{"the first one, just Min", func(s *impl.State) { s.Pods = s.Pods[:0] }, drop(2), nil},
		{"one that boots", nil, drop(6), nil},
		{"one that boots, Min of 0", nil, drop(3), nil},
		{"one with two pods", nil, drop(5), nil},
		{"one with a pod that starts", onNode(4, 9, 3), drop(9), nil},
		{"one with a pod that is ready", onNode(4, 9, 0), drop(9), nil},
		{"one with the last pod", onNode(7, 9, 0), drop(9), nil},
		{"a number between", nil, drop(4), nil},
		{"the next number", nil, drop(10), nil},
		{"the number of none", nil, drop(0), nil},
		{"below the numbers", nil, drop(-9), nil},
		{"the number of a pod", nil, drop(13), nil},
		{"no nodes", func(s *impl.State) { s.Pods, s.Nodes = nil, nil }, drop(9), nil},
	})
}

// A node goes on which places are kept, for several pods: they have none then; places elsewhere stay.
func TestWriteDropFreesPlaces(t *testing.T) {
	for way := range 27 { // of the three pods that wait each has no place, one on 2, or one on 9
		s := wideState()
		behind := wideState()
		behind.Nodes = behind.Nodes[:4]
		for i, at := range []int{3, 4, 7} {
			node := []int{0, 2, 9}[way/[]int{1, 3, 9}[i]%3]
			s.Pods[at].Nom, behind.Pods[at].Nom = node, node
			if node == 9 {
				behind.Pods[at].Nom = 0
			}
		}
		wantWrite(t, "places", wideCfg(), s, drop(9), behind, true)
		s.Pods[6] = impl.Pod{Id: 10, Work: 1, Node: 9}
		wantWrite(t, "places and a pod", wideCfg(), s, drop(9), s, false)
	}
}

// modelDo is the chapter's table once more, by lists alone; s is ok.
func modelDo(c impl.Cfg, s impl.State, w impl.Write) (impl.State, bool) {
	was := s
	s = copyState(s)
	isWork, isGroup := w.A >= 0 && w.A < len(c.Works), w.A >= 0 && w.A < len(c.Groups)
	pod := slices.IndexFunc(s.Pods, func(p impl.Pod) bool { return p.Id == w.A })
	node := slices.IndexFunc(s.Nodes, func(n impl.Node) bool { return n.Id == w.A && n.Boot == 0 })
	other := slices.IndexFunc(s.Nodes, func(n impl.Node) bool { return n.Id == w.B && n.Boot == 0 })
	waits := pod >= 0 && s.Pods[pod].Node == 0
	switch {
	case w.Kind == 1 && isWork && c.Works[w.A].Min <= w.N && w.N <= c.Works[w.A].Max:
		s.Works[w.A].Want = w.N
	case w.Kind == 2 && isWork && 0 <= w.N && w.N <= c.Calm:
		s.Works[w.A].Low = w.N
	case w.Kind == 3 && isWork && podsOf(s, w.A) < c.Works[w.A].Max && s.NextPod < 1000000:
		s.Pods = append(s.Pods, impl.Pod{Id: s.NextPod, Work: w.A})
		s.NextPod++
	case w.Kind == 4 && pod >= 0:
		s.Pods = slices.Delete(s.Pods, pod, pod+1)
	case w.Kind == 5 && waits && other >= 0 && impl.SizeFits(c.Works[s.Pods[pod].Work].Size, impl.StateFree(c, s, w.B)):
		s.Pods[pod] = impl.Pod{Id: w.A, Work: s.Pods[pod].Work, Node: w.B, Wait: c.Start}
	case w.Kind == 6 && pod >= 0 && !waits:
		s.Pods[pod] = impl.Pod{Id: w.A, Work: s.Pods[pod].Work}
	case w.Kind == 7 && waits && (w.B == 0 || other >= 0):
		s.Pods[pod].Nom = w.B
	case w.Kind == 8 && isGroup && s.Groups[w.A].Rest == 0 && nodesOf(s, w.A)+s.Groups[w.A].Asked < c.Groups[w.A].Max:
		s.Groups[w.A].Asked++
	case w.Kind == 9 && node >= 0 && 0 <= w.N && w.N <= c.Idle:
		s.Nodes[node].Idle = w.N
	case w.Kind == 10 && node >= 0 && modelDrop(c, &s, node):
	default:
		return was, false
	}
	return s, true
}

func modelDrop(c impl.Cfg, s *impl.State, at int) bool {
	n := s.Nodes[at]
	for _, p := range s.Pods {
		if p.Node == n.Id {
			return false
		}
	}
	if nodesOf(*s, n.Group) <= c.Groups[n.Group].Min {
		return false
	}
	s.Nodes = slices.Delete(s.Nodes, at, at+1)
	for i := range s.Pods {
		if s.Pods[i].Nom == n.Id {
			s.Pods[i].Nom = 0
		}
	}
	return true
}

func podsOf(s impl.State, work int) int {
	pods, _ := impl.StatePods(s, work)
	return pods
}

// P4: every change that can be told with small numbers, of all that may be and that may not, on what is ok.
func TestWriteEveryChange(t *testing.T) {
	for _, x := range okStates() {
		numbers := []int{-1, 0, 1, 2, 3, 4, 5, 6, 7, 8, 9, 10, 13, 14, impl.StateMaxId - 1, impl.StateMaxId}
		done, not := 0, 0
		for kind := -1; kind <= 12; kind++ {
			for _, a := range numbers {
				for _, b := range numbers {
					w := impl.Write{Kind: kind, A: a, B: b, N: b}
					behind, may := modelDo(x.c, x.s, w)
					got, ok := impl.WriteDo(x.c, x.s, w)
					if ok != may || !sameState(got, behind) || !impl.StateOk(x.c, got) {
						t.Errorf("%s: WriteDo of %v is %v and %v, want %v and %v", x.why, w, got, ok, behind, may)
					}
					if ok {
						done++
					} else {
						not++
					}
				}
			}
		}
		if done == 0 || not == 0 {
			t.Errorf("%s: %d were done, %d were not", x.why, done, not)
		}
	}
}

// Numbers of any greatness in each field of a change: no kind, work, group, pod or node has them.
func TestWriteWildChanges(t *testing.T) {
	for _, x := range okStates() {
		for _, wild := range append(wildNumbers, 11, 0, 256, 257, 266, 1<<16+1) {
			for _, w := range []impl.Write{{Kind: wild}, {Kind: wild, A: 1, B: 2, N: 3}, {Kind: wild, A: wild, B: wild, N: wild}} {
				wantWrite(t, x.why+", a kind", x.c, x.s, w, x.s, false)
			}
		}
		for kind := 1; kind <= 10; kind++ {
			for _, wild := range wildNumbers {
				for _, w := range []impl.Write{
					{Kind: kind, A: wild, B: 1, N: 1}, {Kind: kind, A: 1, B: wild, N: 1}, {Kind: kind, A: 1, B: 1, N: wild}, {Kind: kind, A: 7, B: wild, N: wild},
					{Kind: kind, A: wild, B: wild, N: 1}, {Kind: kind, A: wild, B: 0, N: wild}, {Kind: kind, A: wild, B: wild, N: wild}, {Kind: kind, B: wild, N: wild},
				} {
					behind, may := modelDo(x.c, x.s, w)
					wantWrite(t, x.why+", a field", x.c, x.s, w, behind, may)
					if w.A == wild && may {
						t.Errorf("%s: %v may be", x.why, w)
					}
				}
			}
		}
	}
}

// someChanges has one of each kind, and one of none, that may be on wideState by itself (but for the last).
func someChanges() []impl.Write {
	return []impl.Write{
		setWant(0, 4), setLow(0, 3), makePod(0), kill(1), bind(7, 9), oust(1), nom(7, 9), ask(1), setIdle(5, 3), drop(9), {},
	}
}

func wantNothing(t *testing.T, why string, c impl.Cfg, s impl.State) {
	t.Helper()
	for _, w := range someChanges() {
		if got, ok := impl.WriteDo(c, s, w); ok || !sameState(got, impl.State{}) {
			t.Errorf("%s: WriteDo of %v is %v and %v", why, w, got, ok)
		}
	}
	for _, list := range [][]impl.Write{nil, {}, {{}}, someChanges(), {setWant(0, 4)}, slices.Repeat([]impl.Write{setLow(0, 1)}, 400)} {
		if got, n := impl.WriteAll(c, s, list); n != 0 || !sameState(got, impl.State{}) {
			t.Errorf("%s: WriteAll of %v is %v and %d", why, list, got, n)
		}
	}
}

// Of what is not ok there is nothing, whatever the change, and also where there is no change.
func TestWriteOfWrongState(t *testing.T) {
	for _, w := range someChanges()[:10] {
		if _, ok := impl.WriteDo(wideCfg(), wideState(), w); !ok {
			t.Fatalf("%v may not be", w)
		}
	}
	for _, spoil := range []func(s *impl.State){
		func(s *impl.State) { *s = impl.State{} },
		func(s *impl.State) { s.Works = nil },
		func(s *impl.State) { s.Groups = nil },
		func(s *impl.State) { s.Groups = s.Groups[:2] },
		func(s *impl.State) { s.Works = append(s.Works, s.Works[0]) },
		func(s *impl.State) { s.Nodes = nil },
		func(s *impl.State) { slices.Reverse(s.Pods) },
		func(s *impl.State) { slices.Reverse(s.Nodes) },
		func(s *impl.State) { s.Pods[4].Id = 6 },
		func(s *impl.State) { s.Pods[6].Node = 5 }, // too much Mem
		func(s *impl.State) { s.Pods[0].Node = 6 },
		func(s *impl.State) { s.Pods[3].Nom = 6 },
		func(s *impl.State) { s.Pods[3].Wait = 1 },
		func(s *impl.State) { s.NextPod = impl.StateMaxId + 1 },
		func(s *impl.State) { addPods(0, 3)(s) },
		func(s *impl.State) { s.Groups[0].Asked = 2 },
	} {
		wantNothing(t, "not ok", wideCfg(), changed(spoil))
	}
	// A change that would mend what is not ok is none either.
	for w, spoil := range map[impl.Write]func(s *impl.State){
		setWant(0, 2): func(s *impl.State) { s.Works[0].Want = 5 },
		setLow(0, 0):  func(s *impl.State) { s.Works[0].Low = 5 },
		kill(22):      addPods(0, 3),
		oust(10):      func(s *impl.State) { s.Pods[6].Node = 5 },
		nom(6, 0):     func(s *impl.State) { s.Pods[3].Nom = 6 },
		setIdle(9, 0): func(s *impl.State) { s.Nodes[4].Idle = 6 },
		drop(9):       func(s *impl.State) { s.Groups[2].Asked = 6 },
		makePod(0):    func(s *impl.State) { s.NextPod = 13 },
		bind(7, 9):    func(s *impl.State) { s.Pods[4].Wait = 1 },
	} {
		s := changed(spoil)
		wantNothing(t, "not ok", wideCfg(), s)
		if got, ok := impl.WriteDo(wideCfg(), s, w); ok || !sameState(got, impl.State{}) {
			t.Errorf("%v of %v is %v", w, s, got)
		}
	}
	for _, c := range []impl.Cfg{{}, plainCfg(), tightCfg(), leastCfg()} {
		wantNothing(t, "of another Cfg", c, wideState())
	}
	c := wideCfg()
	c.Idle = 1
	wantNothing(t, "a wrong Cfg", c, wideState())
	wantNothing(t, "nothing at all", impl.Cfg{}, impl.State{})
}

// Numbers of any greatness in each field of what there is: nothing, where that is not ok, and else as ever.
func TestWriteWildStates(t *testing.T) {
	for _, x := range okStates() {
		s := copyState(x.s)
		for _, at := range everyField(&s) {
			was := *at
			for _, n := range wildNumbers {
				*at = n
				if !impl.StateOk(x.c, s) {
					wantNothing(t, x.why, x.c, s)
					continue
				}
				for _, w := range someChanges() {
					behind, may := modelDo(x.c, s, w)
					wantWrite(t, x.why, x.c, s, w, behind, may)
				}
			}
			*at = was
		}
	}
}

// wantAll asks what is behind a list of changes, of which the first so many are done.
func wantAll(t *testing.T, why string, c impl.Cfg, s impl.State, list []impl.Write, behind impl.State, done int) {
	t.Helper()
	got, n := impl.WriteAll(c, s, list)
	if n != done || !sameState(got, behind) {
		t.Errorf("%s: WriteAll is %v and %d, want %v and %d", why, got, n, behind, done)
	}
}

// Several changes, up to the first that may not be; those behind it are not done, also where they may be.
func TestWriteAll(t *testing.T) {
	c, s := plainCfg(), plainState()
	s.Groups[0].Asked = 0
	list := []impl.Write{
		oust(1), makePod(0), setWant(0, 2), bind(1, 1), nom(5, 1), setLow(1, 1), ask(0), kill(2), setIdle(1, 1), bind(4, 1),
		drop(1), // it has pods
		kill(1), kill(4), ask(0),
	}
	behind := impl.State{
		Pods:    []impl.Pod{{Id: 1, Node: 1, Wait: 1}, {Id: 4, Work: 1, Node: 1, Wait: 1}, {Id: 5, Nom: 1}},
		Nodes:   []impl.Node{{Id: 1, Idle: 1}, {Id: 2, Boot: 2}},
		Works:   []impl.WorkState{{Want: 2}, {Want: 2, Load: 15, Low: 1}},
		Groups:  []impl.GroupState{{Asked: 1}},
		NextPod: 6, NextNode: 3,
	}
	wantAll(t, "up to one that may not be", c, s, list, behind, 10)
	wantAll(t, "just ahead of it", c, s, list[:10], behind, 10)
	wantAll(t, "none", c, s, nil, s, 0)
	wantAll(t, "an empty list", c, s, []impl.Write{}, s, 0)
	wantAll(t, "the first may not be", c, s, list[10:], s, 0)
	wantAll(t, "a kind that is none first", c, s, append([]impl.Write{{Kind: 11}}, list...), s, 0)
	wantAll(t, "two of one pod", c, s, []impl.Write{kill(1), kill(1), kill(2)}, behindAll(c, s, []impl.Write{kill(1)}), 1)
	wantAll(t, "a pod that has just come", c, s, []impl.Write{kill(1), makePod(0), bind(5, 1), oust(5), kill(5)}, behindAll(c, s, []impl.Write{kill(1), makePod(0), kill(5)}), 5)
	wantAll(t, "no room but where one has gone", c, s, []impl.Write{kill(2), bind(4, 1), makePod(1), bind(5, 1)}, behindAll(c, s, []impl.Write{kill(2), bind(4, 1), makePod(1)}), 3)
	wantAll(t, "a place that is kept goes with its node", c, s, []impl.Write{kill(1), kill(2), drop(1), nom(4, 1)}, behindAll(c, s, []impl.Write{kill(1), kill(2), nom(4, 0), drop(1)}), 3)
	wantBrokenOff(t, "list", c, s, list)
}

func behindAll(c impl.Cfg, s impl.State, list []impl.Write) impl.State {
	for _, w := range list {
		s, _ = modelDo(c, s, w)
	}
	return s
}

// wantBrokenOff is P4 for a list: broken off behind each of its changes all is as behind these one by one, and ok.
func wantBrokenOff(t *testing.T, why string, c impl.Cfg, s impl.State, list []impl.Write) {
	t.Helper()
	step, done, open := s, 0, true
	for i := range len(list) + 1 {
		got, n := impl.WriteAll(c, s, list[:i])
		if n != done || !sameState(got, step) || !impl.StateOk(c, got) {
			t.Fatalf("%s: broken off behind %d: %v and %d, want %v and %d", why, i, got, n, step, done)
		}
		if i < len(list) && open {
			step, open = modelDo(c, step, list[i])
			if open {
				done++
			}
		}
	}
}

// nextNumber is a row of numbers that looks like chance and is the same each time.
func nextNumber(seed *uint32, below int) int {
	*seed = *seed*1664525 + 1013904223
	return int(*seed>>8) % below
}

func someWrite(seed *uint32, s impl.State) impl.Write {
	w := impl.Write{Kind: 1 + nextNumber(seed, 10), A: nextNumber(seed, 4) - nextNumber(seed, 8)/7, N: nextNumber(seed, 10) - 1}
	if w.Kind >= 4 && w.Kind <= 7 && len(s.Pods) > 0 && nextNumber(seed, 10) > 0 {
		w.A = s.Pods[nextNumber(seed, len(s.Pods))].Id
	}
	if w.Kind >= 9 && len(s.Nodes) > 0 && nextNumber(seed, 10) > 0 {
		w.A = s.Nodes[nextNumber(seed, len(s.Nodes))].Id
	}
	if len(s.Nodes) > 0 && nextNumber(seed, 6) > 0 {
		w.B = s.Nodes[nextNumber(seed, len(s.Nodes))].Id
	}
	return w
}

// P4 on long ways from each beginning: whatever is done behind whatever was done, all stays ok, and a list of what was
// done does the same at once.
func TestWriteLongWays(t *testing.T) {
	var done, not [11]int
	for seed := range uint32(25) {
		for _, x := range okStates() {
			s, list := x.s, []impl.Write(nil)
			for len(list) < impl.WriteMax {
				w := someWrite(&seed, s)
				behind, may := modelDo(x.c, s, w)
				got, ok := impl.WriteDo(x.c, s, w)
				if ok != may || !sameState(got, behind) || !impl.StateOk(x.c, got) {
					t.Fatalf("%s: WriteDo of %v on %v is %v and %v, want %v and %v", x.why, w, s, got, ok, behind, may)
				}
				if ok {
					s, list = got, append(list, w)
					done[w.Kind]++
				} else {
					not[w.Kind]++
				}
			}
			wantAll(t, x.why, x.c, x.s, list, s, len(list))
		}
	}
	for kind := 1; kind <= 10; kind++ {
		if done[kind] < 100 || not[kind] < 100 {
			t.Errorf("of the kind %d %d were done, %d were not", kind, done[kind], not[kind])
		}
	}
}

func TestWriteBrokenOff(t *testing.T) {
	seed := uint32(5)
	for _, x := range okStates() {
		for range 20 {
			s, list := x.s, []impl.Write(nil)
			for len(list) < 30 {
				w := someWrite(&seed, s)
				if behind, may := modelDo(x.c, s, w); may || nextNumber(&seed, 40) == 0 {
					s, list = behind, append(list, w)
				}
			}
			wantBrokenOff(t, x.why, x.c, x.s, list)
		}
	}
}

// As many changes as WriteMax are done; of one more none is, also where it would not come to that.
func TestWriteMax(t *testing.T) {
	c, s := plainCfg(), plainState()
	list := make([]impl.Write, impl.WriteMax)
	for i := range list {
		list[i] = setLow(0, i%3)
	}
	behind := copyState(s)
	behind.Works[0].Low = 399 % 3
	wantAll(t, "400", c, s, list, behind, 400)
	wantAll(t, "399", c, s, list[:399], behindAll(c, s, []impl.Write{setLow(0, 398%3)}), 399)
	wantAll(t, "401", c, s, append(slices.Clone(list), setLow(0, 0)), impl.State{}, 0)
	wantAll(t, "401, the last may not be", c, s, append(slices.Clone(list), setLow(0, 3)), impl.State{}, 0)
	wantAll(t, "401, none may be", c, s, make([]impl.Write, 401), impl.State{}, 0)
	wantAll(t, "400, none may be", c, s, make([]impl.Write, 400), s, 0)
	wantAll(t, "many", c, s, make([]impl.Write, 100000), impl.State{}, 0)
	wantAll(t, "401 of what is not ok", c, impl.State{}, append(slices.Clone(list), setLow(0, 0)), impl.State{}, 0)
	list[399] = setLow(0, 3)
	wantAll(t, "400, the last may not be", c, s, list, behindAll(c, s, []impl.Write{setLow(0, 398%3)}), 399)
	list[399], list[0] = setLow(0, 0), setLow(0, 3)
	wantAll(t, "400, the first may not be", c, s, list, s, 0)
}

// scribble writes into all of the lists of s, what lies behind their ends included.
func scribble(s impl.State, n int) {
	for i := range s.Pods[:cap(s.Pods)] {
		s.Pods[:cap(s.Pods)][i] = impl.Pod{Id: n, Work: n, Node: n, Nom: n, Wait: n}
	}
	for i := range s.Nodes[:cap(s.Nodes)] {
		s.Nodes[:cap(s.Nodes)][i] = impl.Node{Id: n, Group: n, Boot: n, Idle: n}
	}
	for i := range s.Works[:cap(s.Works)] {
		s.Works[:cap(s.Works)][i] = impl.WorkState{Want: n, Load: n, Low: n}
	}
	for i := range s.Groups[:cap(s.Groups)] {
		s.Groups[:cap(s.Groups)][i] = impl.GroupState{Asked: n, Rest: n, Fails: n}
	}
}

// apart is one of the lists of s by itself, and s without it.
func apart(s impl.State, which int) (impl.State, impl.State) {
	var one impl.State
	switch which {
	case 0:
		one.Pods, s.Pods = s.Pods, nil
	case 1:
		one.Nodes, s.Nodes = s.Nodes, nil
	case 2:
		one.Works, s.Works = s.Works, nil
	case 3:
		one.Groups, s.Groups = s.Groups, nil
	}
	return one, s
}

// wantOwnMemory asks that calls leave s as it is, what lies behind its lists' ends included, and share none with it,
// with other answers, or between the lists of one.
func wantOwnMemory(t *testing.T, why string, c impl.Cfg, from impl.State, list []impl.Write, do func(c impl.Cfg, s impl.State, list []impl.Write) impl.State) {
	t.Helper()
	s, whole := spare(from)
	was, asked, changes := copyState(whole), copyCfg(c), slices.Clone(list)
	a, b := do(c, s, list), do(c, s, list)
	behind := copyState(a)
	if !sameState(a, b) {
		t.Errorf("%s: two answers: %v and %v", why, a, b)
	}
	for which := range 4 {
		one, others := apart(do(c, s, list), which)
		scribble(one, 99)
		if _, left := apart(behind, which); !sameState(others, left) {
			t.Errorf("%s: two lists of one answer share memory: %v", why, others)
		}
	}
	scribble(a, 98)
	if !sameState(b, behind) {
		t.Errorf("%s: two answers share memory: %v", why, b)
	}
	if !sameState(whole, was) || !sameState(s, from) || !sameCfg(c, asked) || !slices.Equal(list, changes) {
		t.Errorf("%s: an argument was written into: %v", why, whole)
	}
	scribble(whole, 97)
	if !sameState(b, behind) {
		t.Errorf("%s: an answer shares memory with its argument: %v", why, b)
	}
}

func TestWriteMemory(t *testing.T) {
	doOne := func(c impl.Cfg, s impl.State, list []impl.Write) impl.State {
		got, _ := impl.WriteDo(c, s, list[0])
		return got
	}
	doAll := func(c impl.Cfg, s impl.State, list []impl.Write) impl.State {
		got, _ := impl.WriteAll(c, s, list)
		return got
	}
	changes := append(someChanges(), setWant(0, 9), setLow(3, 0), makePod(-1), kill(3), bind(6, 6), oust(6), nom(6, 6), ask(0), setIdle(6, 0), drop(2), bind(6, 5), nom(6, 0), kill(13))
	cases := append(okStates(), stateCase{"nothing", wideCfg(), impl.State{}}, stateCase{"not ok", plainCfg(), wideState()})
	for _, x := range cases {
		for _, w := range changes {
			wantOwnMemory(t, x.why, x.c, x.s, []impl.Write{w}, doOne)
			wantOwnMemory(t, x.why, x.c, x.s, []impl.Write{w}, doAll)
		}
		wantOwnMemory(t, x.why, x.c, x.s, nil, doAll)
		wantOwnMemory(t, x.why, x.c, x.s, changes, doAll)
		wantOwnMemory(t, x.why, x.c, x.s, []impl.Write{makePod(0), kill(1), makePod(0), nom(7, 9), drop(9), ask(1), setWant(0, 4), setLow(0, 1)}, doAll)
		wantOwnMemory(t, x.why, x.c, x.s, make([]impl.Write, impl.WriteMax+1), doAll)
	}
}

// Behind a change there is nothing of another one: the same is answered whatever was asked in between.
func TestWriteKeepsNothing(t *testing.T) {
	for _, w := range someChanges() {
		first, ok := impl.WriteDo(wideCfg(), wideState(), w)
		for _, other := range someChanges() {
			impl.WriteDo(wideCfg(), wideState(), other)
			again, still := impl.WriteDo(wideCfg(), wideState(), w)
			if still != ok || !sameState(again, first) {
				t.Errorf("%v is another behind %v: %v and %v", w, other, again, still)
			}
		}
	}
}
