package tests

import (
	"math"
	"slices"
	"testing"

	"loop.example/hive/impl"
)

// lookCfg is wideCfg with a group of which one node holds all pods.
func lookCfg() impl.Cfg {
	c := wideCfg()
	c.Groups[0].Size = size(most, most)
	return c
}

// oneWork is lookCfg with nothing but the work w.
func oneWork(w impl.CfgWork) impl.Cfg {
	c := lookCfg()
	w.Size = size(2, 1)
	c.Works = []impl.CfgWork{w}
	return c
}

// readyState has so many pods of each work of c, all ready on one node, and wanted.
func readyState(c impl.Cfg, pods ...int) impl.State {
	s := impl.StateOpen(c)
	s.Nodes, s.NextNode = []impl.Node{{Id: 4}}, 5
	for work, n := range pods {
		s.Works[work].Want = n
		addPods(work, n)(&s)
	}
	for i := range s.Pods {
		s.Pods[i].Node = 4
	}
	return s
}

// loaded is readyState of one work with the load.
func loaded(c impl.Cfg, pods int, load int) impl.State {
	s := readyState(c, pods)
	s.Works[0].Load = load
	return s
}

func wantRaw(t *testing.T, why string, c impl.Cfg, s impl.State, work int, want int) {
	t.Helper()
	if got := impl.WantRaw(c, s, work); got != want {
		t.Errorf("%s: WantRaw of the work %d is %d, want %d: %v of %v", why, work, got, want, s, c)
	}
}

func wantPlan(t *testing.T, why string, c impl.Cfg, s impl.State, want ...impl.Write) {
	t.Helper()
	if got := impl.WantPlan(c, s); !slices.Equal(got, want) {
		t.Errorf("%s: WantPlan is %v, want %v: %v of %v", why, got, want, s, c)
	}
}

// modelRaw is the chapter's WantRaw once more, without a division, for what is ok.
func modelRaw(c impl.Cfg, s impl.State, work int) int {
	if work < 0 || work >= len(c.Works) {
		return -1
	}
	w, pods := c.Works[work], 0
	for _, p := range s.Pods {
		if p.Work != work {
			continue
		}
		if p.Node == 0 || p.Wait > 0 {
			return -1
		}
		pods++
	}
	if pods == 0 || pods != s.Works[work].Want {
		return -1
	}
	seen := min(s.Works[work].Load, pods*w.Limit)
	if (1000-w.Tol)*pods*w.Target <= 1000*seen && 1000*seen <= (1000+w.Tol)*pods*w.Target {
		return pods
	}
	n := w.Min
	for n < w.Max && n*w.Target < seen {
		n++
	}
	return n
}

// modelPlan is the chapter's WantPlan once more, by one list of changes that has all that Low and Want may need.
func modelPlan(c impl.Cfg, s impl.State) []impl.Write {
	var list []impl.Write
	for i, w := range s.Works {
		n := modelRaw(c, s, i)
		if n < 0 {
			continue
		}
		low := 0
		if n < w.Want && w.Low+1 < c.Calm {
			n, low = w.Want, w.Low+1
		}
		if n != w.Want {
			list = append(list, setWant(i, n))
		}
		if low != w.Low {
			list = append(list, setLow(i, low))
		}
	}
	return list
}

// wantLook asks of what is ok what the models say, and P5 and P4 behind the plan, broken off anywhere.
func wantLook(t *testing.T, why string, c impl.Cfg, s impl.State) {
	t.Helper()
	for work := -1; work <= len(c.Works); work++ {
		wantRaw(t, why, c, s, work, modelRaw(c, s, work))
	}
	list := modelPlan(c, s)
	wantPlan(t, why, c, s, list...)
	behind, done := impl.WriteAll(c, s, list)
	if done != len(list) || !impl.StateOk(c, behind) {
		t.Errorf("%s: %d of %v are done, behind them %v", why, done, list, behind)
	}
	for i, w := range c.Works {
		if n := behind.Works[i].Want; n < w.Min || n > w.Max {
			t.Errorf("%s: behind the plan %d are wanted of the work %d, of %d to %d", why, n, i, w.Min, w.Max)
		}
	}
	wantBrokenOff(t, why, c, s, list)
}

type loadCase struct {
	why              string
	pods, load, want int
}

func wantLoads(t *testing.T, why string, w impl.CfgWork, cases []loadCase) {
	t.Helper()
	c := oneWork(w)
	for _, x := range cases {
		s := loaded(c, x.pods, x.load)
		if !impl.StateOk(c, s) {
			t.Fatalf("%s, %s: not ok: %v of %v", why, x.why, s, c)
		}
		wantRaw(t, why+", "+x.why, c, s, 0, x.want)
		wantLook(t, why+", "+x.why, c, s)
	}
}

func TestWantRawOfLoads(t *testing.T) {
	wantLoads(t, "without Tol", impl.CfgWork{Min: 2, Max: 6, Target: 100, Limit: 150}, []loadCase{
		{"as many", 3, 300, 3},
		{"more", 3, 350, 4},
		{"two more", 4, 600, 6},
		{"fewer", 5, 250, 3},
		{"two fewer", 5, 300, 3},

		{"one above Target", 3, 301, 4},
		{"one below Target, rounded up", 3, 299, 3},
		{"a multiple of Target below", 4, 300, 3},
		{"one more than that", 4, 301, 4},
		{"one less than that", 4, 299, 3},
		{"a multiple of Target above", 4, 500, 5},
		{"one more", 4, 501, 6},
		{"one less", 4, 499, 5},

		{"just Min", 4, 200, 2},
		{"one above Min", 4, 201, 3},
		{"below Min", 4, 100, 2},
		{"far below Min", 6, 1, 2},
		{"no load", 3, 0, 2},
		{"no load, Min pods", 2, 0, 2},
		{"just Max", 5, 600, 6},
		{"one above Max", 5, 601, 6},
		{"above Max", 6, 700, 6},
		{"Max pods, all that they carry", 6, 900, 6},

		{"one below Limit for each", 2, 299, 3},
		{"Limit for each", 2, 300, 3},
		{"one above Limit for each", 2, 301, 3},
		{"so much that more would be asked for", 2, 401, 3},
		{"far above Limit", 2, impl.CfgMaxLoad, 3},
		{"far above Limit, more pods", 3, impl.CfgMaxLoad, 5},
		{"far above Limit, yet more pods", 4, impl.CfgMaxLoad, 6},
		{"far above Limit, Max pods", 6, impl.CfgMaxLoad, 6},
	})
	wantLoads(t, "Limit twice Target", impl.CfgWork{Min: 1, Max: 8, Target: 10, Limit: 20, Tol: 500}, []loadCase{
		{"one below Limit for each", 2, 39, 4},
		{"Limit for each", 2, 40, 4},
		{"one above Limit for each", 2, 41, 4},
		{"far above", 2, 100, 4},
		{"one pod", 1, 1000, 2},
		{"three pods", 3, 1000, 6},
		{"four pods", 4, 1000, 8},
		{"five pods", 5, 1000, 8},
	})
	wantLoads(t, "one pod alone", impl.CfgWork{Min: 1, Max: 1, Target: 1, Limit: 10000}, []loadCase{
		{"no load", 1, 0, 1}, {"Target", 1, 1, 1}, {"above Max", 1, 2, 1}, {"Limit", 1, 10000, 1}, {"far above", 1, impl.CfgMaxLoad, 1},
	})
	wantLoads(t, "the greatest numbers", impl.CfgWork{Min: 1, Max: 8, Target: 9999, Limit: 10000}, []loadCase{
		{"Target for each", 7, 69993, 7}, {"one above", 7, 69994, 8}, {"Limit for each", 7, 70000, 8}, {"far above", 7, impl.CfgMaxLoad, 8},
		{"all pods", 8, impl.CfgMaxLoad, 8}, {"none needed", 8, 0, 1}, {"one needed", 8, 9999, 1}, {"two needed", 8, 10000, 2},
	})
	wantLoads(t, "many more at once", impl.CfgWork{Min: 1, Max: 8, Target: 1, Limit: 10000}, []loadCase{
		{"all of Max", 1, 8, 8}, {"one less", 1, 7, 7}, {"one more", 1, 9, 8}, {"far above", 1, impl.CfgMaxLoad, 8},
	})
}

// Off Target by just as much as Tol lets be, and by one more, to both sides.
func TestWantTolerance(t *testing.T) {
	wantLoads(t, "half", impl.CfgWork{Min: 1, Max: 8, Target: 10, Limit: 20, Tol: 500}, []loadCase{
		{"just below", 4, 20, 4}, {"one less", 4, 19, 2}, {"just above", 4, 60, 4}, {"one more", 4, 61, 7},
		{"just below, all pods", 8, 40, 8}, {"one less, all pods", 8, 39, 4}, {"just above, all pods", 8, 120, 8}, {"one more, all pods", 8, 121, 8},
		{"just below, one pod", 1, 5, 1}, {"one less, one pod", 1, 4, 1}, {"just above, one pod", 1, 15, 1}, {"one more, one pod", 1, 16, 2},
	})
	wantLoads(t, "a tenth", impl.CfgWork{Min: 2, Max: 8, Target: 100, Limit: 150, Tol: 100}, []loadCase{
		{"just above", 3, 330, 3}, {"one more", 3, 331, 4}, {"just below", 3, 270, 3}, {"one less", 3, 269, 3},
		{"just above, more pods", 7, 770, 7}, {"one more, more pods", 7, 771, 8}, {"a load that fewer carry", 8, 720, 8}, {"one less, more pods", 8, 719, 8},
		{"a multiple that is off too far", 8, 700, 7},
	})
	wantLoads(t, "no whole number", impl.CfgWork{Min: 1, Max: 8, Target: 7, Limit: 11, Tol: 333}, []loadCase{ // 11.655 of 35
		{"just above", 5, 46, 5}, {"one more", 5, 47, 7}, {"just below", 5, 24, 5}, {"one less", 5, 23, 4},
	})
	wantLoads(t, "a thousandth of 1000", impl.CfgWork{Min: 1, Max: 8, Target: 1000, Limit: 1002, Tol: 1}, []loadCase{
		{"just above", 1, 1001, 1}, {"one more", 1, 1002, 2}, {"just above, three", 3, 3003, 3}, {"one more, three", 3, 3004, 4}, {"just below, three", 3, 2997, 3}, {"one less, three", 3, 2996, 3},
	})
	wantLoads(t, "a thousandth of 999", impl.CfgWork{Min: 1, Max: 8, Target: 999, Limit: 1002, Tol: 1}, []loadCase{
		{"one above", 1, 1000, 2}, {"one above, two", 2, 1999, 2}, {"two above, two", 2, 2000, 3},
	})
	wantLoads(t, "none", impl.CfgWork{Min: 1, Max: 8, Target: 10, Limit: 20}, []loadCase{
		{"on Target", 4, 40, 4}, {"one above", 4, 41, 5}, {"one below", 4, 39, 4}, {"as much below as one carries", 4, 30, 3},
	})
	wantLoads(t, "the greatest that Limit lets be", impl.CfgWork{Min: 1, Max: 8, Target: 6667, Limit: 10000, Tol: 499}, []loadCase{
		{"Limit", 4, 40000, 6}, {"just above", 4, 39975, 4}, {"one more", 4, 39976, 6}, {"just below", 4, 13361, 4}, {"one less", 4, 13360, 3},
	})
}

// someWorks are works at the edges of what Target, Limit, Tol, Min and Max may be together.
func someWorks() []impl.CfgWork {
	var list []impl.CfgWork
	for _, x := range [][3]int{{1, 2, 0}, {1, 2, 500}, {1, 10000, 0}, {1, 10000, 500}, {2, 3, 499}, {3, 5, 500}, {7, 9, 0}, {7, 9, 250}, {7, 11, 333}, {10, 20, 500}, {19, 20, 52}, {20, 29, 449}, {33, 50, 500}, {40, 1000, 37}} {
		for _, y := range [][2]int{{1, 1}, {1, 8}, {2, 4}, {8, 8}} {
			list = append(list, impl.CfgWork{Target: x[0], Limit: x[1], Tol: x[2], Min: y[0], Max: y[1]})
		}
	}
	return list
}

// P5 for each load that can be told apart: what is wanted is Min to Max, a greater load never asks for fewer, what is
// near enough is let be.
func TestWantOfEveryLoad(t *testing.T) {
	near, fewer, more := 0, 0, 0
	for _, w := range someWorks() {
		c := oneWork(w)
		if !impl.CfgOk(c) {
			t.Fatalf("not ok: %v", c)
		}
		for pods := w.Min; pods <= w.Max; pods++ {
			s, last := readyState(c, pods), 0
			for load := range min(pods*w.Limit, 3*w.Max*w.Target+3) + 3 {
				s.Works[0].Load = load
				got := impl.WantRaw(c, s, 0)
				if got != modelRaw(c, s, 0) || got < w.Min || got > w.Max {
					t.Fatalf("WantRaw %d, want %d: %d pods, load %d of %v", got, modelRaw(c, s, 0), pods, load, w)
				}
				if got < last {
					t.Fatalf("the load %d asks for %d, a lesser one for %d: %d pods of %v", load, got, last, pods, w)
				}
				last = got
				switch {
				case got < pods:
					fewer++
				case got > pods:
					more++
				case load != pods*w.Target:
					near++
				}
			}
			s.Works[0].Load = impl.CfgMaxLoad
			wantRaw(t, "the greatest load", c, s, 0, modelRaw(c, s, 0))
			if got := impl.WantRaw(c, s, 0); got < last {
				t.Errorf("the greatest load asks for %d, a lesser one for %d: %d pods of %v", got, last, pods, w)
			}
		}
	}
	if near < 1000 || fewer < 1000 || more < 1000 {
		t.Errorf("%d loads were let be, %d asked for fewer, %d for more", near, fewer, more)
	}
}

// lookState is of lookCfg: 3, 4 and 3 pods, all ready, with a load that asks for 4, 2 and 3.
func lookState() impl.State {
	s := readyState(lookCfg(), 3, 4, 3)
	s.Works[0].Load, s.Works[1].Load, s.Works[2].Load = 400, 15, 21
	return s
}

// Pods that start or wait, and others than are wanted: nothing is said of their work, and of the others what is so anyway.
func TestWantOfPodsThatAreNotReady(t *testing.T) {
	const none = -1
	for _, x := range []struct {
		why    string
		change func(s *impl.State)
		want   [3]int
	}{
		{"all ready", asItWas, [3]int{4, 2, 3}},
		{"the first pod starts", func(s *impl.State) { s.Pods[0].Wait = 1 }, [3]int{none, 2, 3}},
		{"the first pod starts for long", func(s *impl.State) { s.Pods[0].Wait = 3 }, [3]int{none, 2, 3}},
		{"the last pod of a work starts", func(s *impl.State) { s.Pods[2].Wait = 2 }, [3]int{none, 2, 3}},
		{"a pod of a middle work starts", func(s *impl.State) { s.Pods[4].Wait = 1 }, [3]int{4, none, 3}},
		{"the last pod starts", func(s *impl.State) { s.Pods[9].Wait = 1 }, [3]int{4, 2, none}},
		{"a pod waits", onNode(1, 0, 0), [3]int{none, 2, 3}},
		{"a pod waits with a place", func(s *impl.State) { s.Pods[5].Node, s.Pods[5].Nom = 0, 4 }, [3]int{4, none, 3}},
		{"the last pod waits", onNode(9, 0, 0), [3]int{4, 2, none}},
		{"pods of two works", func(s *impl.State) { onNode(0, 0, 0)(s); s.Pods[9].Wait = 1 }, [3]int{none, 2, none}},
		{"none is ready", func(s *impl.State) {
			for i := range s.Pods {
				onNode(i, 4*(i%2), i%2)(s)
			}
		}, [3]int{none, none, none}},
		{"one more is wanted", func(s *impl.State) { s.Works[0].Want = 4 }, [3]int{none, 2, 3}},
		{"one fewer is wanted", func(s *impl.State) { s.Works[1].Want = 3 }, [3]int{4, none, 3}},
		{"far more are wanted", func(s *impl.State) { s.Works[1].Want = 7 }, [3]int{4, none, 3}},
		{"far fewer are wanted", func(s *impl.State) { s.Works[1].Want = 1 }, [3]int{4, none, 3}},
		{"one more is wanted of the last", func(s *impl.State) { s.Works[2].Want = 4 }, [3]int{4, 2, none}},
		{"one pod has gone", func(s *impl.State) { s.Pods = s.Pods[1:] }, [3]int{none, 2, 3}},
		{"one has gone, and is not wanted", func(s *impl.State) { s.Pods, s.Works[0].Want = s.Pods[1:], 2 }, [3]int{3, 2, 3}},
		{"one has come, and waits", func(s *impl.State) { addPods(1, 1)(s); s.Works[1].Want = 5 }, [3]int{4, none, 3}},
		{"one has come, waits, and is not wanted", addPods(1, 1), [3]int{4, none, 3}},
		{"one has come, and is ready", func(s *impl.State) { addPods(1, 1)(s); s.Works[1].Want = 5; onNode(10, 4, 0)(s) }, [3]int{4, 2, 3}},
		{"one has come, is ready, and not wanted", func(s *impl.State) { addPods(1, 1)(s); onNode(10, 4, 0)(s) }, [3]int{4, none, 3}},
		{"as many ready as are wanted, one more starts", func(s *impl.State) { addPods(1, 1)(s); onNode(10, 4, 1)(s) }, [3]int{4, none, 3}},
		{"a work without a pod", func(s *impl.State) { s.Pods = s.Pods[3:] }, [3]int{none, 2, 3}},
		{"the last work without a pod", func(s *impl.State) { s.Pods = s.Pods[:7] }, [3]int{4, 2, none}},
		{"no pods", func(s *impl.State) { s.Pods = nil }, [3]int{none, none, none}},
		{"another node boots", func(s *impl.State) { s.Nodes = append(s.Nodes, impl.Node{Id: 5, Boot: 3}); s.NextNode = 6 }, [3]int{4, 2, 3}},
	} {
		s := lookState()
		x.change(&s)
		if !impl.StateOk(lookCfg(), s) {
			t.Fatalf("%s: not ok: %v", x.why, s)
		}
		for work, n := range x.want {
			wantRaw(t, x.why, lookCfg(), s, work, n)
		}
		for low := range 5 {
			for i := range s.Works {
				s.Works[i].Low = low
			}
			wantLook(t, x.why, lookCfg(), s)
		}
	}
	for _, c := range okCfgs() {
		wantLook(t, "the beginning", c, impl.StateOpen(c))
		wantPlan(t, "the beginning", c, impl.StateOpen(c))
	}
}

// Each case of the plan, with each Low that there can be.
func TestWantPlanCases(t *testing.T) {
	c := lookCfg() // Calm is 4
	for _, x := range []struct {
		why  string
		load int // of the work 1, of which there are 4
		low  int
		want []impl.Write
	}{
		{"above", 61, 0, []impl.Write{setWant(1, 7)}},
		{"above, a Low", 61, 1, []impl.Write{setWant(1, 7), setLow(1, 0)}},
		{"above, a Low of Calm", 61, 4, []impl.Write{setWant(1, 7), setLow(1, 0)}},
		{"below", 19, 0, []impl.Write{setLow(1, 1)}},
		{"below again", 19, 1, []impl.Write{setLow(1, 2)}},
		{"below, two less than Calm", 19, 2, []impl.Write{setLow(1, 3)}},
		{"below, one less than Calm", 19, 3, []impl.Write{setWant(1, 2), setLow(1, 0)}},
		{"below, a Low of Calm", 19, 4, []impl.Write{setWant(1, 2), setLow(1, 0)}},
		{"as many", 40, 0, nil},
		{"as many, a Low", 40, 1, []impl.Write{setLow(1, 0)}},
		{"as many, a Low of Calm", 40, 4, []impl.Write{setLow(1, 0)}},
		{"near enough", 60, 0, nil},
		{"near enough below", 20, 0, nil},
		{"near enough, a Low", 20, 3, []impl.Write{setLow(1, 0)}},
	} {
		s := lookState()
		s.Works[0].Load, s.Works[1].Load, s.Works[1].Low = 300, x.load, x.low
		wantPlan(t, x.why, c, s, x.want...)
		wantLook(t, x.why, c, s)
		s.Pods[4].Wait = 1
		wantPlan(t, x.why+", but a pod starts", c, s)
		wantLook(t, x.why+", but a pod starts", c, s)
	}
}

// With a Calm of 1 the first look that says fewer counts, whatever Low is; with others Low tells.
func TestWantPlanOfCalm(t *testing.T) {
	for calm := 1; calm <= impl.CfgMaxWait; calm++ {
		c := lookCfg()
		c.Calm = calm
		for low := range calm + 1 {
			s := lookState()
			s.Works[0].Load, s.Works[1].Low = 300, low
			want := []impl.Write{setLow(1, low+1)}
			if low >= calm-1 {
				want = []impl.Write{setWant(1, 2)}
				if low > 0 {
					want = append(want, setLow(1, 0))
				}
			}
			wantPlan(t, "fewer", c, s, want...)
			wantLook(t, "fewer", c, s)
		}
	}
	c := lookCfg()
	c.Calm = 1
	s := lookState()
	wantPlan(t, "a Calm of 1", c, s, setWant(0, 4), setWant(1, 2))
	s.Works[0].Low, s.Works[1].Low, s.Works[2].Low = 1, 1, 1
	wantPlan(t, "a Calm of 1, a Low of it", c, s, setWant(0, 4), setLow(0, 0), setWant(1, 2), setLow(1, 0), setLow(2, 0))
}

// Several works, in order: those of each case at each place.
func TestWantPlanInOrder(t *testing.T) {
	c := lookCfg()
	s := lookState()
	wantPlan(t, "more, fewer, as many", c, s, setWant(0, 4), setLow(1, 1))
	s.Works[0].Low, s.Works[1].Low, s.Works[2].Low = 3, 3, 3
	wantPlan(t, "more, fewer, as many, each with a Low", c, s, setWant(0, 4), setLow(0, 0), setWant(1, 2), setLow(1, 0), setLow(2, 0))
	s.Works[0].Load, s.Works[1].Load, s.Works[2].Load = 0, 1000, 1000
	wantPlan(t, "fewer, more, more", c, s, setWant(0, 2), setLow(0, 0), setWant(1, 7), setLow(1, 0), setWant(2, 4), setLow(2, 0))
	s.Pods[3].Wait = 1
	wantPlan(t, "a middle work of which nothing is said", c, s, setWant(0, 2), setLow(0, 0), setWant(2, 4), setLow(2, 0))
	s.Pods[0].Wait, s.Pods[9].Wait = 1, 1
	wantPlan(t, "nothing is said of any", c, s)
	loads := [3][]int{{0, 299, 331, 600}, {0, 19, 40, 61}, {0, 21, 22, 1000}}
	for way := range 4 * 4 * 4 * 5 * 5 * 5 {
		s := lookState()
		for i := range 3 {
			s.Works[i].Load, way = loads[i][way%4], way/4
			s.Works[i].Low, way = way%5, way/5
		}
		wantLook(t, "all ways", c, s)
	}
}

// Look behind look: more is asked for at once, fewer behind Calm looks in a row that say so, and none behind that.
func TestWantLookBehindLook(t *testing.T) {
	for calm := 1; calm <= impl.CfgMaxWait; calm++ {
		c := oneWork(impl.CfgWork{Min: 1, Max: 8, Target: 10, Limit: 20})
		c.Calm = calm
		for breaks := range calm {
			s := loaded(c, 5, 25)
			for look := range breaks {
				s = behindLook(t, c, s)
				if s.Works[0].Want != 5 || s.Works[0].Low != look+1 {
					t.Fatalf("Calm %d, behind %d looks: %v", calm, look+1, s.Works)
				}
			}
			s.Works[0].Load = 50 // one look that does not say so
			if s = behindLook(t, c, s); s.Works[0].Want != 5 || s.Works[0].Low != 0 {
				t.Fatalf("Calm %d, broken off behind %d looks: %v", calm, breaks, s.Works)
			}
			s.Works[0].Load = 25
			for look := range calm {
				if s.Works[0].Want != 5 || s.Works[0].Low != look {
					t.Fatalf("Calm %d, behind %d looks: %v", calm, look, s.Works)
				}
				s = behindLook(t, c, s)
			}
			if s.Works[0].Want != 3 || s.Works[0].Low != 0 {
				t.Fatalf("Calm %d, behind all looks: %v", calm, s.Works)
			}
			wantPlan(t, "there are others than are wanted", c, s)
			s.Pods = s.Pods[:3]
			wantPlan(t, "as many as are wanted", c, s)
			s.Works[0].Load = 31
			wantPlan(t, "more", c, s, setWant(0, 4))
		}
	}
}

func behindLook(t *testing.T, c impl.Cfg, s impl.State) impl.State {
	t.Helper()
	list := impl.WantPlan(c, s)
	behind, done := impl.WriteAll(c, s, list)
	if done != len(list) || !impl.StateOk(c, behind) {
		t.Fatalf("%d of %v are done on %v", done, list, s)
	}
	return behind
}

// wantNoLook asks that nothing is said of what is not ok.
func wantNoLook(t *testing.T, why string, c impl.Cfg, s impl.State) {
	t.Helper()
	if impl.StateOk(c, s) {
		t.Fatalf("%s: ok: %v", why, s)
	}
	for _, work := range append([]int{-1, 0, 1, 2, 3}, wildNumbers...) {
		wantRaw(t, why, c, s, work, -1)
	}
	wantPlan(t, why, c, s)
}

func TestWantOfNoWork(t *testing.T) {
	for _, x := range append(okStates(), stateCase{"looked at", lookCfg(), lookState()}) {
		for _, work := range append([]int{-1, -2, -3, len(x.c.Works), len(x.c.Works) + 1, 4, 10}, wildNumbers...) {
			wantRaw(t, x.why, x.c, x.s, work, -1)
		}
	}
}

// wrongLooks are lookState and lookCfg, each with something in it that is not ok.
func wrongLooks() []stateCase {
	var list []stateCase
	for _, spoil := range []func(s *impl.State){
		func(s *impl.State) { *s = impl.State{} },
		func(s *impl.State) { s.Works = nil },
		func(s *impl.State) { s.Works = s.Works[:2] },
		func(s *impl.State) { s.Works = append(s.Works, s.Works[0]) },
		func(s *impl.State) { s.Groups = nil },
		func(s *impl.State) { s.Nodes = nil },
		func(s *impl.State) { s.Nodes[0].Boot = 1 },
		func(s *impl.State) { slices.Reverse(s.Pods) },
		func(s *impl.State) { s.Pods[4].Id = 4 },
		func(s *impl.State) { s.Pods[4].Node = 5 },
		func(s *impl.State) { s.Pods[4].Work = 3 },
		func(s *impl.State) { s.Works[0].Want = 1 },
		func(s *impl.State) { s.Works[0].Want = 5 },
		func(s *impl.State) { s.Works[1].Want = 0 },
		func(s *impl.State) { s.Works[0].Load = -1 },
		func(s *impl.State) { s.Works[0].Load = impl.CfgMaxLoad + 1 },
		func(s *impl.State) { s.Works[1].Low = -1 },
		func(s *impl.State) { s.Works[1].Low = 5 },
		func(s *impl.State) { s.Works[2].Low = 5 },
		func(s *impl.State) { s.NextPod = 10 },
		func(s *impl.State) { s.NextNode = impl.StateMaxId + 1 },
		func(s *impl.State) { s.Groups[0].Asked = 2 },
		func(s *impl.State) { s.Groups[2].Fails = 4 },
	} {
		s := lookState()
		spoil(&s)
		list = append(list, stateCase{"not ok", lookCfg(), s})
	}
	for _, spoil := range []func(c *impl.Cfg){
		func(c *impl.Cfg) { *c = impl.Cfg{} },
		func(c *impl.Cfg) { *c = plainCfg() },
		func(c *impl.Cfg) { c.Works[1].Target = 0 },
		func(c *impl.Cfg) { c.Works[1].Target = -1 },
		func(c *impl.Cfg) { c.Works[1].Limit = 10 },
		func(c *impl.Cfg) { c.Works[1].Limit = 15 }, // Tol would let Limit be
		func(c *impl.Cfg) { c.Works[1].Tol = -1 },
		func(c *impl.Cfg) { c.Works[1].Min, c.Works[1].Max = 5, 4 },
		func(c *impl.Cfg) { c.Works[0].Max = 9 },
		func(c *impl.Cfg) { c.Calm = 0 },
		func(c *impl.Cfg) { c.Calm = 9 },
		func(c *impl.Cfg) { c.Idle = 1 },
		func(c *impl.Cfg) { c.Groups[0].Size = size(3, 3) },
	} {
		c := lookCfg()
		spoil(&c)
		list = append(list, stateCase{"of another Cfg", c, lookState()})
	}
	return list
}

func TestWantOfWrongState(t *testing.T) {
	for _, x := range wrongLooks() {
		wantNoLook(t, x.why, x.c, x.s)
	}
}

// eachWild has do see what there is and what is asked with numbers of any greatness in each field in turn.
func eachWild(do func(why string, c impl.Cfg, s impl.State)) {
	for _, x := range append(okStates(), stateCase{"looked at", lookCfg(), lookState()}) {
		s := copyState(x.s)
		for _, at := range everyField(&s) {
			was := *at
			for _, n := range append([]int{-1, 0, 1, 2, 3, 4, 5, 8, 9, impl.CfgMaxLoad, impl.CfgMaxLoad + 1}, wildNumbers...) {
				*at = n
				do(x.why, x.c, s)
			}
			*at = was
		}
	}
	c, s := lookCfg(), lookState()
	fields := cfgFields(&c)
	for i := range c.Works {
		w := &c.Works[i]
		fields = append(fields, cfgField{"Target", &w.Target, 1, w.Limit - 1}, cfgField{"Limit", &w.Limit, w.Target + 1, most}, cfgField{"Tol", &w.Tol, 0, 500})
	}
	for _, f := range fields {
		was := *f.at
		for _, n := range append([]int{f.least - 1, f.least, f.most, f.most + 1}, wildNumbers...) {
			*f.at = n
			do(f.why, c, s)
		}
		*f.at = was
	}
}

func TestWantOfWildNumbers(t *testing.T) {
	eachWild(func(why string, c impl.Cfg, s impl.State) {
		if impl.StateOk(c, s) {
			wantLook(t, why, c, s)
		} else {
			wantNoLook(t, why, c, s)
		}
	})
}

// As many pods as there may be, with all that they can carry and the greatest load.
func TestWantOfMostPods(t *testing.T) {
	c, s := tightCfg(), tightState()
	for i := range s.Pods {
		s.Pods[i].Wait = 0
	}
	wantPlan(t, "all are needed", c, s, setLow(0, 0), setLow(1, 0), setLow(2, 0))
	wantLook(t, "all are needed", c, s)
	for i := range s.Works {
		s.Works[i].Load = 0
	}
	wantPlan(t, "one is enough", c, s, setWant(0, 1), setLow(0, 0), setWant(1, 1), setLow(1, 0), setWant(2, 1), setLow(2, 0))
	wantLook(t, "one is enough", c, s)
	for i := range s.Works {
		s.Works[i].Low = 6
	}
	wantPlan(t, "one look is missing", c, s, setLow(0, 7), setLow(1, 7), setLow(2, 7))
}

// someLook is a Cfg that is ok, and what there may be of it, mostly such that something is said of it.
func someLook(seed *uint32) (impl.Cfg, impl.State) {
	c := lookCfg()
	c.Calm = 1 + nextNumber(seed, 8)
	c.Works = c.Works[:1+nextNumber(seed, 3)]
	var pods []int
	for i := range c.Works {
		w := &c.Works[i]
		w.Min = 1 + nextNumber(seed, 4)
		w.Max = w.Min + nextNumber(seed, 9-w.Min)
		w.Target = 1 + nextNumber(seed, 40)
		w.Limit = w.Target + 1 + nextNumber(seed, 60)
		w.Tol = nextNumber(seed, 1+min(500, (1000*(w.Limit-w.Target)-1)/w.Target))
		pods = append(pods, w.Min+nextNumber(seed, w.Max-w.Min+1))
	}
	s := readyState(c, pods...)
	for i := range s.Works {
		s.Works[i].Low = nextNumber(seed, c.Calm+1)
		s.Works[i].Load = nextNumber(seed, pods[i]*(c.Works[i].Limit+5))
		if nextNumber(seed, 12) == 0 {
			s.Works[i].Want = c.Works[i].Min + nextNumber(seed, c.Works[i].Max-c.Works[i].Min+1)
		}
	}
	if nextNumber(seed, 4) == 0 {
		onNode(nextNumber(seed, len(s.Pods)), 4*nextNumber(seed, 2), 0)(&s)
		s.Pods[len(s.Pods)-1].Wait = nextNumber(seed, 2) * s.Pods[len(s.Pods)-1].Node / 4
	}
	return c, s
}

func TestWantOfManyWays(t *testing.T) {
	seed := uint32(17)
	none, fewer, asMany, more := 0, 0, 0, 0
	for range 20000 {
		c, s := someLook(&seed)
		if !impl.StateOk(c, s) {
			t.Fatalf("not ok: %v of %v", s, c)
		}
		wantLook(t, "some", c, s)
		for work, w := range s.Works {
			switch n := impl.WantRaw(c, s, work); {
			case n == -1:
				none++
			case n < w.Want:
				fewer++
			case n > w.Want:
				more++
			default:
				asMany++
			}
		}
	}
	if none < 1000 || fewer < 1000 || asMany < 1000 || more < 1000 {
		t.Errorf("nothing was said %d times, fewer %d, as many %d, more %d", none, fewer, asMany, more)
	}
}

// wantPlanMemory asks of a plan that neither the lists that are handed in nor what lies behind their ends are changed,
// and that an answer is new memory.
func wantPlanMemory(t *testing.T, x stateCase, plan func(c impl.Cfg, s impl.State) []impl.Write) {
	t.Helper()
	s, whole := spare(x.s)
	was := copyState(whole)
	c := copyCfg(x.c)
	c.Works, c.Groups = slices.Concat(c.Works, wideCfg().Works)[:len(c.Works)], slices.Concat(c.Groups, wideCfg().Groups)[:len(c.Groups)]
	asked := impl.Cfg{Works: slices.Clone(c.Works[:cap(c.Works)]), Groups: slices.Clone(c.Groups[:cap(c.Groups)])}
	want := slices.Clone(plan(x.c, x.s))
	a, b := plan(c, s), plan(c, s)
	for i := range a[:cap(a)] {
		a[:cap(a)][i] = impl.Write{Kind: 99, A: 99, B: 99, N: 99}
	}
	if !slices.Equal(b, want) {
		t.Errorf("%s: two answers share memory, or are two: %v, want %v", x.why, b, want)
	}
	if again := plan(c, s); !slices.Equal(again, want) {
		t.Errorf("%s: another answer once more: %v, want %v", x.why, again, want)
	}
	if !sameState(whole, was) || !sameState(s, x.s) || !sameCfg(c, x.c) ||
		!slices.Equal(c.Works[:cap(c.Works)], asked.Works) || !slices.Equal(c.Groups[:cap(c.Groups)], asked.Groups) {
		t.Errorf("%s: an argument was written into: %v of %v", x.why, whole, c)
	}
	scribble(whole, 97)
	if !slices.Equal(b, want) {
		t.Errorf("%s: an answer shares memory with its argument: %v", x.why, b)
	}
}

func TestWantMemory(t *testing.T) {
	lows := lookState()
	for i := range lows.Works {
		lows.Works[i].Low = 4
	}
	cases := append(okStates(),
		stateCase{"looked at", lookCfg(), lookState()}, stateCase{"with each Low", lookCfg(), lows},
		stateCase{"nothing", wideCfg(), impl.State{}}, stateCase{"not ok", plainCfg(), wideState()},
	)
	for _, x := range cases {
		wantPlanMemory(t, x, func(c impl.Cfg, s impl.State) []impl.Write {
			for work := range 4 {
				wantRaw(t, x.why, c, s, work, impl.WantRaw(x.c, x.s, work))
			}
			return impl.WantPlan(c, s)
		})
	}
}

// Nothing is kept between two looks: the same is answered whatever was asked in between.
func TestWantKeepsNothing(t *testing.T) {
	seed := uint32(3)
	for range 200 {
		c, s := someLook(&seed)
		d, other := someLook(&seed)
		raw, plan := impl.WantRaw(c, s, 0), impl.WantPlan(c, s)
		impl.WantPlan(d, other)
		impl.WantRaw(d, other, 0)
		impl.WantRaw(c, s, math.MaxInt)
		wantRaw(t, "again", c, s, 0, raw)
		wantPlan(t, "again", c, s, plan...)
	}
}
