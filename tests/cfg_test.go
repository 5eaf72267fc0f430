package tests

import (
	"math"
	"slices"
	"testing"

	"loop.example/hive/impl"
)

// plainCfg is what is asked at the desk (chapter 20).
func plainCfg() impl.Cfg {
	return impl.Cfg{
		Works: []impl.CfgWork{
			{Size: size(2, 1), Min: 1, Max: 4, Target: 100, Limit: 150, Rank: 1},
			{Size: size(1, 3), Min: 1, Max: 2, Target: 10, Limit: 20},
		},
		Groups: []impl.CfgGroup{{Size: size(4, 6), Max: 3, Boot: 2}},
		Start:  1, Calm: 2, Idle: 2, Back: 1,
	}
}

// wideCfg has as many kinds as there may be, no two of them alike.
func wideCfg() impl.Cfg {
	return impl.Cfg{
		Works: []impl.CfgWork{
			{Size: size(2, 1), Min: 2, Max: 4, Target: 100, Limit: 150, Tol: 100, Rank: 9},
			{Size: size(1, 3), Min: 1, Max: 7, Target: 10, Limit: 20, Tol: 500, Rank: 0},
			{Size: size(0, 2), Min: 3, Max: 5, Target: 7, Limit: 9, Tol: 0, Rank: 4},
		},
		Groups: []impl.CfgGroup{
			{Size: size(9, 9), Min: 1, Max: 2, Boot: 3},
			{Size: size(0, 0), Min: 0, Max: 6, Boot: 7},
			{Size: size(4, 7), Min: 2, Max: 8, Boot: 1},
		},
		Start: 3, Calm: 4, Idle: 5, Back: 6,
	}
}

// tightCfg meets the greatest bounds: as many pods and nodes, and waits as long, as there may be.
func tightCfg() impl.Cfg {
	w := impl.CfgWork{Size: size(most, most), Min: 1, Max: impl.CfgMaxPods, Target: 9999, Limit: 10000, Rank: 9}
	g := impl.CfgGroup{Size: size(most, most), Max: impl.CfgMaxNodes, Boot: impl.CfgMaxWait}
	return impl.Cfg{
		Works:  []impl.CfgWork{w, w, w},
		Groups: []impl.CfgGroup{g, g, g},
		Start:  impl.CfgMaxWait, Calm: impl.CfgMaxWait, Idle: impl.CfgMaxWait, Back: impl.CfgMaxWait,
	}
}

// leastCfg meets the least bounds.
func leastCfg() impl.Cfg {
	return impl.Cfg{
		Works:  []impl.CfgWork{{Size: size(0, 1), Min: 1, Max: 1, Target: 1, Limit: 2}},
		Groups: []impl.CfgGroup{{Boot: 1}},
		Start:  1, Calm: 1, Idle: 2, Back: 1,
	}
}

func okCfgs() []impl.Cfg {
	return []impl.Cfg{plainCfg(), wideCfg(), tightCfg(), leastCfg()}
}

// The document's table of limits; the other tests take them by name.
func TestCfgLimits(t *testing.T) {
	got := [...]int{impl.SizeMax, impl.CfgMaxWorks, impl.CfgMaxGroups, impl.CfgMaxPods, impl.CfgMaxNodes, impl.CfgMaxWait, impl.CfgMaxLoad}
	if got != [...]int{10000, 3, 3, 8, 8, 8, 1000000} {
		t.Errorf("the limits are %v", got)
	}
}

func copyCfg(c impl.Cfg) impl.Cfg {
	c.Works, c.Groups = slices.Clone(c.Works), slices.Clone(c.Groups)
	return c
}

func sameCfg(a impl.Cfg, b impl.Cfg) bool {
	return slices.Equal(a.Works, b.Works) && slices.Equal(a.Groups, b.Groups) &&
		a.Start == b.Start && a.Calm == b.Calm && a.Idle == b.Idle && a.Back == b.Back
}

// wantCfgNothing asks that c is not ok, and that all tell nothing of it.
func wantCfgNothing(t *testing.T, why string, c impl.Cfg) {
	t.Helper()
	if impl.CfgOk(c) {
		t.Errorf("%s: CfgOk of %v", why, c)
	}
	if s := impl.CfgMost(c); s != size(0, 0) {
		t.Errorf("%s: CfgMost %v of %v", why, s, c)
	}
	if n := impl.CfgPods(c); n != 0 {
		t.Errorf("%s: CfgPods %d of %v", why, n, c)
	}
	if n := impl.CfgNodes(c); n != 0 {
		t.Errorf("%s: CfgNodes %d of %v", why, n, c)
	}
	if impl.CfgRoomy(c) {
		t.Errorf("%s: CfgRoomy of %v", why, c)
	}
	for _, fails := range []int{0, 1, 100, -1, 101} {
		if n := impl.CfgBound(c, fails); n != 0 {
			t.Errorf("%s: CfgBound %d with %d of %v", why, n, fails, c)
		}
	}
}

// wantCfg asks that c is ok or that all tell nothing of it.
func wantCfg(t *testing.T, why string, c impl.Cfg, ok bool) {
	t.Helper()
	if !ok {
		wantCfgNothing(t, why, c)
		return
	}
	if !impl.CfgOk(c) {
		t.Errorf("%s: not CfgOk of %v", why, c)
	}
}

func TestCfgReckoned(t *testing.T) {
	for _, x := range []struct {
		why         string
		c           impl.Cfg
		most        impl.Size
		pods, nodes int
		roomy       bool
		bounds      [3]int // with 0, 1 and 100 that failed to come
	}{
		// turns 2 + 5 + 3, each 4*5 + 1 + 2 + 4, a fail 2 + 8 + 3, at the end 4*4
		{"plain", plainCfg(), size(2, 3), 6, 3, true, [3]int{286, 299, 1586}},
		// turns 2 + 4 + 8 + 4, each 17*10 + 3 + 4 + 4, a fail 7 + 48 + 3, at the end 17*7
		{"wide", wideCfg(), size(2, 3), 16, 16, true, [3]int{3377, 3435, 9177}},
		// turns 2 + 9 + 9 + 9, each 25*11 + 8 + 8 + 4, a fail 8 + 64 + 3, at the end 25*10
		{"tight", tightCfg(), size(most, most), 24, 24, false, [3]int{8805, 8880, 16305}},
		// turns 2 + 2, each 1*4 + 1 + 1 + 4, a fail 1 + 8 + 3, at the end 1*4
		{"least", leastCfg(), size(0, 1), 1, 0, false, [3]int{44, 56, 1244}},
	} {
		if !impl.CfgOk(x.c) {
			t.Errorf("%s: not ok", x.why)
		}
		if s := impl.CfgMost(x.c); s != x.most {
			t.Errorf("%s: CfgMost %v, want %v", x.why, s, x.most)
		}
		if n := impl.CfgPods(x.c); n != x.pods {
			t.Errorf("%s: CfgPods %d, want %d", x.why, n, x.pods)
		}
		if n := impl.CfgNodes(x.c); n != x.nodes {
			t.Errorf("%s: CfgNodes %d, want %d", x.why, n, x.nodes)
		}
		if impl.CfgRoomy(x.c) != x.roomy {
			t.Errorf("%s: CfgRoomy %v", x.why, !x.roomy)
		}
		for i, fails := range []int{0, 1, 100} {
			if n := impl.CfgBound(x.c, fails); n != x.bounds[i] {
				t.Errorf("%s: CfgBound with %d: %d, want %d", x.why, fails, n, x.bounds[i])
			}
		}
		for _, fails := range []int{math.MinInt, -100, -1, 101, 102, 1000, math.MaxInt} {
			if n := impl.CfgBound(x.c, fails); n != 0 {
				t.Errorf("%s: CfgBound with %d: %d", x.why, fails, n)
			}
		}
	}
}

// What each number of what is asked adds to CfgBound, one more of it at a time.
func TestCfgBoundBySteps(t *testing.T) {
	for _, x := range []struct {
		why  string
		more func(c *impl.Cfg)
		adds int // with 5 that failed to come: turns 18, each 181, nodes 16, boot 7, Back 6
	}{
		{"Max of a work", func(c *impl.Cfg) { c.Works[1].Max++ }, 181},
		{"Min of a work", func(c *impl.Cfg) { c.Works[2].Min++ }, -181},
		{"Max of a group", func(c *impl.Cfg) { c.Groups[0].Max++ }, 18*10 + 7},
		{"Min of a group", func(c *impl.Cfg) { c.Groups[0].Min++ }, 0},
		{"the greatest Boot", func(c *impl.Cfg) { c.Groups[1].Boot++ }, 18*17 + 5},
		{"a lesser Boot", func(c *impl.Cfg) { c.Groups[2].Boot++ }, 0},
		{"Start", func(c *impl.Cfg) { c.Start++ }, 18},
		{"Calm", func(c *impl.Cfg) { c.Calm++ }, 18},
		{"Back", func(c *impl.Cfg) { c.Back++ }, 5 * 8},
		{"Idle", func(c *impl.Cfg) { c.Idle++ }, 17},
		{"a work", func(c *impl.Cfg) { c.Works = c.Works[:2] }, -4 * 181},
		{"a group", func(c *impl.Cfg) { c.Groups = c.Groups[:2] }, -8 * (18*10 + 7)},
		{"a size", func(c *impl.Cfg) { c.Groups[0].Size.Cpu++; c.Works[0].Size.Mem++ }, 0},
		{"a load", func(c *impl.Cfg) { c.Works[0].Limit++; c.Works[0].Target++; c.Works[2].Rank++ }, 0},
	} {
		c := wideCfg()
		ahead := impl.CfgBound(c, 5)
		x.more(&c)
		if n := impl.CfgBound(c, 5); n != ahead+x.adds {
			t.Errorf("%s: CfgBound %d, want %d and %d", x.why, n, ahead, x.adds)
		}
	}
	for fails := 1; fails <= 100; fails++ {
		if n := impl.CfgBound(wideCfg(), fails) - impl.CfgBound(wideCfg(), fails-1); n != 7+8*6+3 {
			t.Errorf("the fail %d adds %d", fails, n)
		}
	}
}

// cfgField is a number of what is asked, and from where to where it is ok, all others being as they are.
type cfgField struct {
	why         string
	at          *int
	least, most int
}

// cfgFields has every number of c, which is ok; without those of loads, which hang on each other.
func cfgFields(c *impl.Cfg) []cfgField {
	list := []cfgField{
		{"Start", &c.Start, 1, impl.CfgMaxWait},
		{"Calm", &c.Calm, 1, impl.CfgMaxWait},
		{"Idle", &c.Idle, 2, impl.CfgMaxWait},
		{"Back", &c.Back, 1, impl.CfgMaxWait},
	}
	for i := range c.Works {
		w := &c.Works[i]
		list = append(list,
			cfgField{"Cpu of a work", &w.Size.Cpu, leastMeasure(w.Size.Mem), most},
			cfgField{"Mem of a work", &w.Size.Mem, leastMeasure(w.Size.Cpu), most},
			cfgField{"Min of a work", &w.Min, 1, w.Max},
			cfgField{"Max of a work", &w.Max, w.Min, impl.CfgMaxPods},
			cfgField{"Rank", &w.Rank, 0, 9},
		)
	}
	for i := range c.Groups {
		g := &c.Groups[i]
		list = append(list,
			cfgField{"Cpu of a group", &g.Size.Cpu, 0, most},
			cfgField{"Mem of a group", &g.Size.Mem, 0, most},
			cfgField{"Min of a group", &g.Min, 0, g.Max},
			cfgField{"Max of a group", &g.Max, g.Min, impl.CfgMaxNodes},
			cfgField{"Boot", &g.Boot, 1, impl.CfgMaxWait},
		)
	}
	return list
}

// leastMeasure is what a measure of a work must be at least, so that its size is not nothing.
func leastMeasure(other int) int {
	if other == 0 {
		return 1
	}
	return 0
}

// wildNumbers are of any greatness; small ones wrapped round and many times taken are among them.
var wildNumbers = []int{
	math.MinInt, math.MinInt + 1, math.MinInt + 1000, math.MinInt / 2, math.MinInt / 1000, math.MinInt32, -most, -501, -1,
	most + 1, math.MaxInt32, 1 << 32, 1<<32 + 1, 1 << 61, 1<<61 + 1, 1 << 62, math.MaxInt / 1000, math.MaxInt / 2, math.MaxInt - 1000, math.MaxInt - 1, math.MaxInt,
}

// Each number by itself: the bounds that are just met, one less and one more, and numbers of any greatness.
func TestCfgBounds(t *testing.T) {
	for _, start := range okCfgs() {
		c := copyCfg(start)
		for _, f := range cfgFields(&c) {
			was := *f.at
			values := slices.Concat(wildNumbers, []int{f.least - 1, f.least, f.least + 1, f.most - 1, f.most, f.most + 1})
			for n := -2; n <= 12; n++ {
				values = append(values, n)
			}
			for _, n := range values {
				*f.at = n
				wantCfg(t, f.why, c, f.least <= n && n <= f.most)
			}
			*f.at = was
		}
		if !sameCfg(c, start) || !impl.CfgOk(c) {
			t.Fatalf("not put back: %v", c)
		}
	}
}

// Target, Limit and Tol, which hang on each other.
func TestCfgLoads(t *testing.T) {
	for _, x := range []struct {
		target, limit, tol int
		ok                 bool
	}{
		{100, 150, 0, true},
		{1, 2, 0, true},
		{1, 2, 500, true},
		{9999, 10000, 0, true},
		{1, 10000, 500, true},
		// Target of 0 and below.
		{0, 1, 0, false},
		{0, 150, 0, false},
		{-1, 150, 0, false},
		// Limit one above Target, equal to it, and below.
		{100, 101, 0, true},
		{100, 100, 0, false},
		{100, 99, 0, false},
		{1, 1, 0, false},
		// Limit of 10000 and one more.
		{100, 10000, 0, true},
		{100, 10001, 0, false},
		{10000, 10000, 0, false},
		{10000, 10001, 0, false},
		// Tol of 0 and 500 and beyond.
		{100, 200, 500, true},
		{100, 200, 501, false},
		{100, 200, 999, false},
		{100, 200, -1, false},
		{100, 200, -500, false},
		// 1000 times (Limit less Target) just Tol times Target, one more and one less.
		{100, 150, 499, true},
		{100, 150, 500, false},
		{100, 151, 500, true},
		{100, 149, 500, false},
		{1000, 1001, 0, true},
		{1000, 1001, 1, false},
		{999, 1000, 1, true},
		{1001, 1002, 1, false},
		{3, 4, 333, true},
		{3, 4, 334, false},
		{2, 3, 499, true},
		{2, 3, 500, false},
		{6666, 9999, 500, false},
		{6666, 10000, 500, true},
		{6667, 10000, 500, false},
		// What wraps round to a right answer.
		{100, math.MinInt, 0, false},
		{math.MinInt, 150, 0, false},
		{math.MinInt, math.MinInt + 100, 0, false},
		{math.MaxInt - 1, math.MaxInt, 0, false},
		{100, math.MaxInt, 500, false},
		{100, 150, math.MaxInt, false},
		{100, 150, math.MinInt, false},
		{100, 150, 1 << 62, false},
		{64, 150, 1 << 58, false},
		{1 << 61, 1<<61 + 1, 8, false},
	} {
		for place := range 3 {
			c := wideCfg()
			w := &c.Works[place]
			w.Target, w.Limit, w.Tol = x.target, x.limit, x.tol
			wantCfg(t, "loads", c, x.ok)
		}
	}
}

// Numbers of any greatness in two fields at once, of which one alone may be ok.
func TestCfgWildPairs(t *testing.T) {
	c := wideCfg()
	pairs := [][2]*int{
		{&c.Works[1].Min, &c.Works[1].Max}, {&c.Groups[2].Min, &c.Groups[2].Max},
		{&c.Works[1].Target, &c.Works[1].Limit}, {&c.Works[1].Target, &c.Works[1].Tol}, {&c.Works[1].Limit, &c.Works[1].Tol},
		{&c.Works[1].Size.Cpu, &c.Works[1].Size.Mem}, {&c.Groups[2].Size.Cpu, &c.Groups[2].Size.Mem},
	}
	for _, p := range pairs {
		a, b := *p[0], *p[1]
		for _, x := range wildNumbers {
			for _, y := range wildNumbers {
				*p[0], *p[1] = x, y
				wantCfg(t, "a pair", c, false)
			}
		}
		*p[0], *p[1] = a, b
	}
}

func TestCfgCounts(t *testing.T) {
	w, g := plainCfg().Works[0], plainCfg().Groups[0]
	for works := range 6 {
		for groups := range 6 {
			c := plainCfg()
			c.Works, c.Groups = slices.Repeat([]impl.CfgWork{w}, works), slices.Repeat([]impl.CfgGroup{g}, groups)
			wantCfg(t, "kinds", c, 1 <= works && works <= impl.CfgMaxWorks && 1 <= groups && groups <= impl.CfgMaxGroups)
		}
	}
	c := plainCfg()
	c.Works = nil
	wantCfg(t, "no works", c, false)
	c = plainCfg()
	c.Groups = nil
	wantCfg(t, "no groups", c, false)
	wantCfg(t, "nothing", impl.Cfg{}, false)
}

func TestCfgSizesOfKinds(t *testing.T) {
	for place := range 3 {
		for _, s := range wrongSizes() {
			c := wideCfg()
			c.Works[place].Size = s
			wantCfg(t, "a wrong size of a work", c, false)
			c = wideCfg()
			c.Groups[place].Size = s
			wantCfg(t, "a wrong size of a group", c, false)
		}
		for _, s := range okSizes() {
			c := wideCfg()
			c.Works[place].Size = s
			wantCfg(t, "a size of a work", c, s != size(0, 0))
			c = wideCfg()
			c.Groups[place].Size = s
			wantCfg(t, "a size of a group", c, true)
		}
	}
}

// A group that may have no nodes is one, and holds nobody.
func TestCfgGroupOfNoNodes(t *testing.T) {
	c := plainCfg()
	c.Groups[0].Max = 0
	wantCfg(t, "none", c, true)
	if n := impl.CfgNodes(c); n != 0 {
		t.Errorf("CfgNodes %d", n)
	}
	if impl.CfgRoomy(c) {
		t.Error("CfgRoomy without nodes")
	}
	// turns 10, each 1*5 + 1 + 2 + 4, a fail 13, at the end 1*4
	if n := impl.CfgBound(c, 2); n != 10*12+2*13+4 {
		t.Errorf("CfgBound %d", n)
	}
	c.Groups = append(c.Groups, plainCfg().Groups[0])
	if !impl.CfgRoomy(c) || impl.CfgNodes(c) != 3 {
		t.Error("a group without nodes stands ahead of one with room")
	}
}

func TestCfgRoomy(t *testing.T) {
	group := func(cpu int, mem int, most int) impl.CfgGroup {
		return impl.CfgGroup{Size: size(cpu, mem), Max: most, Boot: 1}
	}
	for _, x := range []struct {
		why    string
		groups []impl.CfgGroup
		roomy  bool
	}{ // of 6 pods of at most 2 and 3
		{"just met", []impl.CfgGroup{group(4, 6, 3)}, true},
		{"just met by one slot each", []impl.CfgGroup{group(2, 3, 6)}, true},
		{"just met by one node", []impl.CfgGroup{group(12, 18, 1)}, true},
		{"more than met", []impl.CfgGroup{group(most, most, 8)}, true},
		{"a node short", []impl.CfgGroup{group(4, 6, 2)}, false},
		{"a slot short", []impl.CfgGroup{group(12, 17, 1)}, false},
		{"a Cpu short", []impl.CfgGroup{group(3, 6, 3)}, false},
		{"a Mem short", []impl.CfgGroup{group(4, 5, 3)}, false},
		{"no slots", []impl.CfgGroup{group(1, 3, 8), group(2, 2, 8), group(0, 0, 8)}, false},
		{"only together", []impl.CfgGroup{group(4, 6, 2), group(4, 6, 2), group(4, 6, 2)}, false},
		{"the first", []impl.CfgGroup{group(4, 6, 3), group(0, 0, 1)}, true},
		{"the last", []impl.CfgGroup{group(0, 0, 1), group(4, 6, 2), group(4, 6, 3)}, true},
		{"the one between", []impl.CfgGroup{group(4, 6, 2), group(4, 6, 3), group(4, 6, 2)}, true},
	} {
		c := plainCfg()
		c.Groups = x.groups
		if !impl.CfgOk(c) || impl.CfgRoomy(c) != x.roomy {
			t.Errorf("%s: %v, want %v", x.why, impl.CfgRoomy(c), x.roomy)
		}
	}
	c := plainCfg()
	c.Works[1].Max++
	if impl.CfgRoomy(c) {
		t.Error("one pod more than there are slots")
	}
}

// roomCfgs are of several kinds that differ most in their measures, with and without room.
func roomCfgs() []impl.Cfg {
	list := okCfgs()
	for _, sizes := range [][]impl.Size{
		{size(5, 1), size(1, 5)}, {size(1, 0), size(0, 1)}, {size(3, 2), size(2, 3), size(1, 1)}, {size(7, 7)}, {size(10, 0), size(1, 9)},
	} {
		for _, room := range []impl.Size{size(5, 5), size(9, 11), size(20, 15), size(14, 13), size(40, 40), size(1, 1)} {
			for nodes := range impl.CfgMaxNodes + 1 {
				c := plainCfg()
				c.Works = nil
				for i, s := range sizes {
					c.Works = append(c.Works, impl.CfgWork{Size: s, Min: 1, Max: 2 + i, Target: 1, Limit: 2})
				}
				c.Groups = []impl.CfgGroup{{Size: room, Max: nodes, Boot: 1}}
				list = append(list, c)
			}
		}
	}
	return list
}

// P2: a node with fewer pods than its slots has room for any pod more, whichever pods these are.
func TestCfgNodeBelowSlotsHasRoom(t *testing.T) {
	for _, c := range roomCfgs() {
		for _, g := range c.Groups {
			slots := min(impl.SizeSlots(impl.CfgMost(c), g.Size), impl.CfgPods(c))
			wantRoomBelow(t, c.Works, 0, g.Size, slots)
		}
	}
}

// wantRoomBelow puts, in all ways, fewer pods than there are slots where that is left, in the order of their kinds from one on.
func wantRoomBelow(t *testing.T, works []impl.CfgWork, from int, left impl.Size, slots int) {
	t.Helper()
	if slots == 0 {
		return
	}
	for i, w := range works {
		rest, ok := impl.SizeLess(left, w.Size)
		if !ok {
			t.Fatalf("a pod of %v has no room in %v with %d slots yet", w.Size, left, slots)
		}
		if i >= from {
			wantRoomBelow(t, works, i, rest, slots-1)
		}
	}
}

// P2: where there is room, nodes of one kind alone hold all pods, however they lie; only by slots of the greatest size is that told.
func TestCfgRoomyHoldsAll(t *testing.T) {
	roomy := 0
	for _, c := range roomCfgs() {
		held := slices.ContainsFunc(c.Groups, func(g impl.CfgGroup) bool { return slotsTogether(c, g) >= podsTogether(c) })
		if impl.CfgRoomy(c) != held {
			t.Errorf("CfgRoomy %v of %v", !held, c)
		}
		for _, g := range c.Groups {
			if slotsTogether(c, g) < podsTogether(c) {
				continue
			}
			roomy++
			for by := range 7 {
				wantAllHeld(t, c, g, by)
			}
		}
	}
	if roomy < 20 {
		t.Errorf("only %d had room", roomy)
	}
}

func podsTogether(c impl.Cfg) int {
	sum := 0
	for _, w := range c.Works {
		sum += w.Max
	}
	return sum
}

func slotsTogether(c impl.Cfg, g impl.CfgGroup) int {
	var greatest impl.Size
	for _, w := range c.Works {
		greatest = size(max(greatest.Cpu, w.Size.Cpu), max(greatest.Mem, w.Size.Mem))
	}
	return impl.SizeSlots(greatest, g.Size) * g.Max
}

// wantAllHeld puts all pods, in an order and on nodes that by tells, each on some node on which it has room.
func wantAllHeld(t *testing.T, c impl.Cfg, g impl.CfgGroup, by int) {
	t.Helper()
	var pods []impl.Size
	for _, w := range c.Works {
		pods = append(pods, slices.Repeat([]impl.Size{w.Size}, w.Max)...)
	}
	if by%2 == 1 {
		slices.Reverse(pods)
	}
	left := slices.Repeat([]impl.Size{g.Size}, g.Max)
	for i := range pods {
		pod := pods[(i+by)%len(pods)]
		found := false
		for j := range left {
			at := (j + i*by) % len(left)
			if rest, ok := impl.SizeLess(left[at], pod); ok {
				left[at], found = rest, true
				break
			}
		}
		if !found {
			t.Fatalf("the pod %d of %v has no room: %v left of %v", i, pods, left, c)
		}
	}
}

// Nothing is written into what is asked, nor behind the ends of its lists.
func TestCfgKeepsArguments(t *testing.T) {
	for _, start := range append(okCfgs(), impl.Cfg{}) {
		c := copyCfg(start)
		c.Works = append(c.Works, wideCfg().Works...)[:len(start.Works)]
		c.Groups = append(c.Groups, wideCfg().Groups...)[:len(start.Groups)]
		wholeWorks, wholeGroups := slices.Clone(c.Works[:len(start.Works)+3]), slices.Clone(c.Groups[:len(start.Groups)+3])
		for range 2 { // and the same is answered once more
			if impl.CfgOk(c) != impl.CfgOk(start) || impl.CfgMost(c) != impl.CfgMost(start) || impl.CfgPods(c) != impl.CfgPods(start) ||
				impl.CfgNodes(c) != impl.CfgNodes(start) || impl.CfgRoomy(c) != impl.CfgRoomy(start) || impl.CfgBound(c, 3) != impl.CfgBound(start, 3) {
				t.Errorf("another answer for %v", c)
			}
		}
		if !sameCfg(c, start) || !slices.Equal(c.Works[:len(wholeWorks)], wholeWorks) || !slices.Equal(c.Groups[:len(wholeGroups)], wholeGroups) {
			t.Errorf("%v was written into", start)
		}
	}
}
