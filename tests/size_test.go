package tests

import (
	"math"
	"testing"

	"loop.example/hive/impl"
)

const most = impl.SizeMax

func size(cpu int, mem int) impl.Size { return impl.Size{Cpu: cpu, Mem: mem} }

// okMeasures has the edges and some between them; its pairs are the sizes that are ok here.
var okMeasures = []int{0, 1, 2, 3, 7, 99, 4999, 5000, 5001, most - 1, most}

var wrongMeasures = []int{math.MinInt, math.MinInt + 1, -most - 1, -most, -2, -1, most + 1, most + 2, 2 * most, math.MaxInt - most, math.MaxInt - 1, math.MaxInt}

func okSizes() []impl.Size {
	var list []impl.Size
	for _, cpu := range okMeasures {
		for _, mem := range okMeasures {
			list = append(list, size(cpu, mem))
		}
	}
	return list
}

// wrongSizes are wrong in one measure alone, and in both.
func wrongSizes() []impl.Size {
	var list []impl.Size
	for _, bad := range wrongMeasures {
		for _, good := range okMeasures {
			list = append(list, size(bad, good), size(good, bad))
		}
		for _, other := range wrongMeasures {
			list = append(list, size(bad, other))
		}
	}
	return list
}

func TestSizeOk(t *testing.T) {
	for _, a := range okSizes() {
		if !impl.SizeOk(a) {
			t.Errorf("%v is not ok", a)
		}
	}
	for _, a := range wrongSizes() {
		if impl.SizeOk(a) {
			t.Errorf("%v is ok", a)
		}
	}
}

// P1: what is added and taken away again is what there was.
func TestSizeAddedAndTakenAway(t *testing.T) {
	for _, a := range okSizes() {
		for _, b := range okSizes() {
			sum, ok := impl.SizeAdd(a, b)
			fits := a.Cpu+b.Cpu <= most && a.Mem+b.Mem <= most
			if ok != fits {
				t.Fatalf("SizeAdd(%v, %v): %v", a, b, ok)
			}
			if !ok {
				if sum != size(0, 0) {
					t.Fatalf("SizeAdd(%v, %v): %v beside a false", a, b, sum)
				}
				continue
			}
			if sum != size(a.Cpu+b.Cpu, a.Mem+b.Mem) {
				t.Fatalf("SizeAdd(%v, %v): %v", a, b, sum)
			}
			if back, ok := impl.SizeLess(sum, b); !ok || back != a {
				t.Fatalf("SizeLess(%v, %v): %v %v, want %v", sum, b, back, ok, a)
			}
			if back, ok := impl.SizeLess(sum, a); !ok || back != b {
				t.Fatalf("SizeLess(%v, %v): %v %v, want %v", sum, a, back, ok, b)
			}
		}
	}
}

func TestSizeAdd(t *testing.T) {
	for _, x := range []struct {
		a, b, sum impl.Size
		ok        bool
	}{
		{size(2, 3), size(10, 9), size(12, 12), true},
		{size(0, 0), size(0, 0), size(0, 0), true},
		{size(0, 5), size(5, 0), size(5, 5), true},
		{size(most, most), size(0, 0), size(most, most), true},
		{size(most-1, 4000), size(1, 6000), size(most, most), true},
		{size(most, 0), size(1, 0), size(0, 0), false},
		{size(0, most), size(0, 1), size(0, 0), false},
		{size(4000, 6001), size(1, 4000), size(0, 0), false},
		{size(6001, 4000), size(4000, 1), size(0, 0), false},
		{size(most, most), size(most, most), size(0, 0), false},
		// The sum alone is ok: each of the two must be ok as well.
		{size(-1, 0), size(1, 0), size(0, 0), false},
		{size(0, 1), size(0, -1), size(0, 0), false},
		{size(most+1, 0), size(-1, 0), size(0, 0), false},
		// These sums wrap round to what would be ok.
		{size(math.MinInt, 0), size(math.MinInt, 0), size(0, 0), false},
		{size(0, math.MaxInt), size(0, math.MinInt+2), size(0, 0), false},
	} {
		if sum, ok := impl.SizeAdd(x.a, x.b); sum != x.sum || ok != x.ok {
			t.Errorf("SizeAdd(%v, %v): %v %v, want %v %v", x.a, x.b, sum, ok, x.sum, x.ok)
		}
	}
}

func TestSizeLess(t *testing.T) {
	for _, x := range []struct {
		a, b, left impl.Size
		ok         bool
	}{
		{size(10, 9), size(2, 3), size(8, 6), true},
		{size(10, 9), size(10, 9), size(0, 0), true},
		{size(10, 9), size(10, 0), size(0, 9), true},
		{size(10, 9), size(0, 9), size(10, 0), true},
		{size(10, 9), size(0, 0), size(10, 9), true},
		{size(0, 0), size(0, 0), size(0, 0), true},
		{size(most, most), size(most, most), size(0, 0), true},
		{size(most, most), size(0, 1), size(most, most-1), true},
		{size(10, 9), size(11, 9), size(0, 0), false},
		{size(10, 9), size(10, 10), size(0, 0), false},
		{size(10, 9), size(11, 0), size(0, 0), false},
		{size(10, 9), size(0, 10), size(0, 0), false},
		{size(0, 0), size(1, 0), size(0, 0), false},
		{size(0, 0), size(0, 1), size(0, 0), false},
		// The difference alone is ok: each of the two must be ok as well.
		{size(most+1, 0), size(1, 0), size(0, 0), false},
		{size(0, most+1), size(0, most+1), size(0, 0), false},
		{size(0, 0), size(-1, 0), size(0, 0), false},
		{size(0, -1), size(0, -1), size(0, 0), false},
		{size(math.MaxInt, 0), size(math.MaxInt, 0), size(0, 0), false},
		{size(math.MaxInt, 0), size(math.MinInt, 0), size(0, 0), false},
	} {
		if left, ok := impl.SizeLess(x.a, x.b); left != x.left || ok != x.ok {
			t.Errorf("SizeLess(%v, %v): %v %v, want %v %v", x.a, x.b, left, ok, x.left, x.ok)
		}
	}
}

// P1: as many as there are slots have room, one more has not.
func TestSizeSlotsHaveRoom(t *testing.T) {
	for _, a := range okSizes() {
		for _, b := range okSizes() {
			n := impl.SizeSlots(a, b)
			if a == size(0, 0) {
				if n != 0 {
					t.Fatalf("SizeSlots(%v, %v): %d, want 0", a, b, n)
				}
				continue
			}
			if n < 0 || n > most {
				t.Fatalf("SizeSlots(%v, %v): %d", a, b, n)
			}
			if n*a.Cpu > b.Cpu || n*a.Mem > b.Mem {
				t.Fatalf("SizeSlots(%v, %v): %d have no room", a, b, n)
			}
			if (n+1)*a.Cpu <= b.Cpu && (n+1)*a.Mem <= b.Mem {
				t.Fatalf("SizeSlots(%v, %v): %d, but one more has room", a, b, n)
			}
		}
	}
}

// P1, told by adding and taking away, not by arithmetic of the test's own.
func TestSizeSlotsOneByOne(t *testing.T) {
	for _, a := range []impl.Size{size(2, 3), size(1, 0), size(0, 1), size(7, 7), size(500, 1)} {
		for _, b := range []impl.Size{size(0, 0), size(2, 3), size(1, 3), size(10, 9), size(64, 48), size(999, most)} {
			left, n := b, 0
			for n <= most { // bounded, so that a SizeLess that never refuses fails here rather than going on for ever
				next, ok := impl.SizeLess(left, a)
				if !ok {
					break
				}
				left, n = next, n+1
			}
			if got := impl.SizeSlots(a, b); got != n {
				t.Errorf("SizeSlots(%v, %v): %d, but %d are taken away", a, b, got, n)
			}
		}
	}
}

func TestSizeSlots(t *testing.T) {
	for _, x := range []struct {
		a, b impl.Size
		n    int
	}{
		{size(2, 3), size(10, 9), 3},
		{size(2, 3), size(5, 9), 2},
		{size(2, 3), size(4, 6), 2},
		{size(2, 3), size(4, 5), 1},
		{size(2, 3), size(3, 6), 1},
		{size(2, 3), size(2, 3), 1},
		{size(2, 3), size(1, 3), 0},
		{size(2, 3), size(2, 2), 0},
		{size(10, 9), size(2, 3), 0},
		// A measure of 0 in one of the two.
		{size(5, 0), size(10, 9), 2},
		{size(0, 5), size(10, 9), 1},
		{size(5, 0), size(10, 0), 2},
		{size(0, 5), size(0, 10), 2},
		{size(5, 1), size(10, 0), 0},
		{size(1, 5), size(0, 10), 0},
		{size(0, 1), size(9, 0), 0},
		// A measure of 0 in both.
		{size(0, 0), size(10, 9), 0},
		{size(0, 0), size(0, 0), 0},
		{size(0, 0), size(most, most), 0},
		{size(1, 1), size(0, 0), 0},
		// SizeMax, just met.
		{size(1, 0), size(most, 0), most},
		{size(0, 1), size(0, most), most},
		{size(1, 1), size(most, most), most},
		{size(1, 1), size(most, most-1), most - 1},
		{size(most, most), size(most, most), 1},
		{size(most, 0), size(most-1, most), 0},
		{size(1, 0), size(most+1, 0), 0},
		{size(most+1, 1), size(most+1, most), 0},
		// A quotient of these would be a number of slots.
		{size(-1, -1), size(-9, -9), 0},
		{size(-1, 1), size(0, 9), 0},
		{size(0, -1), size(9, 9), 0},
		{size(-1, -1), size(math.MinInt, math.MinInt), 0},
		{size(1, 1), size(math.MaxInt, math.MaxInt), 0},
	} {
		if n := impl.SizeSlots(x.a, x.b); n != x.n {
			t.Errorf("SizeSlots(%v, %v): %d, want %d", x.a, x.b, n, x.n)
		}
	}
}

// What is not ok is never added, taken away or laid into slots, on whichever side it stands.
func TestSizeWrong(t *testing.T) {
	for _, bad := range wrongSizes() {
		for _, other := range append(okSizes(), bad, size(-bad.Cpu, -bad.Mem)) {
			for _, pair := range [][2]impl.Size{{bad, other}, {other, bad}} {
				a, b := pair[0], pair[1]
				if s, ok := impl.SizeAdd(a, b); ok || s != size(0, 0) {
					t.Fatalf("SizeAdd(%v, %v): %v %v", a, b, s, ok)
				}
				if s, ok := impl.SizeLess(a, b); ok || s != size(0, 0) {
					t.Fatalf("SizeLess(%v, %v): %v %v", a, b, s, ok)
				}
				if n := impl.SizeSlots(a, b); n != 0 {
					t.Fatalf("SizeSlots(%v, %v): %d", a, b, n)
				}
			}
		}
	}
}

func TestSizeFits(t *testing.T) {
	for _, x := range []struct {
		a, b impl.Size
		fits bool
	}{
		{size(2, 3), size(10, 9), true},
		{size(10, 9), size(10, 9), true},
		{size(10, 8), size(10, 9), true},
		{size(11, 9), size(10, 9), false},
		{size(10, 10), size(10, 9), false},
		{size(0, 10), size(10, 9), false},
		{size(11, 0), size(10, 9), false},
		{size(0, 0), size(0, 0), true},
		{size(1, 0), size(0, 0), false},
		{size(0, 1), size(0, 0), false},
		{size(most, most), size(most, most), true},
		// The chapter asks for measures alone here, not for sizes that are ok.
		{size(-1, -1), size(0, 0), true},
		{size(0, 0), size(-1, 0), false},
		{size(most+1, 0), size(most+2, 0), true},
		{size(most+2, 0), size(most+1, 0), false},
		{size(math.MinInt, math.MinInt), size(math.MaxInt, math.MaxInt), true},
		{size(math.MaxInt, 0), size(math.MinInt, 0), false},
		{size(0, math.MaxInt), size(0, math.MinInt), false},
	} {
		if fits := impl.SizeFits(x.a, x.b); fits != x.fits {
			t.Errorf("SizeFits(%v, %v): %v", x.a, x.b, fits)
		}
	}
}

func TestSizeMost(t *testing.T) {
	for _, x := range []struct{ a, b, most impl.Size }{
		{size(2, 3), size(10, 9), size(10, 9)},
		{size(10, 3), size(2, 9), size(10, 9)},
		{size(2, 9), size(10, 3), size(10, 9)},
		{size(4, 4), size(4, 4), size(4, 4)},
		{size(0, 0), size(0, 0), size(0, 0)},
		{size(most, 0), size(0, most), size(most, most)},
		// The chapter asks for measures alone here, not for sizes that are ok.
		{size(-2, 5), size(-1, -5), size(-1, 5)},
		{size(most+1, 0), size(most, 0), size(most+1, 0)},
		{size(math.MinInt, math.MaxInt), size(math.MaxInt, math.MinInt), size(math.MaxInt, math.MaxInt)},
		{size(math.MinInt, math.MinInt), size(math.MinInt, math.MinInt), size(math.MinInt, math.MinInt)},
	} {
		for _, got := range []impl.Size{impl.SizeMost(x.a, x.b), impl.SizeMost(x.b, x.a)} {
			if got != x.most {
				t.Errorf("SizeMost of %v and %v: %v, want %v", x.a, x.b, got, x.most)
			}
		}
	}
}
