package impl

import "cmp"

// Size is how much of two measures.
type Size struct {
	Cpu int
	Mem int
}

// SizeMax is how much of a measure there can be.
const SizeMax = 10000

// SizeOk says whether a size is one.
func SizeOk(a Size) bool { return a.ok() }

// SizeAdd is two sizes together.
func SizeAdd(a Size, b Size) (Size, bool) {
	// Measures of any greatness come in: their sum may be taken only once both are known to be small.
	if !a.ok() || !b.ok() {
		return Size{}, false
	}
	sum := a.plus(b)
	if !sum.ok() {
		return Size{}, false
	}
	return sum, true
}

// SizeLess is what is left of a size.
func SizeLess(a Size, b Size) (Size, bool) {
	if !a.ok() || !b.ok() || !b.fits(a) {
		return Size{}, false
	}
	return a.minus(b), true
}

// SizeFits says whether a size has room in another one.
func SizeFits(a Size, b Size) bool { return a.fits(b) }

// SizeMost is the greater of two sizes in each measure.
func SizeMost(a Size, b Size) Size {
	return Size{Cpu: greater(a.Cpu, b.Cpu), Mem: greater(a.Mem, b.Mem)}
}

// SizeSlots is how often a size has room in another one.
func SizeSlots(a Size, b Size) int {
	if !a.ok() || !b.ok() || a.isNothing() {
		return 0
	}
	return lesser(slotsOfMeasure(a.Cpu, b.Cpu), slotsOfMeasure(a.Mem, b.Mem))
}

func (a Size) ok() bool { return measureOk(a.Cpu) && measureOk(a.Mem) }

func (a Size) isNothing() bool { return a == Size{} }

func (a Size) fits(b Size) bool { return a.Cpu <= b.Cpu && a.Mem <= b.Mem }

func (a Size) plus(b Size) Size { return Size{Cpu: a.Cpu + b.Cpu, Mem: a.Mem + b.Mem} }

func (a Size) minus(b Size) Size { return Size{Cpu: a.Cpu - b.Cpu, Mem: a.Mem - b.Mem} }

// leftBehind is what is left of a size where more may be kept than there is: nothing is below 0 then.
func (a Size) leftBehind(b Size) Size { return SizeMost(Size{}, a.minus(b)) }

func (a Size) together() int { return a.Cpu + a.Mem }

func measureOk(n int) bool { return 0 <= n && n <= SizeMax }

// slotsOfMeasure takes measures that are ok. One of which nothing is taken bounds nothing, so it leaves the other to say.
func slotsOfMeasure(a int, b int) int {
	if a == 0 {
		return SizeMax
	}
	return b / a
}

func greater[T cmp.Ordered](a T, b T) T {
	if a < b {
		return b
	}
	return a
}

func lesser[T cmp.Ordered](a T, b T) T {
	if b < a {
		return b
	}
	return a
}
