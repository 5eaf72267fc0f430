package tests

import (
	"math"
	"math/big"
	"slices"
	"testing"

	"loop.example/hive/impl"
)

// modelWhere is the chapter's PackWhere once more, for what can be laid, bin by bin: of those that the bins ahead left, in
// order, a bin takes each for which it has room.
func modelWhere(list []impl.Size, whole impl.Size) []int {
	where := make([]int, len(list))
	laid := make([]bool, len(list))
	for bin := range list {
		left := whole
		for i, a := range list {
			if !laid[i] && isIn(a, left) {
				left, laid[i], where[i] = takeFrom(left, a), true, bin
			}
		}
	}
	return where
}

// modelLow is the chapter's PackLow once more, for what can be laid: the fewest bins that have as much together.
func modelLow(list []impl.Size, whole impl.Size) int {
	var sum impl.Size
	for _, a := range list {
		sum = both(sum, a)
	}
	bins := min(1, len(list))
	for !isIn(sum, times(whole, bins)) {
		bins++
	}
	return bins
}

func together(a impl.Size) *big.Int {
	return new(big.Int).Add(big.NewInt(int64(a.Cpu)), big.NewInt(int64(a.Mem)))
}

// isGreater is said of two sizes, the first of which stands ahead of the second in PackSort wherever it was.
func isGreater(a impl.Size, b impl.Size) bool {
	if order := together(a).Cmp(together(b)); order != 0 {
		return order > 0
	}
	return a.Cpu > b.Cpu
}

// modelSort is the chapter's PackSort once more, for anything: each is put behind all that are as great.
func modelSort(list []impl.Size) []impl.Size {
	var sorted []impl.Size
	for _, a := range list[:min(len(list), 60)] {
		at := len(sorted)
		for at > 0 && isGreater(a, sorted[at-1]) {
			at--
		}
		sorted = slices.Insert(sorted, at, a)
	}
	return sorted
}

// modelLaid says whether the chapter lets sizes be laid.
func modelLaid(list []impl.Size, whole impl.Size) bool {
	may := len(list) <= 60 && impl.SizeOk(whole)
	for i := 0; may && i < len(list); i++ {
		may = impl.SizeOk(list[i]) && isIn(list[i], whole)
	}
	return may
}

// greatest is of each measure the greatest of all sizes.
func greatest(list []impl.Size) impl.Size {
	var a impl.Size
	for _, b := range list {
		a = size(max(a.Cpu, b.Cpu), max(a.Mem, b.Mem))
	}
	return a
}

// binsAtMost is P17's greatest number of bins: so many as hold all sizes, were each the greatest; 1, if all are nothing.
func binsAtMost(list []impl.Size, whole impl.Size) int {
	slots := impl.SizeSlots(greatest(list), whole)
	if slots == 0 {
		return min(1, len(list))
	}
	return (len(list) + slots - 1) / slots
}

// wantWhere asks for the bins of sizes that can be laid, and how many they are.
func wantWhere(t *testing.T, why string, list []impl.Size, whole impl.Size, want ...int) {
	t.Helper()
	if got, ok := impl.PackWhere(list, whole); !ok || !slices.Equal(got, want) {
		t.Errorf("%s: PackWhere is %v %v, want %v: %v into %v", why, got, ok, want, list, whole)
	}
	bins := 0
	for _, bin := range want {
		bins = max(bins, bin+1)
	}
	if got, ok := impl.PackFirst(list, whole); !ok || got != bins {
		t.Errorf("%s: PackFirst is %d %v, want %d: %v into %v", why, got, ok, bins, list, whole)
	}
}

func wantLow(t *testing.T, why string, list []impl.Size, whole impl.Size, want int) {
	t.Helper()
	if got, ok := impl.PackLow(list, whole); !ok || got != want {
		t.Errorf("%s: PackLow is %d %v, want %d: %v into %v", why, got, ok, want, list, whole)
	}
}

func wantSort(t *testing.T, why string, list []impl.Size, want ...impl.Size) {
	t.Helper()
	if got := impl.PackSort(list); !slices.Equal(got, want) {
		t.Errorf("%s: PackSort is %v, want %v: of %v", why, got, want, list)
	}
}

// wantNotLaid asks for nothing and false, and for the order of PackSort all the same.
func wantNotLaid(t *testing.T, why string, list []impl.Size, whole impl.Size) {
	t.Helper()
	if got, ok := impl.PackWhere(list, whole); ok || len(got) > 0 {
		t.Errorf("%s: PackWhere is %v %v: %v into %v", why, got, ok, list, whole)
	}
	if got, ok := impl.PackFirst(list, whole); ok || got != 0 {
		t.Errorf("%s: PackFirst is %d %v: %v into %v", why, got, ok, list, whole)
	}
	if got, ok := impl.PackLow(list, whole); ok || got != 0 {
		t.Errorf("%s: PackLow is %d %v: %v into %v", why, got, ok, list, whole)
	}
	wantSort(t, why, list, modelSort(list)...)
}

// wantLaid asks of sizes that can be laid what the model says, and P17.
func wantLaid(t *testing.T, why string, list []impl.Size, whole impl.Size) {
	t.Helper()
	wantWhere(t, why, list, whole, modelWhere(list, whole)...)
	wantLow(t, why, list, whole, modelLow(list, whole))
	wantSort(t, why, list, modelSort(list)...)
	wantBinsHold(t, why, list, whole)
}

// wantPacked asks for all four of whatever is asked for.
func wantPacked(t *testing.T, why string, list []impl.Size, whole impl.Size) {
	t.Helper()
	if modelLaid(list, whole) {
		wantLaid(t, why, list, whole)
	} else {
		wantNotLaid(t, why, list, whole)
	}
}

// wantBinsHold is P17, told by the answers alone: no fewer bins than PackLow, no more than slots of the greatest size ask
// for, and none with more than it has; and no bin comes but behind the others, and where none of these has room.
func wantBinsHold(t *testing.T, why string, list []impl.Size, whole impl.Size) {
	t.Helper()
	bins, _ := impl.PackFirst(list, whole)
	low, _ := impl.PackLow(list, whole)
	where, _ := impl.PackWhere(list, whole)
	if bins < low || bins > binsAtMost(list, whole) {
		t.Errorf("%s: %d bins, want %d to %d: %v into %v", why, bins, low, binsAtMost(list, whole), list, whole)
	}
	if len(where) != len(list) {
		t.Fatalf("%s: %d places of %d sizes: %v into %v", why, len(where), len(list), list, whole)
	}
	var given []impl.Size
	for i, bin := range where {
		if bin < 0 || bin > len(given) {
			t.Fatalf("%s: the bin %d behind %d: %v of %v into %v", why, bin, len(given), where, list, whole)
		}
		for ahead := range bin {
			if isIn(both(given[ahead], list[i]), whole) {
				t.Errorf("%s: the bin %d had room for the size %d: %v of %v into %v", why, ahead, i, where, list, whole)
			}
		}
		if bin == len(given) {
			given = append(given, impl.Size{})
		}
		given[bin] = both(given[bin], list[i])
		if !isIn(given[bin], whole) {
			t.Errorf("%s: the bin %d is given %v: %v of %v into %v", why, bin, given[bin], where, list, whole)
		}
	}
	if len(given) != bins {
		t.Errorf("%s: %d bins, but %d are told: %v into %v", why, len(given), bins, list, whole)
	}
}

// turned is sizes with Cpu and Mem the other way round.
func turned(list []impl.Size) []impl.Size {
	var other []impl.Size
	for _, a := range list {
		other = append(other, size(a.Mem, a.Cpu))
	}
	return other
}

// sizesOf is sizes of so many pairs of measures.
func sizesOf(measures ...int) []impl.Size {
	var list []impl.Size
	for pair := range slices.Chunk(measures, 2) {
		list = append(list, size(pair[0], pair[1]))
	}
	return list
}

// packCase is sizes that can be laid, and where they lie, reckoned by hand.
type packCase struct {
	why   string
	list  []impl.Size
	whole impl.Size
	low   int
	where []int
}

// plainPacks have both measures.
func plainPacks() []packCase {
	return []packCase{
		{"no size", nil, size(4, 4), 0, nil},
		{"one that has room twice", sizesOf(2, 2), size(4, 4), 1, []int{0}},
		{"one that just fits", sizesOf(4, 4), size(4, 4), 1, []int{0}},
		{"one of the least", sizesOf(1, 1), size(4, 4), 1, []int{0}},
		{"two that just fit together", sizesOf(3, 1, 1, 3), size(4, 4), 1, []int{0, 0}},
		{"two of which the Cpu is one too much", sizesOf(3, 1, 2, 3), size(4, 4), 2, []int{0, 1}},
		{"two of which the Mem is one too much", sizesOf(1, 3, 3, 2), size(4, 4), 2, []int{0, 1}},
		{"two that just fit alone", sizesOf(4, 4, 4, 4), size(4, 4), 2, []int{0, 1}},
		{"more bins than the least number", sizesOf(3, 3, 3, 3, 2, 2), size(4, 4), 2, []int{0, 1, 2}},
		{"back into the bin ahead", sizesOf(3, 1, 2, 2, 1, 3, 2, 1), size(4, 4), 2, []int{0, 1, 0, 1}},
		{"back into the first bin behind larger ones", sizesOf(3, 3, 4, 4, 2, 2, 1, 1), size(4, 4), 3, []int{0, 1, 2, 0}},
		{"back into the second bin, the first is full", sizesOf(4, 4, 3, 3, 4, 4, 1, 1, 1, 1), size(4, 4), 4, []int{0, 1, 2, 1, 3}},
		{"into the first of several that have room", sizesOf(3, 3, 3, 3, 3, 3, 1, 1, 1, 1), size(4, 4), 3, []int{0, 1, 2, 0, 1}},
		{"into the first, though another is fuller", sizesOf(2, 2, 3, 3, 1, 1), size(4, 4), 2, []int{0, 1, 0}},
		{"full of Cpu while it has Mem left", sizesOf(4, 1, 0, 3, 1, 1), size(4, 4), 2, []int{0, 0, 1}},
		{"full of Mem while it has Cpu left", sizesOf(1, 4, 3, 0, 1, 1), size(4, 4), 2, []int{0, 0, 1}},
		{"full of Cpu, then of Mem", sizesOf(4, 0, 1, 0, 0, 4, 0, 1, 3, 3), size(4, 4), 2, []int{0, 1, 0, 1, 1}},
		{"of a narrow bin", sizesOf(1, 1, 1, 1, 1, 2, 0, 3), size(9, 3), 3, []int{0, 0, 1, 2}},
		{"the order is not that of greatness", sizesOf(1, 1, 2, 2, 3, 3, 4, 4), size(5, 5), 2, []int{0, 0, 1, 2}},
		{"the same, the greatest first", sizesOf(4, 4, 3, 3, 2, 2, 1, 1), size(5, 5), 2, []int{0, 1, 1, 0}},
		{"the greatest that there is", sizesOf(most, most, 1, 0, 0, 1), size(most, most), 2, []int{0, 1, 1}},
		{"the greatest and nothing", sizesOf(most, most, 0, 0), size(most, most), 1, []int{0, 0}},
		{"of one more than half of the greatest", sizesOf(5001, 0, 5000, 0, 5000, 0), size(most, most), 2, []int{0, 1, 1}},
	}
}

// noughtPacks have nothing of a measure, in the bin or in sizes.
func noughtPacks() []packCase {
	return []packCase{
		{"nothing into nothing", sizesOf(0, 0), size(0, 0), 1, []int{0}},
		{"nothing three times into nothing", sizesOf(0, 0, 0, 0, 0, 0), size(0, 0), 1, []int{0, 0, 0}},
		{"no size into nothing", nil, size(0, 0), 0, nil},
		{"no size into no Cpu", nil, size(0, 4), 0, nil},
		{"nothing alone", sizesOf(0, 0), size(4, 4), 1, []int{0}},
		{"nothing several times", sizesOf(0, 0, 0, 0), size(4, 4), 1, []int{0, 0}},
		{"nothing into no Cpu", sizesOf(0, 0), size(0, 4), 1, []int{0}},
		{"nothing ahead of what fills the bin", sizesOf(0, 0, 4, 4, 4, 4), size(4, 4), 2, []int{0, 0, 1}},
		{"nothing behind what fills the bin", sizesOf(4, 4, 0, 0, 4, 4, 0, 0), size(4, 4), 2, []int{0, 0, 1, 0}},
		{"no Cpu in the bin", sizesOf(0, 3, 0, 2, 0, 1), size(0, 4), 2, []int{0, 1, 0}},
		{"no Cpu in the bin, just full", sizesOf(0, 3, 0, 1, 0, 4), size(0, 4), 2, []int{0, 0, 1}},
		{"no Cpu in the bin, nothing among them", sizesOf(0, 4, 0, 0, 0, 4, 0, 0), size(0, 4), 2, []int{0, 0, 1, 0}},
		{"no Cpu is asked for", sizesOf(0, 3, 0, 2, 0, 1), size(9, 4), 2, []int{0, 1, 0}},
		{"no Cpu is asked for by some", sizesOf(9, 1, 0, 3, 1, 1), size(9, 4), 2, []int{0, 0, 1}},
		{"one of the greatest in no Cpu", sizesOf(0, most, 0, 0), size(0, most), 1, []int{0, 0}},
		{"two of the greatest in no Cpu", sizesOf(0, most, 0, 1), size(0, most), 2, []int{0, 1}},
	}
}

// Each by hand, with the measures the other way round, and with sizes of nothing put anywhere.
func TestPack(t *testing.T) {
	for _, x := range append(plainPacks(), noughtPacks()...) {
		wantWhere(t, x.why, x.list, x.whole, x.where...)
		wantLow(t, x.why, x.list, x.whole, x.low)
		wantLaid(t, x.why, x.list, x.whole)
		other := size(x.whole.Mem, x.whole.Cpu)
		wantWhere(t, x.why+", measures turned round", turned(x.list), other, x.where...)
		wantLow(t, x.why+", measures turned round", turned(x.list), other, x.low)
		wantLaid(t, x.why+", measures turned round", turned(x.list), other)
		for at := range len(x.list) + 1 {
			why := x.why + ", with nothing among them"
			wantWhere(t, why, slices.Insert(slices.Clone(x.list), at, size(0, 0)), x.whole, slices.Insert(slices.Clone(x.where), at, 0)...)
			wantLow(t, why, slices.Insert(slices.Clone(x.list), at, size(0, 0)), x.whole, max(x.low, 1))
		}
	}
}

// The sums: just so many bins, one less and one more, by the one measure, by the other, and by both.
func TestPackLow(t *testing.T) {
	for _, x := range []struct {
		why   string
		list  []impl.Size
		whole impl.Size
		want  int
	}{
		{"just three", sizesOf(4, 1, 4, 1, 4, 1), size(4, 9), 3},
		{"one less than three", sizesOf(4, 1, 4, 1, 3, 1), size(4, 9), 3},
		{"just two and one more", sizesOf(4, 1, 4, 1, 1, 1), size(4, 9), 3},
		{"just two", sizesOf(4, 1, 3, 1, 1, 1), size(4, 9), 2},
		{"one less than two", sizesOf(4, 1, 3, 1, 0, 1), size(4, 9), 2},
		{"just one and one more", sizesOf(4, 1, 1, 1, 0, 1), size(4, 9), 2},
		{"just one", sizesOf(3, 1, 1, 1, 0, 1), size(4, 9), 1},
		{"one less than one", sizesOf(2, 1, 1, 1, 0, 1), size(4, 9), 1},
		{"Cpu is the greater", sizesOf(5, 1, 5, 1, 5, 1), size(6, 2), 3},
		{"Mem is the greater", sizesOf(1, 2, 1, 2, 5, 2), size(6, 2), 3},
		{"both are as great", sizesOf(5, 2, 2, 1), size(6, 2), 2},
		{"the greater sum is not what counts", sizesOf(50, 3, 50, 3), size(100, 3), 2},
		{"rounded up in each by itself", sizesOf(3, 3, 2, 2), size(4, 4), 2},
		{"not the measures together", sizesOf(4, 0, 4, 0, 4, 0), size(4, 40), 3},
		{"of ones", sizesOf(1, 1, 1, 1, 1, 1, 1, 1), size(1, 1), 4},
		{"the greatest into itself", sizesOf(most, 0), size(most, 0), 1},
		{"one more than the greatest", sizesOf(most, 0, 1, 0), size(most, 0), 2},
		{"the least into the greatest", sizesOf(1, 0), size(most, most), 1},
		{"nothing of a measure that is there", sizesOf(0, 7), size(9, 7), 1},
		{"no size", nil, size(9, 7), 0},
		{"a list of none", []impl.Size{}, size(9, 7), 0},
	} {
		wantLow(t, x.why, x.list, x.whole, x.want)
		wantLow(t, x.why+", measures turned round", turned(x.list), size(x.whole.Mem, x.whole.Cpu), x.want)
		wantLaid(t, x.why, x.list, x.whole)
	}
}

// As many of one size as there may be, into bins of each number of slots.
func TestPackOfOneSize(t *testing.T) {
	for _, one := range sizesOf(1, 1, 2, 3, 3, 0, 0, 5, 100, 99) {
		for slots := 1; slots <= 61; slots++ {
			for _, n := range []int{0, 1, slots - 1, slots, slots + 1, 2*slots - 1, 2 * slots, 2*slots + 1, 59, 60} {
				if n > 60 {
					continue
				}
				list, where := slices.Repeat([]impl.Size{one}, n), make([]int, n)
				for i := range where {
					where[i] = i / slots
				}
				for _, more := range []impl.Size{size(0, 0), size(max(0, one.Cpu-1), max(0, one.Mem-1))} {
					whole := both(times(one, slots), more)
					wantWhere(t, "of one size", list, whole, where...)
					wantLaid(t, "of one size", list, whole)
				}
			}
		}
	}
}

// The order, by hand.
func TestPackSort(t *testing.T) {
	for _, x := range []struct {
		why  string
		list []impl.Size
		want []impl.Size
	}{
		{"no size", nil, nil},
		{"a list of none", []impl.Size{}, nil},
		{"one", sizesOf(1, 2), sizesOf(1, 2)},
		{"nothing", sizesOf(0, 0), sizesOf(0, 0)},
		{"in order", sizesOf(3, 3, 2, 2, 1, 1), sizesOf(3, 3, 2, 2, 1, 1)},
		{"the other way round", sizesOf(1, 1, 2, 2, 3, 3), sizesOf(3, 3, 2, 2, 1, 1)},
		{"both measures together, not Cpu", sizesOf(9, 0, 5, 5, 0, 11), sizesOf(0, 11, 5, 5, 9, 0)},
		{"both measures together, not Mem", sizesOf(0, 9, 5, 5, 11, 0), sizesOf(11, 0, 5, 5, 0, 9)},
		{"the sum, not the product", sizesOf(3, 3, 7, 0), sizesOf(7, 0, 3, 3)},
		{"the sum, not the greater measure", sizesOf(7, 0, 4, 4), sizesOf(4, 4, 7, 0)},
		{"of equal ones more Cpu", sizesOf(1, 3, 3, 1, 0, 4, 2, 2, 4, 0), sizesOf(4, 0, 3, 1, 2, 2, 1, 3, 0, 4)},
		{"equal ones", sizesOf(2, 2, 1, 1, 2, 2, 1, 1), sizesOf(2, 2, 2, 2, 1, 1, 1, 1)},
		{"nothing last", sizesOf(0, 0, 0, 1, 0, 0, 1, 0), sizesOf(1, 0, 0, 1, 0, 0, 0, 0)},
		{"in the order of a bin", sizesOf(3, 1, 2, 2, 1, 3, 2, 1), sizesOf(3, 1, 2, 2, 1, 3, 2, 1)},
		{"what is not ok", sizesOf(-1, 0, most+1, 0, 0, -2, 0, most), sizesOf(most+1, 0, 0, most, -1, 0, 0, -2)},
		{"below nothing", sizesOf(-5, 1, -1, -3, 1, -5), sizesOf(1, -5, -1, -3, -5, 1)},
	} {
		wantSort(t, x.why, x.list, x.want...)
		wantSort(t, x.why+", sorted", x.want, x.want...)
		wantSort(t, x.why+", once more", x.list, modelSort(x.list)...)
	}
}

// Measures of which the sum is more, or less, than an int holds are held against each other as they are.
func TestPackSortOfAnyGreatness(t *testing.T) {
	const top, deep = math.MaxInt, math.MinInt
	for _, want := range [][]impl.Size{
		sizesOf(top, top, top, top-1, top-1, top, top, 1, 1, top, top, 0, 0, top, top-1, 0),
		sizesOf(top, 1, 1, 1, 0, 0, -1, -1, deep, -1),
		sizesOf(top, 2, top, 1, top, 0),
		sizesOf(deep+1, 0, deep, 0, -1, deep, deep, -2, deep, deep+1, deep, deep),
		sizesOf(1, 0, top, deep+1, 0, 0, -1, 1, deep+1, top, top, deep, -1, 0, deep, top, -1, -1),
		sizesOf(top/2+1, top/2+1, top/2+1, top/2, top/2, top/2+1, top/2, top/2, most, most),
		sizesOf(0, 0, deep/2, deep/2, deep/2, deep/2-1, deep/2-1, deep/2, deep/2-1, deep/2-1),
	} {
		wantSort(t, "in order", want, want...)
		other := slices.Clone(want)
		slices.Reverse(other)
		wantSort(t, "the other way round", other, want...)
		for i := range want {
			wantSort(t, "put about", slices.Concat(want[i:], want[:i]), want...)
		}
	}
	measures := append([]int{0, 1, 2, -2, top / 2, deep/2 + 1}, wildNumbers...)
	var all []impl.Size
	for _, cpu := range measures {
		for _, mem := range measures {
			all = append(all, size(cpu, mem))
		}
	}
	for _, a := range all {
		for _, b := range all {
			want := []impl.Size{a, b}
			if isGreater(b, a) {
				want = []impl.Size{b, a}
			}
			wantSort(t, "two", []impl.Size{a, b}, want...)
		}
	}
}

// Of more than PackMax only the first are sorted, whatever comes behind them.
func TestPackSortOfMany(t *testing.T) {
	list := make([]impl.Size, 200)
	for i := range list {
		list[i] = size(i, 0)
	}
	for n := range len(list) + 1 {
		want := slices.Clone(list[:min(n, 60)])
		slices.Reverse(want)
		wantSort(t, "of many", list[:n], want...)
	}
	list[60] = size(most, most)
	if got := impl.PackSort(list[:61]); len(got) != 60 || got[0] != size(59, 0) || got[59] != size(0, 0) {
		t.Errorf("PackSort of 61: %v", got)
	}
	if got := impl.PackSort(make([]impl.Size, 1000000)); len(got) != 60 {
		t.Errorf("PackSort of 1000000: %d", len(got))
	}
}

// Exactly PackMax sizes can be laid, one more can't, whatever they are.
func TestPackMax(t *testing.T) {
	if impl.PackMax != 60 {
		t.Fatal(impl.PackMax)
	}
	for _, one := range sizesOf(0, 0, 1, 1, 4, 4, 0, 2) {
		for n := range 70 {
			list := slices.Repeat([]impl.Size{one}, n)
			if n <= 60 {
				wantLaid(t, "as many as may be", list, size(4, 4))
			} else {
				wantNotLaid(t, "too many", list, size(4, 4))
			}
		}
		wantNotLaid(t, "many", slices.Repeat([]impl.Size{one}, 100000), size(4, 4))
	}
	full := slices.Repeat([]impl.Size{size(most, most)}, 60)
	wantLow(t, "60 of the greatest", full, size(most, most), 60)
	if n, ok := impl.PackFirst(full, size(most, most)); n != 60 || !ok {
		t.Errorf("60 of the greatest: %d %v", n, ok)
	}
}

// A bin that is not ok takes nothing, not even no size.
func TestPackBinNotOk(t *testing.T) {
	for _, bad := range append(wrongSizes(), sizesOf(-1, -1, -1, 0, 0, -1, most+1, 0, 0, most+1, most+1, most+1)...) {
		wantNotLaid(t, "no size", nil, bad)
		wantNotLaid(t, "nothing", sizesOf(0, 0), bad)
		wantNotLaid(t, "what is ok", sizesOf(1, 1, 2, 2), bad)
		wantNotLaid(t, "the bin itself", []impl.Size{bad}, bad)
		wantNotLaid(t, "what it would hold", sizesOf(0, 0, min(0, bad.Cpu), min(0, bad.Mem)), bad)
	}
}

// A size that is not ok, or does not fit the bin, at each place: nothing is laid.
func TestPackSizeWrong(t *testing.T) {
	whole := size(4, 6)
	bad := append(wrongSizes(), sizesOf(5, 6, 4, 7, 5, 7, 5, 0, 0, 7, most, 0, 0, most, -1, 0, 0, -1, -4, -6)...)
	for _, one := range bad {
		for n := range 5 {
			for at := range n + 1 {
				list := slices.Insert(slices.Repeat([]impl.Size{size(1, 1)}, n), at, one)
				wantNotLaid(t, "one that is wrong", list, whole)
			}
		}
		list := slices.Repeat([]impl.Size{size(0, 0)}, 60)
		for _, at := range []int{0, 1, 30, 58, 59} {
			list[at] = one
			wantNotLaid(t, "of 60 one that is wrong", list, whole)
			list[at] = size(0, 0)
		}
	}
}

// One that just fits, and one that is one too great in one measure alone.
func TestPackJustFits(t *testing.T) {
	for _, whole := range okSizes() {
		wantWhere(t, "just fits", []impl.Size{whole}, whole, 0)
		wantLaid(t, "just fits, with nothing", []impl.Size{size(0, 0), whole, size(0, 0)}, whole)
		for _, one := range sizesOf(whole.Cpu+1, whole.Mem, whole.Cpu, whole.Mem+1, whole.Cpu+1, 0, 0, whole.Mem+1, whole.Cpu+1, whole.Mem+1) {
			wantNotLaid(t, "one too great", []impl.Size{one}, whole)
			wantNotLaid(t, "one too great, behind others", []impl.Size{size(0, 0), whole, one}, whole)
			wantNotLaid(t, "one too great, ahead of others", []impl.Size{one, size(0, 0), whole}, whole)
		}
		for _, one := range okSizes() {
			wantPacked(t, "two", []impl.Size{one, one}, whole)
			wantPacked(t, "three", []impl.Size{one, size(0, 0), one}, whole)
		}
	}
}

// Any numbers at all.
func TestPackWild(t *testing.T) {
	measures := append([]int{0, 1, 4, most - 1, most}, wildNumbers...)
	for _, cpu := range measures {
		for _, mem := range measures {
			one := size(cpu, mem)
			for _, other := range measures {
				wantPacked(t, "wild", []impl.Size{one, size(0, 0), size(mem, other)}, size(other, cpu))
				wantPacked(t, "wild", []impl.Size{size(0, 0), one}, size(other, most))
				wantPacked(t, "wild", []impl.Size{one}, size(most, other))
			}
		}
	}
}

// allSizes are those of which each measure is at most so much.
func allSizes(cpu int, mem int) []impl.Size {
	var list []impl.Size
	for a := range cpu + 1 {
		for b := range mem + 1 {
			list = append(list, size(a, b))
		}
	}
	return list
}

// All of up to four small sizes, in all small bins.
func TestPackAll(t *testing.T) {
	for _, whole := range allSizes(3, 3) {
		kinds := allSizes(min(whole.Cpu+1, 2), min(whole.Mem+1, 2))
		lists := [][]impl.Size{nil}
		for range 4 {
			var longer [][]impl.Size
			for _, list := range lists {
				wantPacked(t, "all", list, whole)
				for _, one := range kinds {
					longer = append(longer, append(slices.Clone(list), one))
				}
			}
			lists = longer
		}
		for _, list := range lists {
			wantPacked(t, "all", list, whole)
		}
	}
}

// someSizes is a bin, and sizes that fit it: of all of the bin, of its half, or of a small part of it; now and then all alike.
func someSizes(seed *uint32, n int) ([]impl.Size, impl.Size) {
	edges := []int{0, 1, 2, 3, 5, 8, 13, 100, most - 1, most}
	whole := size(edges[nextNumber(seed, len(edges))], edges[nextNumber(seed, len(edges))])
	part := []int{1, 1, 2, 3, 7, 20}[nextNumber(seed, 6)]
	list := make([]impl.Size, n)
	for i := range list {
		list[i] = size(nextNumber(seed, whole.Cpu/part+1), nextNumber(seed, whole.Mem/part+1))
		if nextNumber(seed, 12) == 0 {
			list[i].Cpu = 0
		}
		if nextNumber(seed, 12) == 0 {
			list[i].Mem = 0
		}
	}
	if n > 0 && nextNumber(seed, 8) == 0 {
		list = slices.Repeat(list[:1], n)
	}
	return list, whole
}

// packKinds counts what the draws have met.
type packKinds struct {
	least, more, atMost, back, cpuLeft, memLeft, nought int
}

func (k *packKinds) add(list []impl.Size, whole impl.Size) {
	bins, _ := impl.PackFirst(list, whole)
	low, _ := impl.PackLow(list, whole)
	where, _ := impl.PackWhere(list, whole)
	for _, x := range []struct {
		count *int
		met   bool
	}{
		{&k.least, bins == low && bins > 1}, {&k.more, bins > low}, {&k.atMost, bins > 1 && bins == binsAtMost(list, whole)},
		{&k.back, !slices.IsSorted(where)}, {&k.nought, whole.Cpu == 0 || whole.Mem == 0},
	} {
		if x.met {
			*x.count++
		}
	}
	k.addFull(list, whole, where)
}

// addFull counts the bins that are full of one measure alone.
func (k *packKinds) addFull(list []impl.Size, whole impl.Size, where []int) {
	left := slices.Repeat([]impl.Size{whole}, 60)
	for i, bin := range where {
		left[bin] = takeFrom(left[bin], list[i])
	}
	for _, a := range left {
		if a.Cpu == 0 && a.Mem > 0 && whole.Cpu > 0 {
			k.memLeft++
		}
		if a.Mem == 0 && a.Cpu > 0 && whole.Mem > 0 {
			k.cpuLeft++
		}
	}
}

// P17 by draws of all lengths. A size laid behind the others changes no other's bin.
func TestPackMany(t *testing.T) {
	seed := uint32(16)
	var met packKinds
	for range 6000 {
		list, whole := someSizes(&seed, nextNumber(&seed, 61))
		wantLaid(t, "many", list, whole)
		met.add(list, whole)
		where, _ := impl.PackWhere(list, whole)
		for _, n := range []int{nextNumber(&seed, len(list)+1), max(0, len(list)-1)} {
			wantWhere(t, "without the last ones", list[:n], whole, where[:n]...)
		}
		wantLaid(t, "sorted", impl.PackSort(list), whole)
	}
	for _, n := range []int{met.least, met.more, met.atMost, met.back, met.cpuLeft, met.memLeft, met.nought} {
		if n < 200 {
			t.Errorf("of too few kinds: %+v", met)
		}
	}
}

// As many as may be laid: what each one more asks for.
func TestPackOneByOne(t *testing.T) {
	seed := uint32(61)
	for range 300 {
		list, whole := someSizes(&seed, 60)
		where, _ := impl.PackWhere(list, whole)
		bins, low := 0, 0
		for n := range len(list) + 1 {
			wantWhere(t, "one by one", list[:n], whole, where[:n]...)
			now, _ := impl.PackFirst(list[:n], whole)
			least, _ := impl.PackLow(list[:n], whole)
			if now < bins || now > bins+1 || least < low || least > low+1 {
				t.Errorf("one by one: %d bins behind %d, at least %d behind %d: %v into %v", now, bins, least, low, list[:n], whole)
			}
			bins, low = now, least
		}
	}
}

// A list of which one is wrong is laid when that one is gone.
func TestPackManyWrong(t *testing.T) {
	seed := uint32(17)
	bad := wrongSizes()
	for range 3000 {
		list, whole := someSizes(&seed, 1+nextNumber(&seed, 60))
		at := nextNumber(&seed, len(list))
		one := bad[nextNumber(&seed, len(bad))]
		if nextNumber(&seed, 2) == 0 {
			one = []impl.Size{{Cpu: whole.Cpu + 1, Mem: list[at].Mem}, {Cpu: list[at].Cpu, Mem: whole.Mem + 1}}[nextNumber(&seed, 2)]
		}
		wantNotLaid(t, "wrong", slices.Replace(slices.Clone(list), at, at+1, one), whole)
		wantLaid(t, "right", slices.Delete(slices.Clone(list), at, at+1), whole)
	}
}

// packMemory is what the memory is asked of: what can be laid and what can't, up to more than PackMax.
func packMemory() []packCase {
	cases := append(plainPacks(), noughtPacks()...)
	seed := uint32(3)
	for _, n := range []int{1, 2, 7, 31, 32, 33, 59, 60, 61, 62, 100} {
		list, whole := someSizes(&seed, n)
		cases = append(cases, packCase{why: "some", list: list, whole: whole},
			packCase{why: "a bin that is not ok", list: list, whole: size(-1, 0)},
			packCase{why: "one that is not ok", list: append(slices.Clone(list), size(0, -1)), whole: whole})
	}
	return append(cases, packCase{why: "a list of none", list: []impl.Size{}, whole: size(1, 1)})
}

// wantOwnList asks that what is told in a list is new memory each time, spare room included, and that the sizes stay as they
// were, also those behind the end of the list.
func wantOwnList[T comparable](t *testing.T, x packCase, other T, tell func(list []impl.Size) []T) {
	t.Helper()
	whole := append(slices.Clone(x.list), sizesOf(9, 8, 7, 6, 5, 4)...)
	was := slices.Clone(whole)
	list := whole[:len(x.list)]
	a, b := tell(list), tell(list)
	want := slices.Clone(b)
	for i := range a[:cap(a)] {
		a[:cap(a)][i] = other
	}
	if again := tell(list); !slices.Equal(b, want) || !slices.Equal(again, want) {
		t.Errorf("%s: two answers share memory: %v and %v, want %v", x.why, b, again, want)
	}
	if !slices.Equal(whole, was) {
		t.Errorf("%s: an argument was written into: %v, want %v", x.why, whole, was)
	}
	for i := range whole {
		whole[i] = size(97, 97)
	}
	if !slices.Equal(b, want) {
		t.Errorf("%s: an answer shares memory with its argument: %v", x.why, b)
	}
}

func TestPackMemory(t *testing.T) {
	for _, x := range packMemory() {
		wantOwnList(t, x, size(99, 99), impl.PackSort)
		wantOwnList(t, x, 99, func(list []impl.Size) []int {
			where, _ := impl.PackWhere(list, x.whole)
			return where
		})
		wantOwnList(t, x, 99, func(list []impl.Size) []int {
			bins, _ := impl.PackFirst(list, x.whole)
			low, _ := impl.PackLow(list, x.whole)
			return []int{bins, low}
		})
	}
}

// Nothing is kept between two calls: the same is answered whatever was asked in between.
func TestPackKeepsNothing(t *testing.T) {
	seed := uint32(5)
	for range 300 {
		list, whole := someSizes(&seed, nextNumber(&seed, 63))
		others, other := someSizes(&seed, nextNumber(&seed, 63))
		wantPacked(t, "first", list, whole)
		wantPacked(t, "another", others, other)
		wantPacked(t, "again", list, whole)
	}
}
