package tests

import (
	"math"
	"math/rand"
	"slices"
	"testing"

	"loop.example/g00040/impl"
)

const mostHold = 1000

var noLotKinds = []int{math.MinInt, -impl.LotLeast, -1, 0, impl.LotLeast + 1, impl.LotLeast + 2, math.MaxInt}

var noHolds = []int{math.MinInt, -mostHold, -2, -1, mostHold + 1, mostHold + 2, impl.MaxFactor, math.MaxInt}

var eachLotKind = []int{impl.LotForLot, impl.LotFixed, impl.LotSpan, impl.LotLeast}

func fixedLots(size int) impl.Lots { return impl.Lots{Kind: impl.LotFixed, Size: size} }

func spanLots(size int) impl.Lots { return impl.Lots{Kind: impl.LotSpan, Size: size} }

func leastLots(setup, hold int) impl.Lots {
	return impl.Lots{Kind: impl.LotLeast, Size: 1, Setup: setup, Hold: hold}
}

func areLots(l impl.Lots) bool {
	return slices.Contains(eachLotKind, l.Kind) && l.Size != 0 && isQty(l.Size) && l.Setup >= 0 && l.Setup <= impl.MaxFactor && placeAmong(l.Hold, mostHold+1)
}

// How much more was to be ordered up to each bucket than up to the one ahead.
func steps(totals []int) []int {
	list := slices.Clone(totals)
	for b := len(list) - 1; b > 0; b-- {
		list[b] -= list[b-1]
	}
	return list
}

// All orders up to a bucket are together the least multiple that reaches all that is missing up to it.
func wantFixed(l impl.Lots, missing []int) []int {
	totals := make([]int, len(missing))
	for b := range missing {
		totals[b] = (sumOf(missing[:b+1]) + l.Size - 1) / l.Size * l.Size
	}
	return steps(totals)
}

// From the first bucket in which something is missing on, a span at a time, over those in between in which nothing is.
func wantSpan(l impl.Lots, missing []int) []int {
	orders := make([]int, len(missing))
	for b := 0; b < len(missing); {
		if missing[b] == 0 {
			b++
			continue
		}
		end := min(b+l.Size, len(missing))
		orders[b] = sumOf(missing[b:end])
		b = end
	}
	return orders
}

// The orders of a way, each for what is missing up to the next one.
func ordersOfWay(way, missing []int) []int {
	orders := make([]int, len(missing))
	for i, b := range way {
		end := len(missing)
		if i+1 < len(way) {
			end = way[i+1]
		}
		orders[b] = sumOf(missing[b:end])
	}
	return orders
}

// Each unit waits from the bucket in which it is ordered to the one in which it is missing.
func costOfWay(l impl.Lots, way, missing []int) int {
	cost := len(way) * l.Setup
	for b, n := range missing {
		if n > 0 {
			ordered := slices.IndexFunc(way, func(place int) bool { return place > b })
			if ordered < 0 {
				ordered = len(way)
			}
			cost += l.Hold * n * (b - way[ordered-1])
		}
	}
	return cost
}

// Does a way cost less, or as much and its last order stands earlier, or that one's place is the same and the one ahead stands earlier, and so on?
func isBetterWay(l impl.Lots, way, other, missing []int) bool {
	cost, otherCost := costOfWay(l, way, missing), costOfWay(l, other, missing)
	if cost != otherCost {
		return cost < otherCost
	}
	back, otherBack := slices.Clone(way), slices.Clone(other)
	slices.Reverse(back)
	slices.Reverse(otherBack)
	return slices.Compare(back, otherBack) < 0
}

// Every way is tried.
func wantLeastOfAll(l impl.Lots, missing []int) []int {
	places := placesMissing(missing)
	if len(places) == 0 {
		return make([]int, len(missing))
	}
	best := places[:1]
	for set := range 1 << (len(places) - 1) {
		way := []int{places[0]}
		for i, b := range places[1:] {
			if set>>i&1 == 1 {
				way = append(way, b)
			}
		}
		if isBetterWay(l, way, best, missing) {
			best = way
		}
	}
	return ordersOfWay(best, missing)
}

func placesMissing(missing []int) []int {
	places := []int{}
	for b, n := range missing {
		if n > 0 {
			places = append(places, b)
		}
	}
	return places
}

// Of each number of buckets the best of the best ways whose last order stands in one of them, for more than every way can be tried of.
func wantLeastOfMany(l impl.Lots, missing []int) []int {
	bestOf := [][]int{{}}
	for end := 1; end <= len(missing); end++ {
		best := []int(nil)
		for _, b := range placesMissing(missing[:end]) {
			if way := append(slices.Clone(bestOf[b]), b); best == nil || isBetterWay(l, way, best, missing[:end]) {
				best = way
			}
		}
		bestOf = append(bestOf, best)
	}
	return ordersOfWay(bestOf[len(missing)], missing)
}

func wantLots(l impl.Lots, missing []int) ([]int, bool) {
	if !areLots(l) || !areBuckets(missing) {
		return nil, false
	}
	orders := missing
	switch l.Kind {
	case impl.LotFixed:
		orders = wantFixed(l, missing)
	case impl.LotSpan:
		orders = wantSpan(l, missing)
	case impl.LotLeast:
		if len(placesMissing(missing)) < 9 {
			orders = wantLeastOfAll(l, missing)
		} else {
			orders = wantLeastOfMany(l, missing)
		}
	}
	return orders, areQtys(orders)
}

// Do the orders cover what is missing, bucket by bucket?
func covers(orders, missing []int) bool {
	for b := range missing {
		if sumOf(orders[:b+1]) < sumOf(missing[:b+1]) {
			return false
		}
	}
	return true
}

func checkLots(t *testing.T, l impl.Lots, missing []int, want ...int) []int {
	t.Helper()
	got, ok := impl.LotsOf(l, missing)
	other, otherOk := wantLots(l, missing)
	if !ok || !slices.Equal(got, want) {
		t.Errorf("LotsOf(%v, %v) = %v, %v; want %v", l, missing, got, ok, want)
	} else if !otherOk || !slices.Equal(other, want) {
		t.Errorf("the other way LotsOf(%v, %v) = %v, %v; want %v", l, missing, other, otherOk, want)
	} else if !covers(got, missing) {
		t.Errorf("LotsOf(%v, %v) = %v does not cover what is missing", l, missing, got)
	}
	return got
}

func refuseLots(t *testing.T, l impl.Lots, missing []int) {
	t.Helper()
	_, otherOk := wantLots(l, missing)
	if got, ok := impl.LotsOf(l, missing); ok || otherOk || len(got) != 0 {
		t.Errorf("LotsOf(%v, %v) = %v, %v; want nothing", l, missing, got, ok)
	}
}

func TestLotsByHand(t *testing.T) {
	missing := []int{4, 0, 3, 9, 9}
	checkLots(t, impl.Lots{Kind: impl.LotForLot, Size: 5, Setup: 10, Hold: 1}, missing, 4, 0, 3, 9, 9)
	checkLots(t, impl.Lots{Kind: impl.LotFixed, Size: 5, Setup: 10, Hold: 1}, missing, 5, 0, 5, 10, 5)
	checkLots(t, impl.Lots{Kind: impl.LotSpan, Size: 2, Setup: 10, Hold: 1}, missing, 4, 0, 12, 0, 9)
	checkLots(t, impl.Lots{Kind: impl.LotLeast, Size: 2, Setup: 10, Hold: 1}, missing, 7, 0, 0, 18, 0)
}

// Each of its fields asks for its own numbers, whatever the kind.
func TestLotsThatAreNotRight(t *testing.T) {
	for _, kind := range eachLotKind {
		for _, missing := range [][]int{{1}, {0, 3, 0, 2}} {
			for _, l := range []impl.Lots{{Kind: kind, Size: 1}, {Kind: kind, Size: 2}, {Kind: kind, Size: impl.MaxQty - 1}, {Kind: kind, Size: impl.MaxQty}, {Kind: kind, Size: 1, Setup: 1, Hold: 1}, {Kind: kind, Size: 1, Setup: impl.MaxFactor, Hold: mostHold}, {Kind: kind, Size: 1, Setup: impl.MaxFactor - 1, Hold: mostHold - 1}} {
				if want, ok := wantLots(l, missing); ok {
					checkLots(t, l, missing, want...)
				} else {
					refuseLots(t, l, missing)
				}
			}
			for _, size := range noQtysAbove0 {
				refuseLots(t, impl.Lots{Kind: kind, Size: size}, missing)
			}
			for _, setup := range noFactors {
				refuseLots(t, impl.Lots{Kind: kind, Size: 1, Setup: setup}, missing)
			}
			for _, hold := range noHolds {
				refuseLots(t, impl.Lots{Kind: kind, Size: 1, Hold: hold}, missing)
			}
		}
	}
	for _, kind := range noLotKinds {
		refuseLots(t, impl.Lots{Kind: kind, Size: 1, Setup: 1, Hold: 1}, []int{1})
		refuseLots(t, impl.Lots{Kind: kind, Size: 1, Setup: 1, Hold: 1}, []int{0, 0})
	}
	refuseLots(t, impl.Lots{}, []int{1})
	refuseLots(t, impl.Lots{}, nil)
}

func TestWhatMayBeMissing(t *testing.T) {
	for _, kind := range eachLotKind {
		l := impl.Lots{Kind: kind, Size: 3, Setup: 5, Hold: 2}
		refuseLots(t, l, nil)
		refuseLots(t, l, []int{})
		for _, count := range []int{1, 2, impl.MaxBuckets - 1, impl.MaxBuckets} {
			checkLots(t, l, repeated(0, count), repeated(0, count)...)
			want, _ := wantLots(l, daysFrom(0, count))
			checkLots(t, l, daysFrom(0, count), want...)
		}
		for _, count := range []int{impl.MaxBuckets + 1, impl.MaxBuckets + 2, 500} {
			refuseLots(t, l, repeated(0, count))
			refuseLots(t, l, repeated(3, count))
		}
		for _, none := range noQtys {
			for at := range 4 {
				wrong := []int{2, 0, 3, 1}
				wrong[at] = none
				refuseLots(t, l, wrong)
			}
			refuseLots(t, l, []int{none})
		}
	}
}

// Nothing is ordered ahead of the first bucket in which something is missing, nor behind the last.
func TestNothingMissingAtTheEnds(t *testing.T) {
	missing := []int{0, 0, 2, 0, 5, 0, 0}
	checkLots(t, impl.Lots{Kind: impl.LotForLot, Size: 9}, missing, missing...)
	checkLots(t, fixedLots(3), missing, 0, 0, 3, 0, 6, 0, 0)
	checkLots(t, fixedLots(7), missing, 0, 0, 7, 0, 0, 0, 0)
	checkLots(t, spanLots(2), missing, 0, 0, 2, 0, 5, 0, 0)
	checkLots(t, spanLots(3), missing, 0, 0, 7, 0, 0, 0, 0)
	checkLots(t, leastLots(9, 1), missing, 0, 0, 2, 0, 5, 0, 0)
	checkLots(t, leastLots(10, 1), missing, 0, 0, 7, 0, 0, 0, 0)
	checkLots(t, leastLots(0, 0), missing, 0, 0, 7, 0, 0, 0, 0)
	for _, kind := range eachLotKind {
		l := impl.Lots{Kind: kind, Size: 1, Setup: 1, Hold: 1}
		checkLots(t, l, []int{0, 0, 6}, 0, 0, 6)
		checkLots(t, l, []int{6, 0, 0}, 6, 0, 0)
	}
}

func TestForLotIsWhatIsMissing(t *testing.T) {
	for _, size := range []int{1, 7, impl.MaxQty} {
		l := impl.Lots{Kind: impl.LotForLot, Size: size, Setup: impl.MaxFactor, Hold: mostHold}
		checkLots(t, l, []int{0, 1, impl.MaxQty, 0, impl.MaxQty - 1}, 0, 1, impl.MaxQty, 0, impl.MaxQty-1)
		checkLots(t, l, repeated(impl.MaxQty, impl.MaxBuckets), repeated(impl.MaxQty, impl.MaxBuckets)...)
	}
}

func TestFixedLotsAroundAMultiple(t *testing.T) {
	for _, size := range []int{2, 3, 10, 1000} {
		for times := 1; times <= 3; times++ {
			just := times * size
			checkLots(t, fixedLots(size), []int{just, 1, 0}, just, size, 0)
			checkLots(t, fixedLots(size), []int{just - 1, 1, 1}, just, 0, size)
			checkLots(t, fixedLots(size), []int{just + 1, size - 1, 1}, just+size, 0, size)
			checkLots(t, fixedLots(size), []int{0, just + 1, size, 0}, 0, just+size, size, 0)
		}
	}
	checkLots(t, fixedLots(1), []int{3, 0, 4}, 3, 0, 4)
	// What is left over covers some of the buckets behind, one of them in part.
	checkLots(t, fixedLots(10), []int{3, 3, 3, 3, 3, 3, 3, 3}, 10, 0, 0, 10, 0, 0, 10, 0)
	checkLots(t, fixedLots(100), []int{1, 0, 40, 59, 0, 1}, 100, 0, 0, 0, 0, 100)
	checkLots(t, fixedLots(5), []int{1, 0, 4, 16, 4}, 5, 0, 0, 20, 0)
}

func TestFixedLotsThatLeaveTheQuantities(t *testing.T) {
	top := impl.MaxQty
	for _, r := range []struct{ size, most int }{{1, top}, {top, top}, {500000, top}, {250000, top}, {600000, 600000}, {500001, 500001}, {333333, 999999}, {3, 999999}, {top - 1, top - 1}, {7, 999999}, {101, 999900}, {9901, 990100}} {
		order := (r.most + r.size - 1) / r.size * r.size
		checkLots(t, fixedLots(r.size), []int{r.most, 0}, order, 0)
		checkLots(t, fixedLots(r.size), []int{0, r.most}, 0, order)
		if r.most < top {
			refuseLots(t, fixedLots(r.size), []int{r.most + 1, 0})
			refuseLots(t, fixedLots(r.size), []int{0, r.most + 1})
		}
		if more := r.most + r.size - 1; r.size > 1 && more <= top {
			// What is left over makes up for what would be too much.
			checkLots(t, fixedLots(r.size), []int{1, more}, r.size, order)
			refuseLots(t, fixedLots(r.size), []int{2, more})
		}
	}
	checkLots(t, fixedLots(600000), []int{1, top, 1}, 600000, 600000, 0)
	refuseLots(t, fixedLots(600000), []int{600000, 600001, 1})
	checkLots(t, fixedLots(600000), []int{599999, 600001, 1}, 600000, 600000, 600000)
	checkLots(t, fixedLots(top), repeated(top, impl.MaxBuckets), repeated(top, impl.MaxBuckets)...)
}

func TestSpansOfLots(t *testing.T) {
	missing := []int{4, 0, 3, 9, 9}
	checkLots(t, spanLots(1), missing, missing...)
	checkLots(t, spanLots(3), missing, 7, 0, 0, 18, 0)
	checkLots(t, spanLots(4), missing, 16, 0, 0, 0, 9)
	for _, size := range []int{5, 6, impl.MaxBuckets, impl.MaxQty} {
		checkLots(t, spanLots(size), missing, 25, 0, 0, 0, 0)
	}
	// Just what is left, and one more, and one less.
	behind := []int{0, 0, 3, 9, 9}
	checkLots(t, spanLots(2), behind, 0, 0, 12, 0, 9)
	checkLots(t, spanLots(3), behind, 0, 0, 21, 0, 0)
	checkLots(t, spanLots(4), behind, 0, 0, 21, 0, 0)
	// A span begins where something is missing: a bucket with nothing isn't counted ahead of it.
	checkLots(t, spanLots(2), []int{1, 1, 0, 1, 1, 1}, 2, 0, 0, 2, 0, 1)
	checkLots(t, spanLots(2), []int{1, 0, 0, 1, 0, 1}, 1, 0, 0, 1, 0, 1)
	checkLots(t, spanLots(3), []int{0, 1, 0, 0, 0, 5, 0, 6, 7}, 0, 1, 0, 0, 0, 11, 0, 0, 7)
	for size := 1; size <= impl.MaxBuckets+1; size++ {
		want := make([]int, impl.MaxBuckets)
		for b := 0; b < impl.MaxBuckets; b += size {
			want[b] = 2 * min(size, impl.MaxBuckets-b)
		}
		checkLots(t, spanLots(size), repeated(2, impl.MaxBuckets), want...)
	}
}

func TestSpansThatLeaveTheQuantities(t *testing.T) {
	top := impl.MaxQty
	checkLots(t, spanLots(2), []int{top - 5, 5, 1}, top, 0, 1)
	refuseLots(t, spanLots(2), []int{top - 5, 6, 1})
	refuseLots(t, spanLots(3), []int{top - 5, 5, 1})
	refuseLots(t, spanLots(top), []int{top - 5, 5, 1})
	checkLots(t, spanLots(2), []int{1, top - 1, 0, 0, top, 0}, top, 0, 0, 0, top, 0)
	refuseLots(t, spanLots(2), []int{1, 0, top, 1})
	checkLots(t, spanLots(impl.MaxBuckets), repeated(top/impl.MaxBuckets, impl.MaxBuckets), append([]int{top}, repeated(0, impl.MaxBuckets-1)...)...)
	refuseLots(t, spanLots(impl.MaxBuckets), append([]int{top/impl.MaxBuckets + 1}, repeated(top/impl.MaxBuckets, impl.MaxBuckets-1)...))
	checkLots(t, spanLots(impl.MaxBuckets-1), append([]int{top/impl.MaxBuckets + 1}, repeated(top/impl.MaxBuckets, impl.MaxBuckets-1)...), append(append([]int{top - top/impl.MaxBuckets + 1}, repeated(0, impl.MaxBuckets-2)...), top/impl.MaxBuckets)...)
}

func TestLeastLotsWithoutCosts(t *testing.T) {
	missing := []int{0, 3, 0, 4, 5, 0, 0, 1, 0}
	// Nothing costs, or no order does, or no unit that waits.
	checkLots(t, leastLots(0, 0), missing, 0, 13, 0, 0, 0, 0, 0, 0, 0)
	checkLots(t, leastLots(0, 1), missing, missing...)
	checkLots(t, leastLots(0, mostHold), missing, missing...)
	checkLots(t, leastLots(1, 0), missing, 0, 13, 0, 0, 0, 0, 0, 0, 0)
	checkLots(t, leastLots(impl.MaxFactor, 0), missing, 0, 13, 0, 0, 0, 0, 0, 0, 0)
	all := append([]int{impl.MaxBuckets}, repeated(0, impl.MaxBuckets-1)...)
	for _, setup := range []int{0, 1, impl.MaxFactor} {
		checkLots(t, leastLots(setup, 0), repeated(1, impl.MaxBuckets), all...)
	}
	checkLots(t, leastLots(0, 1), repeated(1, impl.MaxBuckets), repeated(1, impl.MaxBuckets)...)
}

// One order for two buckets costs just what two do, one less, and one more.
func TestLeastLotsAroundATie(t *testing.T) {
	for _, r := range []struct{ setup, hold, wait, behind int }{{6, 2, 1, 3}, {6, 1, 2, 3}, {6, 3, 1, 2}, {1, 1, 1, 1}, {impl.MaxFactor, mostHold, 1, 10000}, {impl.MaxFactor, mostHold, 10, 1000}} {
		missing := append([]int{0, 8}, repeated(0, r.wait-1)...)
		missing = append(missing, r.behind, 0)
		together := append([]int{0, 8 + r.behind}, repeated(0, r.wait+1)...)
		checkLots(t, leastLots(r.setup, r.hold), missing, together...)
		checkLots(t, leastLots(r.setup-1, r.hold), missing, missing...)
		if r.setup < impl.MaxFactor {
			checkLots(t, leastLots(r.setup+1, r.hold), missing, together...)
		}
		missing[1+r.wait]++
		checkLots(t, leastLots(r.setup, r.hold), missing, missing...)
		missing[1+r.wait] -= 2
		together[1] -= 1
		checkLots(t, leastLots(r.setup, r.hold), missing, together...)
	}
}

func TestTiesAmongSeveralWays(t *testing.T) {
	// The last order may stand in 2 or 3 (8 each way); the one ahead in 0 or 1.
	checkLots(t, leastLots(2, 1), []int{1, 2, 9, 2}, 3, 0, 11, 0)
	checkLots(t, leastLots(2, 1), []int{1, 2, 9, 2, 9}, 3, 0, 11, 0, 9)
	checkLots(t, leastLots(2, 1), []int{1, 2, 9, 3}, 3, 0, 9, 3)
	checkLots(t, leastLots(2, 1), []int{1, 3, 9, 2}, 1, 3, 11, 0)
	// Of 0 and 1, or 0 and 2: the last order stands earlier, though it waits longer.
	checkLots(t, leastLots(3, 1), []int{1, 2, 2}, 1, 4, 0)
	checkLots(t, leastLots(4, 1), []int{1, 2, 2}, 5, 0, 0)
	checkLots(t, leastLots(5, 1), []int{1, 4, 4}, 1, 8, 0)
	checkLots(t, leastLots(4, 1), []int{1, 4, 4}, 1, 8, 0)
	// Nothing is ordered in a bucket in which nothing is missing, though that would make it less.
	checkLots(t, leastLots(3, 1), []int{1, 0, 0, 1, 1, 1}, 1, 0, 0, 3, 0, 0)
	checkLots(t, leastLots(4, 1), []int{1, 0, 0, 1, 1, 1}, 1, 0, 0, 3, 0, 0)
	checkLots(t, leastLots(3, 1), []int{1, 0, 0, 1}, 2, 0, 0, 0)
	checkLots(t, leastLots(3, 1), []int{1, 0, 0, 2}, 1, 0, 0, 2)
}

// The way that costs least is taken whatever its orders; it is refused when one of them is no quantity, though others would not be.
func TestLeastLotsThatLeaveTheQuantities(t *testing.T) {
	top := impl.MaxQty
	for _, l := range []impl.Lots{leastLots(0, 0), leastLots(1, 0), leastLots(impl.MaxFactor, 0)} {
		checkLots(t, l, []int{0, top - 5, 0, 5}, 0, top, 0, 0)
		refuseLots(t, l, []int{0, top - 5, 0, 6})
		refuseLots(t, l, []int{0, top, 0, 1})
		refuseLots(t, l, repeated(top, impl.MaxBuckets))
		checkLots(t, l, []int{0, 0, top}, 0, 0, top)
	}
	checkLots(t, leastLots(9, 1), []int{top, 9, 1}, top, 10, 0)
	refuseLots(t, leastLots(10, 1), []int{top, 9, 1})
	refuseLots(t, leastLots(9, 1), []int{top, 8, 1})
	refuseLots(t, leastLots(impl.MaxFactor, mostHold), []int{top - 9999, 10000})
	checkLots(t, leastLots(impl.MaxFactor, mostHold), []int{top - 10000, 10000}, top, 0)
	checkLots(t, leastLots(impl.MaxFactor, mostHold), []int{top - 9999, 10001}, top-9999, 10001)
	checkLots(t, leastLots(impl.MaxFactor, mostHold), repeated(top, impl.MaxBuckets), repeated(top, impl.MaxBuckets)...)
	for _, each := range []int{1, 2, 40, 900, 3333, 9999, 10000, 10001, 400000} {
		missing := repeated(each, impl.MaxBuckets)
		want, ok := wantLots(leastLots(impl.MaxFactor, mostHold), missing)
		if !ok {
			t.Fatalf("%d in each bucket: not told", each)
		}
		checkLots(t, leastLots(impl.MaxFactor, mostHold), missing, want...)
	}
}

func someLots(chance *rand.Rand, most int) impl.Lots {
	l := impl.Lots{Kind: 1 + chance.Intn(4), Size: 1 + chance.Intn([]int{4, most + 1, impl.MaxQty}[chance.Intn(3)])}
	l.Setup = chance.Intn([]int{1, 9, 2*most + 2, impl.MaxFactor + 1}[chance.Intn(4)])
	l.Hold = chance.Intn([]int{1, 3, mostHold + 1}[chance.Intn(3)])
	if l.Kind == impl.LotSpan && chance.Intn(2) == 0 {
		l.Size = 1 + chance.Intn(6)
	}
	return l
}

func spoilLots(chance *rand.Rand, l *impl.Lots) {
	switch chance.Intn(4) {
	case 0:
		l.Kind = noLotKinds[chance.Intn(len(noLotKinds))]
	case 1:
		l.Size = noQtysAbove0[chance.Intn(len(noQtysAbove0))]
	case 2:
		l.Setup = noFactors[chance.Intn(len(noFactors))]
	case 3:
		l.Hold = noHolds[chance.Intn(len(noHolds))]
	}
}

// What is missing in some buckets, of few enough for every way to be tried, or of many.
func someMissing(chance *rand.Rand, most int) []int {
	return someQtys(chance, 1+chance.Intn([]int{6, 12, impl.MaxBuckets}[chance.Intn(3)]), most)
}

func TestSomeLots(t *testing.T) {
	chance := rand.New(rand.NewSource(182))
	told, none := [5]int{}, [5]int{}
	for range 16000 {
		most := []int{1, 3, 40, 9000, impl.MaxQty}[chance.Intn(5)]
		l, missing := someLots(chance, most), someMissing(chance, most)
		kind := l.Kind
		if chance.Intn(12) == 0 {
			spoilLots(chance, &l)
		}
		if chance.Intn(15) == 0 {
			missing[chance.Intn(len(missing))] = noQtys[chance.Intn(len(noQtys))]
		}
		if want, ok := wantLots(l, missing); ok {
			checkLots(t, l, missing, want...)
			told[kind]++
		} else {
			refuseLots(t, l, missing)
			none[kind]++
		}
	}
	for _, kind := range eachLotKind {
		if told[kind] < 1500 || none[kind] < 400 {
			t.Errorf("of kind %d: %d told, %d not", kind, told[kind], none[kind])
		}
	}
}

// Both other ways to the least one are the same where every way can be tried.
func TestLeastOfAllAndOfMany(t *testing.T) {
	chance := rand.New(rand.NewSource(183))
	for range 3000 {
		l, missing := leastLots(chance.Intn(9), chance.Intn(4)), someQtys(chance, 1+chance.Intn(9), 4)
		all, many := wantLeastOfAll(l, missing), wantLeastOfMany(l, missing)
		if !slices.Equal(all, many) {
			t.Fatalf("of %v by %v: %v and %v", missing, l, all, many)
		}
		checkLots(t, l, missing, all...)
	}
}

func TestLotsLeaveTheirArguments(t *testing.T) {
	missing := withRoom(4, 0, 3, 9, 9)
	kept := roomOf(missing)
	for range 2 {
		for _, kind := range eachLotKind {
			l := impl.Lots{Kind: kind, Size: 2, Setup: 10, Hold: 1}
			want, _ := wantLots(l, slices.Clone(missing))
			spoilList(checkLots(t, l, missing, slices.Clone(want)...))
			refuseLots(t, l, missing[:6])
			if !slices.Equal(roomOf(missing), kept) {
				t.Fatalf("what is missing was written into by kind %d", kind)
			}
		}
	}
}
