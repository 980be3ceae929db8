package tests

import (
	"math/rand"
	"slices"
	"testing"

	"loop.example/g00040/impl"
)

// Each unit of an order is held from its bucket's end to the end of the bucket ahead of the one in which it is missing, or to the last one.
func wantLotCost(l impl.Lots, missing, orders []int) (int, bool) {
	if !areLots(l) || !areBuckets(missing) || len(orders) != len(missing) || !areQtys(orders) || !covers(orders, missing) {
		return 0, false
	}
	cost := 0
	for b, n := range orders {
		if n != 0 {
			cost += l.Setup
		}
		cost += l.Hold * (n - missing[b]) * (len(orders) - b)
	}
	return cost, true
}

func checkLotCost(t *testing.T, l impl.Lots, missing, orders []int, want int) {
	t.Helper()
	got, ok := impl.LotCost(l, missing, orders)
	other, otherOk := wantLotCost(l, missing, orders)
	if !ok || got != want {
		t.Errorf("LotCost(%v, %v, %v) = %d, %v; want %d", l, missing, orders, got, ok, want)
	} else if !otherOk || other != want {
		t.Errorf("the other way LotCost(%v, %v, %v) = %d, %v; want %d", l, missing, orders, other, otherOk, want)
	}
}

func refuseLotCost(t *testing.T, l impl.Lots, missing, orders []int) {
	t.Helper()
	_, otherOk := wantLotCost(l, missing, orders)
	if got, ok := impl.LotCost(l, missing, orders); ok || otherOk || got != 0 {
		t.Errorf("LotCost(%v, %v, %v) = %d, %v; want 0", l, missing, orders, got, ok)
	}
}

// It costs as much whatever the kind and the size.
func checkEachLotCost(t *testing.T, setup, hold int, missing, orders []int, want int) {
	t.Helper()
	for _, kind := range eachLotKind {
		for _, size := range []int{1, 7, impl.MaxQty} {
			checkLotCost(t, impl.Lots{Kind: kind, Size: size, Setup: setup, Hold: hold}, missing, orders, want)
		}
	}
}

func TestLotCostByHand(t *testing.T) {
	missing := []int{4, 0, 3, 9, 9}
	checkEachLotCost(t, 10, 1, missing, []int{7, 0, 0, 18, 0}, 20+3+3+9)
	checkEachLotCost(t, 10, 1, missing, missing, 40)
	checkEachLotCost(t, 10, 1, missing, []int{5, 0, 5, 10, 5}, 40+1+1+3+4)
	checkEachLotCost(t, 10, 1, missing, []int{25, 0, 0, 0, 0}, 10+21+21+18+9)
	checkEachLotCost(t, 10, 0, missing, []int{25, 0, 0, 0, 0}, 10)
	checkEachLotCost(t, 0, 3, missing, []int{7, 0, 0, 18, 0}, 45)
	checkEachLotCost(t, 0, 0, missing, []int{7, 0, 0, 18, 0}, 0)
}

func TestWhatOrdersLeaveOver(t *testing.T) {
	missing := []int{2, 3, 0, 5}
	just := []int{2, 3, 0, 5}
	for b := range just {
		for _, other := range []int{-1, 1} {
			orders := slices.Clone(just)
			orders[b] += other
			switch {
			case other < 0:
				refuseLotCost(t, leastLots(7, 2), missing, orders)
			case just[b] == 0:
				checkEachLotCost(t, 7, 2, missing, orders, 28+2*(4-b))
			default:
				checkEachLotCost(t, 7, 2, missing, orders, 21+2*(4-b))
			}
		}
		// One short at a bucket's end alone: it comes a bucket too late.
		if b+1 < len(just) && just[b] > 0 {
			orders := slices.Clone(just)
			orders[b]--
			orders[b+1]++
			refuseLotCost(t, leastLots(7, 2), missing, orders)
			orders[b] += 2
			orders[b+1] -= 2
			if orders[b+1] >= 0 {
				checkEachLotCost(t, 7, 2, missing, orders, 21+2)
			}
		}
	}
	// Ahead of what is missing, also of all of it, and left over at the end.
	checkEachLotCost(t, 7, 2, []int{0, 0, 4, 0}, []int{4, 0, 0, 0}, 7+2*8)
	checkEachLotCost(t, 7, 2, []int{0, 0, 4, 0}, []int{1, 3, 0, 0}, 14+2*(1+4))
	checkEachLotCost(t, 7, 2, []int{0, 0, 4, 0}, []int{0, 0, 4, 6}, 14+12)
	checkEachLotCost(t, 7, 2, []int{0, 0}, []int{0, 0}, 0)
	checkEachLotCost(t, 7, 2, []int{0, 0}, []int{3, 0}, 7+12)
	checkEachLotCost(t, 7, 2, []int{5}, []int{5}, 7)
	refuseLotCost(t, leastLots(7, 2), []int{0, 0, 4, 0}, []int{0, 0, 0, 4})
	refuseLotCost(t, leastLots(7, 2), []int{5}, []int{0})
	refuseLotCost(t, leastLots(0, 0), []int{5}, []int{4})
}

func TestOrdersAboveNoneAreSetUp(t *testing.T) {
	for count := 1; count <= impl.MaxBuckets; count++ {
		for ordered := 0; ordered <= count; ordered += 3 {
			orders := repeated(0, count)
			for b := range ordered {
				orders[b] = 1 + b
			}
			checkLotCost(t, leastLots(9, 0), repeated(0, count), orders, 9*ordered)
			slices.Reverse(orders)
			checkLotCost(t, leastLots(9, 0), repeated(0, count), orders, 9*ordered)
		}
	}
	top := repeated(impl.MaxQty, impl.MaxBuckets)
	checkLotCost(t, leastLots(impl.MaxFactor, mostHold), top, top, impl.MaxBuckets*impl.MaxFactor)
	rising := impl.MaxBuckets * (impl.MaxBuckets + 1) / 2
	checkLotCost(t, leastLots(impl.MaxFactor, mostHold), repeated(0, impl.MaxBuckets), top, impl.MaxBuckets*impl.MaxFactor+rising*mostHold*impl.MaxQty)
}

func TestLotCostsThatAreNone(t *testing.T) {
	missing, right := []int{2, 0, 3}, leastLots(4, 1)
	refuseLotCost(t, right, missing, []int{2, 0})
	refuseLotCost(t, right, missing, []int{5, 0})
	refuseLotCost(t, right, missing, []int{2, 0, 3, 0})
	refuseLotCost(t, right, missing, nil)
	refuseLotCost(t, right, nil, []int{2, 0, 3})
	refuseLotCost(t, right, nil, nil)
	for _, none := range noQtys {
		for b := range missing {
			wrong := []int{9, 9, 9}
			wrong[b] = none
			refuseLotCost(t, right, missing, wrong)
			refuseLotCost(t, right, wrong, []int{9, 9, 9})
		}
	}
	checkLotCost(t, right, missing, []int{impl.MaxQty, 0, 0}, 4+3*impl.MaxQty-2-2-5)
	for _, count := range []int{impl.MaxBuckets, impl.MaxBuckets + 1, 500} {
		if count == impl.MaxBuckets {
			checkLotCost(t, right, repeated(1, count), repeated(1, count), 4*count)
			continue
		}
		refuseLotCost(t, right, repeated(1, count), repeated(1, count))
	}
	for _, kind := range noLotKinds {
		refuseLotCost(t, impl.Lots{Kind: kind, Size: 1}, missing, missing)
	}
	for _, kind := range eachLotKind {
		for _, size := range noQtysAbove0 {
			refuseLotCost(t, impl.Lots{Kind: kind, Size: size}, missing, missing)
		}
		for _, setup := range noFactors {
			refuseLotCost(t, impl.Lots{Kind: kind, Size: 1, Setup: setup}, missing, missing)
		}
		for _, hold := range noHolds {
			refuseLotCost(t, impl.Lots{Kind: kind, Size: 1, Hold: hold}, missing, missing)
		}
	}
}

// Orders that cover what is missing, some of it ahead of its bucket, and at times something more.
func someOrders(chance *rand.Rand, missing []int) []int {
	orders := make([]int, len(missing))
	for b, n := range missing {
		orders[chance.Intn(b+1)] += n
		if chance.Intn(6) == 0 {
			orders[chance.Intn(len(orders))]++
		}
	}
	return orders
}

// None that covers what is missing costs less, of whatever kind.
func TestLeastLotsCostNoMore(t *testing.T) {
	chance := rand.New(rand.NewSource(184))
	less, told := 0, 0
	for range 6000 {
		most := []int{1, 3, 40, 20000}[chance.Intn(4)]
		l, missing := someLots(chance, most), someMissing(chance, most)
		least := l
		least.Kind = impl.LotLeast
		orders, _ := impl.LotsOf(least, missing)
		cost, ok := impl.LotCost(least, missing, orders)
		if !ok {
			t.Fatalf("LotCost(%v, %v, %v) is not told", least, missing, orders)
		}
		checkLotCost(t, l, missing, orders, cost)
		others := [][]int{missing, someOrders(chance, missing), someOrders(chance, missing)}
		if of, ok := impl.LotsOf(l, missing); ok {
			others = append(others, of)
		}
		for _, other := range others {
			otherCost, ok := impl.LotCost(l, missing, other)
			if !ok || otherCost < cost {
				t.Fatalf("LotCost(%v, %v, %v) = %d, %v; the least lots %v cost %d", l, missing, other, otherCost, ok, orders, cost)
			}
			told++
			if otherCost > cost {
				less++
			}
		}
	}
	if less < told/4 {
		t.Errorf("the least lots cost less in %d of %d", less, told)
	}
}

func TestSomeLotCosts(t *testing.T) {
	chance := rand.New(rand.NewSource(185))
	told, none := 0, 0
	for range 12000 {
		most := []int{1, 3, 40, 9000, impl.MaxQty / 8}[chance.Intn(5)]
		l, missing := someLots(chance, most), someMissing(chance, most)
		orders := someOrders(chance, missing)
		switch chance.Intn(8) {
		case 0:
			orders[chance.Intn(len(orders))]--
		case 1:
			orders[chance.Intn(len(orders))] = noQtys[chance.Intn(len(noQtys))]
		case 2:
			missing[chance.Intn(len(missing))] = noQtys[chance.Intn(len(noQtys))]
		case 3:
			spoilLots(chance, &l)
		case 4:
			missing[chance.Intn(len(missing))]++
		}
		if want, ok := wantLotCost(l, missing, orders); ok {
			checkLotCost(t, l, missing, orders, want)
			told++
		} else {
			refuseLotCost(t, l, missing, orders)
			none++
		}
	}
	if told < 3000 || none < 3000 {
		t.Errorf("%d told, %d not", told, none)
	}
}

func TestLotCostLeavesItsArguments(t *testing.T) {
	missing, orders := withRoom(4, 0, 3, 9, 9), withRoom(7, 0, 0, 18, 0)
	kept, keptOrders := roomOf(missing), roomOf(orders)
	for range 2 {
		checkEachLotCost(t, 10, 1, missing, orders, 35)
		refuseLotCost(t, leastLots(10, 1), missing[:6], orders[:6])
		refuseLotCost(t, leastLots(10, 1), orders, missing[:4])
	}
	if !slices.Equal(roomOf(missing), kept) || !slices.Equal(roomOf(orders), keptOrders) {
		t.Error("the arguments were written into")
	}
}
