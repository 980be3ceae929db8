package tests

import (
	"math"
	"math/rand"
	"slices"
	"testing"

	"loop.example/g00040/impl"
)

var noSpreads = []int{math.MinInt, -1, 0, 4, 5, math.MaxInt}

func landedBy(list []impl.Lay, by int) []int {
	weights := make([]int, len(list))
	for i, l := range list {
		weights[i] = [4]int{1: l.Cost, 2: l.Qty, 3: 1}[by]
	}
	return weights
}

func wantLanded(list []impl.Lay, extra, by int) ([]impl.Lay, bool) {
	if len(list) == 0 || len(list) > impl.MaxParts || slices.ContainsFunc(list, func(l impl.Lay) bool { return !wantLayOk(l) }) {
		return nil, false
	}
	if extra < 0 || extra > impl.MaxMoney || by < 1 || by > 3 {
		return nil, false
	}
	weights := landedBy(list, by)
	if slices.Max(weights) > impl.MaxFactor || slices.Max(weights) == 0 {
		return nil, false
	}
	landed := slices.Clone(list)
	for i, share := range wantShares(extra, weights) {
		landed[i].Cost += share
		if landed[i].Cost > impl.MaxMoney {
			return nil, false
		}
	}
	return landed, true
}

func checkLanded(t *testing.T, list []impl.Lay, extra, by int, want ...impl.Lay) []impl.Lay {
	t.Helper()
	kept := slices.Clone(list)
	got, ok := impl.Landed(list, extra, by)
	other, otherOk := wantLanded(list, extra, by)
	if !ok || !slices.Equal(got, want) || !otherOk || !slices.Equal(other, want) {
		t.Errorf("Landed(%v, %d, %d) = %v, %v; want %v", list[:min(8, len(list))], extra, by, got[:min(8, len(got))], ok, want[:min(8, len(want))])
	}
	if costsOf(got) != costsOf(list)+extra || unitsOf(got) != unitsOf(list) {
		t.Errorf("Landed(%v, %d, %d) = %v: not what the Lays cost and their way", list[:min(8, len(list))], extra, by, got[:min(8, len(got))])
	}
	if !slices.Equal(list, kept) {
		t.Fatalf("Landed(%v, %d, %d) wrote into its Lays", kept[:min(8, len(kept))], extra, by)
	}
	return got
}

func noLanded(t *testing.T, list []impl.Lay, extra, by int) {
	t.Helper()
	_, otherOk := wantLanded(list, extra, by)
	if got, ok := impl.Landed(list, extra, by); ok || otherOk || len(got) != 0 {
		t.Errorf("Landed(%d Lays %v, %d, %d) = %v, %v; want nothing", len(list), list[:min(8, len(list))], extra, by, got[:min(8, len(got))], ok)
	}
}

func TestLandedByHand(t *testing.T) {
	list := laysOf(1, 30, 3, 10)
	checkLanded(t, list, 8, 1, laysOf(1, 36, 3, 12)...)
	checkLanded(t, list, 8, 2, laysOf(1, 32, 3, 16)...)
	checkLanded(t, list, 8, 3, laysOf(1, 34, 3, 14)...)
	for by := 1; by <= 3; by++ {
		checkLanded(t, list, 0, by, list...)
		checkLanded(t, laysOf(7, 20), 99, by, laysOf(7, 119)...)
	}
	for _, by := range noSpreads {
		noLanded(t, list, 8, by)
		noLanded(t, list, 0, by)
		noLanded(t, laysOf(7, 20), 8, by)
	}
}

// What is left over goes to those of which most was cut off, then to the lower ones.
func TestWhatIsLeftOverOfAWay(t *testing.T) {
	list := laysOf(2, 10, 2, 20, 3, 10)
	checkLanded(t, list, 1, 3, laysOf(2, 11, 2, 20, 3, 10)...)
	checkLanded(t, list, 2, 3, laysOf(2, 11, 2, 21, 3, 10)...)
	checkLanded(t, list, 4, 3, laysOf(2, 12, 2, 21, 3, 11)...)
	checkLanded(t, list, 1, 1, laysOf(2, 10, 2, 21, 3, 10)...)
	checkLanded(t, list, 5, 1, laysOf(2, 11, 2, 23, 3, 11)...)
	checkLanded(t, list, 1, 2, laysOf(2, 10, 2, 20, 3, 11)...)
	checkLanded(t, list, 2, 2, laysOf(2, 11, 2, 20, 3, 11)...)
	checkLanded(t, list, 3, 2, laysOf(2, 11, 2, 21, 3, 11)...)
	// A Lay that costs nothing bears nothing by Costs, and as much as others alike.
	checkLanded(t, laysOf(2, 0, 2, 5, 3, 0), 7, 1, laysOf(2, 0, 2, 12, 3, 0)...)
	checkLanded(t, laysOf(2, 0, 2, 5, 3, 0), 7, 3, laysOf(2, 3, 2, 7, 3, 2)...)
	checkLanded(t, laysOf(2, 0, 2, 5, 3, 0), 7, 2, laysOf(2, 2, 2, 7, 3, 3)...)
}

func TestHowManyLaysMayLand(t *testing.T) {
	for by := 1; by <= 3; by++ {
		noLanded(t, nil, 8, by)
		noLanded(t, []impl.Lay{}, 0, by)
		for _, count := range []int{1, 2, impl.MaxParts - 1, impl.MaxParts} {
			checkLanded(t, manyLays(count, 3, 7), 5*count, by, manyLays(count, 3, 12)...)
			checkLanded(t, manyLays(count, 3, 7), 5*count+1, by, append(laysOf(3, 13), manyLays(count-1, 3, 12)...)...)
		}
		for _, count := range []int{impl.MaxParts + 1, impl.MaxParts + 2, impl.MaxMoves, 5000} {
			noLanded(t, manyLays(count, 3, 7), 5*count, by)
			noLanded(t, manyLays(count, 3, 7), 0, by)
		}
	}
}

func TestLaysThatAreNone(t *testing.T) {
	for by := 1; by <= 3; by++ {
		for at := range 3 {
			for _, qty := range noQtysAbove0 {
				list := laysOf(2, 10, 2, 20, 3, 10)
				list[at].Qty = qty
				noLanded(t, list, 8, by)
			}
			for _, cost := range noLayCosts {
				list := laysOf(2, 10, 2, 20, 3, 10)
				list[at].Cost = cost
				noLanded(t, list, 8, by)
				noLanded(t, list, 0, by)
			}
			list := laysOf(2, 10, 2, 20, 3, 10)
			list[at].Qty = impl.MaxQty
			want, _ := wantLanded(list, 8, by)
			checkLanded(t, list, 8, by, want...)
		}
		noLanded(t, laysOf(0, 0), 8, by)
		noLanded(t, append(manyLays(impl.MaxParts-1, 1, 1), impl.Lay{}), 8, by)
	}
}

func TestExtrasThatAreNone(t *testing.T) {
	for by := 1; by <= 3; by++ {
		for _, extra := range noLayCosts {
			noLanded(t, laysOf(1, 30, 3, 10), extra, by)
			noLanded(t, laysOf(1, 1), extra, by)
		}
	}
}

func TestCostsThatAreAllNothing(t *testing.T) {
	for _, list := range [][]impl.Lay{laysOf(3, 0), laysOf(3, 0, 1, 0), manyLays(impl.MaxParts, 2, 0)} {
		for _, extra := range []int{0, 1, 200, impl.MaxMoney} {
			noLanded(t, list, extra, 1)
			for by := 2; by <= 3; by++ {
				want, ok := wantLanded(list, extra, by)
				if !ok {
					t.Fatal("this should land")
				}
				checkLanded(t, list, extra, by, want...)
			}
		}
	}
	checkLanded(t, laysOf(3, 0, 1, 1), impl.MaxMoney-1, 1, laysOf(3, 0, 1, impl.MaxMoney)...)
}

func TestWeightsThatAreTooGreat(t *testing.T) {
	top := impl.MaxFactor
	checkLanded(t, laysOf(1, top), 5, 1, laysOf(1, top+5)...)
	checkLanded(t, laysOf(1, top, 1, top), 5, 1, laysOf(1, top+3, 1, top+2)...)
	for _, cost := range []int{top + 1, top + 2, 2 * top, impl.MaxMoney - 5} {
		noLanded(t, laysOf(1, cost), 5, 1)
		noLanded(t, laysOf(1, cost), 0, 1)
		noLanded(t, laysOf(1, 1, 1, cost), 4, 1)
		noLanded(t, laysOf(1, cost, 1, 1), 4, 1)
		checkLanded(t, laysOf(1, 1, 1, cost), 4, 2, laysOf(1, 3, 1, cost+2)...)
		checkLanded(t, laysOf(1, cost, 1, 1), 4, 3, laysOf(1, cost+2, 1, 3)...)
	}
	checkLanded(t, laysOf(impl.MaxQty, 1, impl.MaxQty, 1), 3, 2, laysOf(impl.MaxQty, 3, impl.MaxQty, 2)...)
	checkLanded(t, manyLays(impl.MaxParts, impl.MaxQty, 0), impl.MaxMoney, 2, manyLays(impl.MaxParts, impl.MaxQty, impl.MaxMoney/impl.MaxParts)...)
	checkLanded(t, manyLays(impl.MaxParts, 1, top), impl.MaxMoney, 1, manyLays(impl.MaxParts, 1, top+impl.MaxMoney/impl.MaxParts)...)
}

func TestCostsThatLeaveTheAmounts(t *testing.T) {
	for by := 1; by <= 3; by++ {
		checkLanded(t, laysOf(4, 9), impl.MaxMoney-9, by, laysOf(4, impl.MaxMoney)...)
		noLanded(t, laysOf(4, 9), impl.MaxMoney-8, by)
		noLanded(t, laysOf(4, 9), impl.MaxMoney, by)
		checkLanded(t, laysOf(4, 9, 4, 9), impl.MaxMoney, by, laysOf(4, impl.MaxMoney/2+9, 4, impl.MaxMoney/2+9)...)
	}
	for by := 2; by <= 3; by++ {
		checkLanded(t, laysOf(4, 0), impl.MaxMoney, by, laysOf(4, impl.MaxMoney)...)
		noLanded(t, laysOf(4, 1), impl.MaxMoney, by)
		// It is one that leaves them, at either end, and all that stay in them may be more together.
		full := laysOf(4, impl.MaxMoney-3, 4, impl.MaxMoney-3, 4, impl.MaxMoney-3)
		checkLanded(t, full, 9, by, laysOf(4, impl.MaxMoney, 4, impl.MaxMoney, 4, impl.MaxMoney)...)
		noLanded(t, full, 10, by)
		noLanded(t, laysOf(4, impl.MaxMoney, 4, 0), 1, by)
		checkLanded(t, laysOf(4, 0, 4, impl.MaxMoney), 1, by, laysOf(4, 1, 4, impl.MaxMoney)...)
		noLanded(t, laysOf(4, 0, 4, impl.MaxMoney), 2, by)
		noLanded(t, laysOf(4, 0, 4, impl.MaxMoney, 4, 0), 3, by)
	}
}

func TestSomeLandings(t *testing.T) {
	chance := rand.New(rand.NewSource(166))
	landed, none := 0, 0
	for range 8000 {
		list := []impl.Lay{}
		most := []int{9, 5000, impl.MaxFactor + 2000, impl.MaxMoney}[chance.Intn(4)]
		for range chance.Intn(9) {
			list = append(list, impl.Lay{Qty: 1 + chance.Intn([]int{4, impl.MaxQty}[chance.Intn(2)]), Cost: chance.Intn(most+1) * chance.Intn(2)})
		}
		if chance.Intn(8) == 0 && len(list) > 0 {
			list[chance.Intn(len(list))] = []impl.Lay{{}, {Qty: -1, Cost: 4}, {Qty: 1, Cost: -1}, {Qty: impl.MaxQty + 1}}[chance.Intn(4)]
		}
		extra, by := chance.Intn([]int{9, 5000, impl.MaxMoney}[chance.Intn(3)]+2)-1, chance.Intn(8)
		if by > 4 {
			by -= 4
		}
		if want, ok := wantLanded(list, extra, by); ok {
			checkLanded(t, list, extra, by, want...)
			landed++
		} else {
			noLanded(t, list, extra, by)
			none++
		}
	}
	if landed < 1500 || none < 1500 {
		t.Errorf("%d landed, %d did not", landed, none)
	}
}

func TestLandedLeavesItsLays(t *testing.T) {
	list := laysWithMoreBehind(1, 30, 3, 10)
	kept := slices.Clone(list[:cap(list)])
	for range 2 {
		for by := 1; by <= 3; by++ {
			want, _ := wantLanded(list, 8, by)
			spoilLays(checkLanded(t, list, 8, by, want...))
			spoilLays(checkLanded(t, list, 0, by, laysOf(1, 30, 3, 10)...))
			noLanded(t, list[:3], 8, by)
			noLanded(t, list, impl.MaxMoney+1, by)
		}
		if !slices.Equal(list[:cap(list)], kept) {
			t.Fatal("the Lays were written into")
		}
	}
}
