package tests

import (
	"math"
	"math/rand"
	"slices"
	"testing"

	"loop.example/g00040/impl"
)

// What is bought of each item on balance: what there must be of those that are not made, less what comes out beside.
func wantBought(items []impl.Item, at, qty, day int) ([]int, bool) {
	there, ok := exploding.want(items, at, qty, day)
	if !ok {
		return nil, false
	}
	bought := slices.Clone(there)
	for maker, n := range there {
		if !isMadeOn(items[maker], day) {
			continue
		}
		out, ok := yielding.want(items, maker, n, day)
		if !ok {
			return nil, false
		}
		bought[maker] -= n
		for i := maker + 1; i < len(out); i++ {
			bought[i] -= out[i]
		}
	}
	return bought, true
}

func wantCost(items []impl.Item, prices []int, at, qty, day int) (int, bool) {
	bought, ok := wantBought(items, at, qty, day)
	if !ok || len(prices) != len(items) || slices.ContainsFunc(prices, func(n int) bool { return !isPrice(n) }) {
		return 0, false
	}
	all := 0
	for i, n := range bought {
		all += n * prices[i]
	}
	if all < 0 || !amount(all) {
		return 0, false
	}
	return all, true
}

func checkCost(t *testing.T, items []impl.Item, prices []int, at, qty, day, want int) {
	t.Helper()
	kept, keptPrices := copyItems(items), slices.Clone(prices)
	got, ok := impl.Cost(items, prices, at, qty, day)
	other, otherOk := wantCost(items, prices, at, qty, day)
	if !ok || got != want {
		t.Errorf("Cost(%v, %v, %d, %d, %d) = %d, %v; want %d", shortItems(items), prices[:min(8, len(prices))], at, qty, day, got, ok, want)
	} else if !otherOk || other != want {
		t.Errorf("the other way Cost(%v, %v, %d, %d, %d) = %d, %v; want %d", shortItems(items), prices[:min(8, len(prices))], at, qty, day, other, otherOk, want)
	}
	if !sameItems(items, kept) || !slices.Equal(prices, keptPrices) {
		t.Fatalf("Cost(%v, %v, %d, %d, %d) wrote into its arguments", shortItems(kept), keptPrices, at, qty, day)
	}
}

func refuseCost(t *testing.T, items []impl.Item, prices []int, at, qty, day int) {
	t.Helper()
	_, otherOk := wantCost(items, prices, at, qty, day)
	if got, ok := impl.Cost(items, prices, at, qty, day); ok || otherOk || got != 0 {
		t.Errorf("Cost(%v, %v, %d, %d, %d) = %d, %v; want 0 and false", shortItems(items), prices[:min(8, len(prices))], at, qty, day, got, ok)
	}
}

func TestCostByHand(t *testing.T) {
	bench, prices := handBench(), []int{9, 9, 9, 9, 1, 10, 2}
	checkCost(t, bench, prices, 0, 3, 5, 124+6*10-4*2)
	checkCost(t, bench, prices, 0, 0, 5, 0)
	checkCost(t, bench, prices, 1, 3, 5, 100+6*10-4*2)
	checkCost(t, bench, prices, 2, 13, 5, 9*10-6*2)
	checkCost(t, bench, prices, 3, 11, 5, 200)
	checkCost(t, bench, prices, 5, 7, 5, 70)
	// What is made has no price, only what is bought for it; each price counts just there.
	for i, n := range []int{0, 0, 0, 0, 124, 6} {
		one := make([]int, len(bench))
		one[i] = 7
		checkCost(t, bench, one, 0, 3, 5, 7*n)
		one[i] = impl.MaxPrice
		checkCost(t, bench, one, 0, 3, 5, impl.MaxPrice*n)
	}
	checkCost(t, bench, make([]int, len(bench)), 0, 3, 5, 0)
}

func TestCostOfWhatIsBought(t *testing.T) {
	items := goodsOf(madeOf(6), bringing(madeOf(6), takes(2, 5)), madeOf(impl.MaxQty))
	for at, price := range []int{0, 12, impl.MaxPrice} {
		for _, qty := range []int{0, 1, 5, 6, 7, impl.MaxQty - 1, impl.MaxQty} {
			checkCost(t, items, []int{0, 12, impl.MaxPrice}, at, qty, 5, qty*price)
		}
	}
}

func TestPricesOfItems(t *testing.T) {
	bench := handBench()
	for at := range bench {
		for _, none := range noPrices {
			prices := repeated(10, len(bench))
			prices[at] = none
			for asked := range bench {
				refuseCost(t, bench, prices, asked, 3, 5)
			}
			refuseCost(t, bench, prices, 0, 0, 5)
		}
		for _, price := range []int{0, 1, impl.MaxPrice - 1, impl.MaxPrice} {
			prices := repeated(10, len(bench))
			prices[at] = price
			if want := 124*prices[4] + 6*prices[5] - 4*prices[6]; want >= 0 {
				checkCost(t, bench, prices, 0, 3, 5, want)
			} else {
				refuseCost(t, bench, prices, 0, 3, 5)
			}
		}
	}
	for count := range 2*len(bench) + 1 {
		prices := repeated(10, count)
		if count == len(bench) {
			checkCost(t, bench, prices, 0, 3, 5, 1240+60-40)
			continue
		}
		refuseCost(t, bench, prices, 0, 3, 5)
		refuseCost(t, bench, prices, 0, 0, 5)
		refuseCost(t, bench, prices, 4, 3, 5)
	}
	refuseCost(t, bench, nil, 0, 3, 5)
}

func TestWhatComesOutBesideIsTakenOff(t *testing.T) {
	items := goodsOf(bringing(madeOf(5, takes(2, 3)), takes(1, 2)), madeOf(1), madeOf(1))
	checkCost(t, items, []int{1, 10, 20}, 0, 7, 4, 120-40)
	checkCost(t, items, []int{1, 29, 20}, 0, 7, 4, 4)
	checkCost(t, items, []int{1, 30, 20}, 0, 7, 4, 0)
	refuseCost(t, items, []int{1, 31, 20}, 0, 7, 4)
	refuseCost(t, items, []int{1, 1, 0}, 0, 1, 4)
	checkCost(t, items, []int{1, 31, 20}, 0, 0, 4, 0)
	// The same Item twice, one of them on its day; what comes out is no less for what is made of it elsewhere.
	twice := goodsOf(bringing(madeOf(1, takes(1, 9)), takes(1, 2), takesOn(6, 6, 1, 3), takesOn(6, 6, 2, 1)), madeOf(1), madeOf(1, takes(3, 1)), madeOf(1))
	checkCost(t, twice, []int{0, 10, 5, 1000}, 0, 4, 5, 360-80)
	checkCost(t, twice, []int{0, 10, 5, 1000}, 0, 4, 6, 360-200-20)
	checkCost(t, twice, []int{0, 10, 5, 1000}, 2, 4, 6, 4000)
}

// Also of what is made on the way, for as much as there must be of it, in whole batches.
func TestWhatComesOutOnTheWay(t *testing.T) {
	items := goodsOf(
		madeOf(1, takes(1, 1), takes(2, 3)),
		phantomOf(1, takes(2, 2)),
		bringing(madeOf(4, takes(4, 10)), takes(3, 6), takes(5, 1)),
		bringing(madeOf(1, takes(4, 1)), takes(5, 100)),
		madeOf(1),
		madeOf(1),
	)
	prices := []int{7, 7, 7, 4, 10, 3}
	checkCost(t, items, prices, 0, 1, 5, 200-2*(6*4+3))
	checkCost(t, items, prices, 0, 4, 5, 500-5*(6*4+3))
	checkCost(t, items, prices, 1, 3, 5, 200-2*(6*4+3))
	checkCost(t, items, prices, 2, 9, 5, 300-3*(6*4+3))
	refuseCost(t, items, prices, 3, 1, 5)
	checkCost(t, items, []int{7, 7, 7, 4, 300, 3}, 3, 2, 5, 600-200*3)
	// What is taken of a yield elsewhere is bought at its price.
	items[0].Parts = append(items[0].Parts, takes(5, 8))
	checkCost(t, items, prices, 0, 1, 5, 200+24-2*(6*4+3))
}

func TestCostOnDays(t *testing.T) {
	items := goodsOf(
		bringing(madeOf(1, takesOn(3, 6, 1, 2), grouped(1, takesOn(5, 9, 2, 1)), grouped(1, takesOn(0, 7, 3, 1))), takesOn(6, 9, 3, 1)),
		bringing(madeOf(1, takesOn(4, 9, 2, 3)), takes(3, 1)),
		madeOf(1),
		madeOf(1),
	)
	prices := []int{1000, 100, 10, 1}
	for day, want := range []int{1, 1, 1, 201, 59, 68, 67, 9, 9, 9, 1000, 1000} {
		checkCost(t, items, prices, 0, 1, day, want)
		checkCost(t, items, prices, 0, 7, day, 7*want)
	}
	// Without Parts that count it is bought, and brings nothing.
	for day, want := range []int{100, 100, 100, 100, 29, 29, 29, 29, 29, 29, 100} {
		checkCost(t, items, prices, 1, 1, day, want)
	}
}

func TestCostsAtTheEdgeOfTheAmounts(t *testing.T) {
	top, dear := impl.MaxQty, impl.MaxPrice
	full := goodsOf(madeOf(1, takes(1, top), takes(2, 1)), madeOf(1), madeOf(1), madeOf(1))
	checkCost(t, full, []int{0, dear, 0, 0}, 0, 1, 5, impl.MaxMoney)
	refuseCost(t, full, []int{0, dear, 1, 0}, 0, 1, 5)
	checkCost(t, full, []int{0, dear - 1, dear, 0}, 0, 1, 5, impl.MaxMoney-top+dear)
	refuseCost(t, full, []int{0, dear, dear, 0}, 0, 1, 5)
	for _, list := range [][]impl.Part{{takes(1, top), takes(2, top)}, {takes(1, top), takes(2, top), takes(3, top)}} {
		refuseCost(t, goodsOf(madeOf(1, list...), madeOf(1), madeOf(1), madeOf(1)), repeated(dear, 4), 0, 1, 5)
	}
	// More than an amount on the way, and just one at the end.
	late := goodsOf(madeOf(1, takes(1, top), takes(2, 1), takes(3, 1)), madeOf(1), madeOf(1), bringing(madeOf(1, takes(4, 1)), takes(5, 1)), madeOf(1), madeOf(1))
	for more := 1; more <= 3; more++ {
		checkCost(t, late, []int{0, dear, more, 0, 0, more}, 0, 1, 5, impl.MaxMoney)
		checkCost(t, late, []int{0, dear, more, 0, 0, more + 1}, 0, 1, 5, impl.MaxMoney-1)
		refuseCost(t, late, []int{0, dear, more + 1, 0, 0, more}, 0, 1, 5)
		refuseCost(t, late, []int{0, dear, more, 0, 1, more}, 0, 1, 5)
	}
	// As much is taken off ahead of it.
	for _, owner := range []int{0, 1, 2} {
		items := goodsOf(madeOf(1, takes(1, 1), takes(2, 1), takes(3, top), takes(4, 1)), madeOf(1, takes(5, 1)), madeOf(1, takes(5, 1)), madeOf(1), madeOf(1), madeOf(1))
		for beside := 1; beside <= 4; beside++ {
			items[owner].Also = []impl.Part{takes(5, beside)}
			if beside >= 3 {
				checkCost(t, items, []int{0, 0, 0, dear, 1, 1}, 0, 1, 5, impl.MaxMoney+3-beside)
			} else {
				refuseCost(t, items, []int{0, 0, 0, dear, 1, 1}, 0, 1, 5)
			}
		}
	}
}

func TestCostsBelowNothingOnTheWay(t *testing.T) {
	top, dear := impl.MaxQty, impl.MaxPrice
	// All that is bought is told behind what comes out, or ahead of it.
	for _, spread := range []int{1, 2, 3} {
		items := goodsOf(bringing(madeOf(1, takes(3, top), takes(4, spread)), takes(1, top), takes(2, spread)), madeOf(1), madeOf(1), madeOf(1), madeOf(1))
		checkCost(t, items, []int{0, dear, 0, dear, 0}, 0, 1, 5, 0)
		checkCost(t, items, []int{0, dear, 0, dear, 1}, 0, 1, 5, spread)
		refuseCost(t, items, []int{0, dear, 1, dear, 0}, 0, 1, 5)
		checkCost(t, items, []int{0, dear, 1, dear, 1}, 0, 1, 5, 0)
		checkCost(t, items, []int{0, 0, 0, dear, 0}, 0, 1, 5, impl.MaxMoney)
		refuseCost(t, items, []int{0, 0, 0, dear, 1}, 0, 1, 5)
		refuseCost(t, items, []int{0, dear, dear, 0, 0}, 0, 1, 5)
	}
	behind := goodsOf(madeOf(1, takes(1, top), takes(2, 1)), madeOf(1), bringing(madeOf(1, takes(4, 1)), takes(3, 5)), madeOf(1), madeOf(1))
	checkCost(t, behind, []int{0, dear, 0, 2, 10}, 0, 1, 5, impl.MaxMoney)
	refuseCost(t, behind, []int{0, dear, 0, 2, 11}, 0, 1, 5)
	checkCost(t, behind, []int{0, dear, 0, 2, 9}, 0, 1, 5, impl.MaxMoney-1)
}

func TestCostsThatAreNone(t *testing.T) {
	top := impl.MaxQty
	bench, prices := handBench(), repeated(10, 7)
	for _, at := range append([]int{len(bench)}, farPlaces...) {
		refuseCost(t, bench, prices, at, 3, 5)
		refuseCost(t, bench, prices, at, 0, 5)
	}
	for at := range bench {
		for _, qty := range noQtys {
			refuseCost(t, bench, prices, at, qty, 5)
		}
		for _, day := range noDays {
			refuseCost(t, bench, prices, at, 3, day)
		}
	}
	// An Explode that is false, one step down and far down, whatever it would cost.
	chain := goodsOf(madeOf(1, takes(1, 1000)), madeOf(1, takes(2, 1000)), madeOf(1))
	checkCost(t, chain, []int{0, 0, 3}, 0, 1, 5, 3*top)
	refuseCost(t, chain, []int{0, 0, 3}, 0, 2, 5)
	refuseCost(t, chain, []int{0, 0, 0}, 0, 2, 5)
	// An Output that is false, of the item itself and on the way, whatever that would be worth.
	for _, most := range []int{500, top} {
		yields := goodsOf(madeOf(1, takes(1, 1)), bringing(madeOf(1, takes(3, 1)), takes(2, most)), madeOf(1), madeOf(1))
		for at := range 2 {
			checkCost(t, yields, []int{0, 0, 0, 9}, at, top/most, 5, 9*(top/most))
			refuseCost(t, yields, []int{0, 0, 0, 9}, at, top/most+1, 5)
		}
		// Where nothing is made, nothing comes out that could be too much.
		yields[1].Parts[0].Last = 4
		checkCost(t, yields, []int{0, 2, 0, 9}, 0, top, 5, 2*top)
		yields[1].Also[0].Last = 4
		yields[1].Parts[0].Last = 9
		checkCost(t, yields, []int{0, 2, 0, 9}, 0, top, 5, 9*top)
	}
}

// Where nothing comes out beside, Cost is the price of what is bought, and twice the prices are twice the cost.
func checkCostOfBought(t *testing.T, items []impl.Item, prices []int, at, qty, day int) bool {
	t.Helper()
	there, ok := impl.Explode(items, at, qty, day)
	if !ok {
		return false
	}
	want, twice := 0, slices.Clone(prices)
	for i, n := range there {
		twice[i] *= 2
		if !isMadeOn(items[i], day) {
			want += n * prices[i]
		}
	}
	if 2*want > impl.MaxMoney {
		return false
	}
	checkCost(t, items, prices, at, qty, day, want)
	checkCost(t, items, twice, at, qty, day, 2*want)
	return true
}

func TestCostIsThePriceOfWhatIsBought(t *testing.T) {
	chance := rand.New(rand.NewSource(177))
	told := 0
	for range 6000 {
		items := someItems(chance, []int{3, 40, 3000}[chance.Intn(3)])
		prices := make([]int, len(items))
		for i := range items {
			items[i].Also = nil
			prices[i] = chance.Intn([]int{2, 90, impl.MaxPrice / 2}[chance.Intn(3)] + 1)
		}
		if checkCostOfBought(t, items, prices, chance.Intn(len(items)), chance.Intn(60), chance.Intn(12)) {
			told++
		}
	}
	if told < 3000 {
		t.Errorf("%d told", told)
	}
}

func TestSomeCosts(t *testing.T) {
	chance := rand.New(rand.NewSource(178))
	told, none := 0, 0
	for range 12000 {
		items := someItems(chance, []int{3, 40, 3000, impl.MaxQty}[chance.Intn(4)])
		prices := make([]int, len(items))
		for i := range prices {
			prices[i] = chance.Intn([]int{2, 90, impl.MaxPrice}[chance.Intn(3)] + 1)
		}
		if chance.Intn(20) == 0 {
			prices[chance.Intn(len(prices))] = noPrices[chance.Intn(len(noPrices))]
		}
		at, qty, day := chance.Intn(len(items)), chance.Intn([]int{9, 2000}[chance.Intn(2)]), chance.Intn(12)
		if want, ok := wantCost(items, prices, at, qty, day); ok {
			checkCost(t, items, prices, at, qty, day, want)
			told++
		} else {
			refuseCost(t, items, prices, at, qty, day)
			none++
		}
	}
	if told < 3000 || none < 1500 {
		t.Errorf("%d told, %d not", told, none)
	}
}

func TestCostLeavesItsArguments(t *testing.T) {
	items := roomyItems(handBench())
	kept := allRoom(items)
	prices := []int{9, 9, 9, 9, 1, 10, 2, math.MinInt, -1}
	for range 2 {
		checkCost(t, items, prices[:7], 0, 3, 5, 176)
		refuseCost(t, items, prices[:8], 0, 3, 5)
		refuseCost(t, items[:8], prices[:8], 0, 3, 5)
	}
	if !sameItems(allRoom(items), kept) || !slices.Equal(prices, []int{9, 9, 9, 9, 1, 10, 2, math.MinInt, -1}) {
		t.Error("the arguments were written into")
	}
}
