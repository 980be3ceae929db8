package tests

import (
	"math"
	"math/rand"
	"slices"
	"testing"

	"loop.example/g00040/impl"
)

// What may be taken of a cell.
func pickable(c impl.Cell, item string, day int) int {
	if c.Item != item || c.Expiry < day {
		return 0
	}
	return c.Qty - c.Held
}

// Nothing is sorted: of each cell it is counted how much may be taken ahead of it, and from how many cells.
func wantPicks(stock []impl.Cell, item string, qty, day int) []impl.Pick {
	if !wantStockOk(stock) || qty < 1 || qty > impl.MaxQty || !isDay(day) {
		return nil
	}
	all := 0
	for _, c := range stock {
		all += pickable(c, item, day)
	}
	if all < qty {
		return nil
	}
	picks := make([]impl.Pick, len(stock))
	for i, c := range stock {
		cells, ahead := 0, 0
		for k, other := range stock {
			if there := pickable(other, item, day); there > 0 && (other.Expiry < c.Expiry || other.Expiry == c.Expiry && k < i) {
				cells, ahead = cells+1, ahead+there
			}
		}
		if taken := min(pickable(c, item, day), qty-ahead); taken > 0 {
			picks[cells] = impl.Pick{At: i, Qty: taken}
		}
	}
	return slices.DeleteFunc(picks, func(p impl.Pick) bool { return p.Qty == 0 })
}

// P43: what is taken is just as much, of cells that may be used and are free, and none that is left expires ahead of one that is taken; held and shipped it is gone once.
func checkPicksPromise(t *testing.T, stock []impl.Cell, item string, qty, day int, picks []impl.Pick) {
	t.Helper()
	taken, left := 0, slices.Clone(stock)
	for _, p := range picks {
		if c := stock[p.At]; p.Qty < 1 || p.Qty > pickable(c, item, day) {
			t.Errorf("Picks(%v, %s, %d, %d) = %v: cell %d has not as much", stock, item, qty, day, picks, p.At)
		}
		taken += p.Qty
		left[p.At].Qty -= p.Qty
	}
	if taken != qty {
		t.Errorf("Picks(%v, %s, %d, %d) = %v: that is %d", stock, item, qty, day, picks, taken)
	}
	for _, p := range picks {
		for _, c := range left {
			if pickable(c, item, day) > 0 && c.Expiry < stock[p.At].Expiry {
				t.Errorf("Picks(%v, %s, %d, %d) = %v: what expires ahead of cell %d is left", stock, item, qty, day, picks, p.At)
			}
		}
	}
	held, told := impl.Hold(stock, picks)
	gone, toldGone := impl.Ship(held, picks)
	if told != impl.StockDone || toldGone != impl.StockDone || !slices.Equal(gone, left) || itemsOf(gone)[item] != itemsOf(stock)[item]-qty {
		t.Errorf("Picks(%v, %s, %d, %d) = %v; held they are %v, %d, shipped %v, %d", stock, item, qty, day, picks, held, told, gone, toldGone)
	}
	// Less than what is missing may be found elsewhere, but what is gone is not found again.
	free := 0
	for _, c := range left {
		free += pickable(c, item, day)
	}
	if more := impl.Picks(gone, item, free+1, day); len(more) != 0 {
		t.Errorf("Picks(%v, %s, %d, %d) = %v; behind them %v is found", stock, item, qty, day, picks, more)
	}
}

func checkPicks(t *testing.T, stock []impl.Cell, item string, qty, day int, want ...impl.Pick) {
	t.Helper()
	got := impl.Picks(stock, item, qty, day)
	if !slices.Equal(got, want) || !slices.Equal(wantPicks(stock, item, qty, day), want) || len(want) == 0 {
		t.Errorf("Picks(%v, %q, %d, %d) = %v; want %v", stock[:min(8, len(stock))], item, qty, day, got[:min(8, len(got))], want[:min(8, len(want))])
		return
	}
	checkPicksPromise(t, stock, item, qty, day, got)
}

func noPicks(t *testing.T, stock []impl.Cell, item string, qty, day int) {
	t.Helper()
	if got := impl.Picks(stock, item, qty, day); len(got) != 0 || len(wantPicks(stock, item, qty, day)) != 0 {
		t.Errorf("Picks(%v, %q, %d, %d) = %v; want nothing", stock[:min(8, len(stock))], item, qty, day, got[:min(8, len(got))])
	}
}

func TestPicksByHand(t *testing.T) {
	stock := cellsOf("i p * 9 5 2, i q * 7 4 0")
	checkPicks(t, stock, "i", 5, 7, picksOf("1 4, 0 1")...)
	checkPicks(t, stock, "i", 4, 7, picksOf("1 4")...)
	checkPicks(t, stock, "i", 1, 7, picksOf("1 1")...)
	checkPicks(t, stock, "i", 7, 0, picksOf("1 4, 0 3")...)
	checkPicks(t, stock, "i", 3, 8, picksOf("0 3")...)
	noPicks(t, stock, "i", 8, 7)
	noPicks(t, stock, "i", 4, 8)
	noPicks(t, stock, "i", 1, 10)
	hand := handStock()
	checkPicks(t, hand, "nuts", 8, 0, picksOf("1 4, 0 3, 4 1")...)
	checkPicks(t, hand, "nuts", 8, 7, picksOf("1 4, 0 3, 4 1")...)
	checkPicks(t, hand, "nuts", 4, 8, picksOf("0 3, 4 1")...)
	checkPicks(t, hand, "nuts", 1, 10, picksOf("4 1")...)
	checkPicks(t, hand, "bolts", 7, 20, picksOf("3 7")...)
	noPicks(t, hand, "nuts", 9, 0)
	noPicks(t, hand, "bolts", 8, 20)
	noPicks(t, hand, "bolts", 1, 21)
	noPicks(t, hand, "tea", 1, 0)
}

func TestPicksOfOneExpiry(t *testing.T) {
	stock := cellsOf("i a * 9 2 0, i b L 8 3 0, i c * 9 4 0, i d * 8 5 0, i e * 9 6 0, i a L 8 7 0")
	checkPicks(t, stock, "i", 27, 0, picksOf("1 3, 3 5, 5 7, 0 2, 2 4, 4 6")...)
	checkPicks(t, stock, "i", 26, 8, picksOf("1 3, 3 5, 5 7, 0 2, 2 4, 4 5")...)
	checkPicks(t, stock, "i", 18, 8, picksOf("1 3, 3 5, 5 7, 0 2, 2 1")...)
	checkPicks(t, stock, "i", 17, 8, picksOf("1 3, 3 5, 5 7, 0 2")...)
	checkPicks(t, stock, "i", 16, 8, picksOf("1 3, 3 5, 5 7, 0 1")...)
	checkPicks(t, stock, "i", 15, 8, picksOf("1 3, 3 5, 5 7")...)
	checkPicks(t, stock, "i", 12, 9, picksOf("0 2, 2 4, 4 6")...)
	noPicks(t, stock, "i", 28, 0)
	noPicks(t, stock, "i", 13, 9)
	// Neither the greatest nor the least cell of one Expiry comes first, nor one by its names.
	checkPicks(t, cellsOf("i z * 5 2 0, i a * 5 9 0, i m * 5 1 0"), "i", 12, 5, picksOf("0 2, 1 9, 2 1")...)
	same := manyCells(impl.MaxCells)
	want := []impl.Pick{}
	for i := range same {
		want = append(want, impl.Pick{At: i, Qty: 6})
	}
	checkPicks(t, same, "nuts", 6*impl.MaxCells, 50, want...)
	noPicks(t, same, "nuts", 6*impl.MaxCells+1, 50)
	noPicks(t, same, "nuts", 1, 51)
}

func TestPicksOfTheDayOfExpiry(t *testing.T) {
	for _, day := range []int{1, 2, 100, impl.MaxDay - 1} {
		stock := []impl.Cell{
			{Item: "i", Place: "a", Expiry: day - 1, Qty: 3},
			{Item: "i", Place: "b", Expiry: day + 1, Qty: 3},
			{Item: "i", Place: "c", Expiry: day, Qty: 3},
		}
		checkPicks(t, stock, "i", 9, day-1, picksOf("0 3, 2 3, 1 3")...)
		checkPicks(t, stock, "i", 6, day, picksOf("2 3, 1 3")...)
		checkPicks(t, stock, "i", 3, day+1, picksOf("1 3")...)
		noPicks(t, stock, "i", 7, day)
		noPicks(t, stock, "i", 4, day+1)
	}
	checkPicks(t, cellsOf("i a * 0 1 0"), "i", 1, 0, picksOf("0 1")...)
	noPicks(t, cellsOf("i a * 0 1 0"), "i", 1, 1)
	checkPicks(t, cellsOf("i a * 40000 1 0"), "i", 1, impl.MaxDay, picksOf("0 1")...)
	noPicks(t, cellsOf("i a * 39999 1 0"), "i", 1, impl.MaxDay)
}

func TestPicksOfWhatIsHeld(t *testing.T) {
	for held := range 6 {
		stock := []impl.Cell{{Item: "i", Place: "a", Expiry: 3, Qty: 5, Held: held}, {Item: "i", Place: "b", Expiry: 4, Qty: 5, Held: 5}, {Item: "i", Place: "c", Expiry: 5, Qty: 5, Held: 1}, {Item: "i", Place: "d", Expiry: 2}}
		want := []impl.Pick{{At: 0, Qty: 5 - held}, {At: 2, Qty: 4}}
		if held == 5 {
			want = want[1:]
		}
		checkPicks(t, stock, "i", 9-held, 0, want...)
		noPicks(t, stock, "i", 10-held, 0)
		if held < 5 {
			checkPicks(t, stock, "i", 5-held, 0, want[0])
		}
	}
	noPicks(t, cellsOf("i a * 5 5 5, i b * 5 0 0"), "i", 1, 0)
}

func TestPicksOfQuantities(t *testing.T) {
	stock := cellsOf("i a * 5 1000000 0, i b * 6 1000000 1, k a * 1 5 0")
	for _, qty := range []int{1, 2, impl.MaxQty - 1, impl.MaxQty} {
		checkPicks(t, stock, "i", qty, 5, impl.Pick{At: 0, Qty: qty})
	}
	checkPicks(t, stock, "i", impl.MaxQty-1, 6, impl.Pick{At: 1, Qty: impl.MaxQty - 1})
	noPicks(t, stock, "i", impl.MaxQty, 6)
	for _, qty := range noQtysAbove0 {
		noPicks(t, stock, "i", qty, 5)
		noPicks(t, stock, "i", qty, 0)
		noPicks(t, nil, "i", qty, 0)
	}
	halves := cellsOf("i a * 5 500001 0, i b * 4 500000 0")
	checkPicks(t, halves, "i", impl.MaxQty, 0, picksOf("1 500000, 0 500000")...)
	noPicks(t, halves, "i", impl.MaxQty+1, 0)
	for _, day := range noDays {
		noPicks(t, stock, "i", 1, day)
	}
}

func TestPicksOfItems(t *testing.T) {
	stock := cellsOf("i a * 5 5 0, k a * 3 5 0, ii a * 2 5 0, I a * 1 5 0")
	checkPicks(t, stock, "i", 5, 0, picksOf("0 5")...)
	checkPicks(t, stock, "k", 5, 0, picksOf("1 5")...)
	checkPicks(t, stock, "ii", 5, 0, picksOf("2 5")...)
	checkPicks(t, stock, "I", 5, 0, picksOf("3 5")...)
	for _, item := range []string{"i", "k", "ii", "I"} {
		noPicks(t, stock, item, 6, 0)
	}
	for _, item := range append([]string{"a", "j", "K", "iii", "*"}, noNames...) {
		noPicks(t, stock, item, 1, 0)
		noPicks(t, nil, item, 1, 0)
	}
}

func TestPicksOfWrongStocks(t *testing.T) {
	for at := range handStock() {
		for _, change := range []func(c *impl.Cell){func(c *impl.Cell) { c.Place = "" }, func(c *impl.Cell) { c.Expiry = impl.MaxDay + 1 }, func(c *impl.Cell) { c.Held = c.Qty + 1 }, func(c *impl.Cell) { c.Qty = impl.MaxQty + 1 }} {
			stock := stockWith(func(stock []impl.Cell) { change(&stock[at]) })
			noPicks(t, stock, "nuts", 1, 0)
			noPicks(t, stock, "bolts", 1, 0)
		}
	}
	noPicks(t, manyCells(impl.MaxCells+1), "nuts", 1, 0)
}

func TestSomePicks(t *testing.T) {
	chance := rand.New(rand.NewSource(155))
	told, none, parts := 0, 0, 0
	for range 10000 {
		stock := someStock(chance, chance.Intn(26), []int{1, 3, 50, impl.MaxQty}[chance.Intn(4)])
		if chance.Intn(12) == 0 && len(stock) > 0 {
			spoilStock(chance, stock)
		}
		item, day := string(rune('i'+chance.Intn(2))), 8+chance.Intn(8)
		all := 0
		for _, c := range stock {
			all += pickable(c, item, day)
		}
		qty := []int{chance.Intn(12), all, all + 1, 1 + chance.Intn(max(all, 1))}[chance.Intn(4)]
		want := wantPicks(stock, item, qty, day)
		if len(want) == 0 {
			noPicks(t, stock, item, qty, day)
			none++
			continue
		}
		checkPicks(t, stock, item, qty, day, want...)
		told++
		if len(want) > 2 {
			parts++
		}
	}
	if told < 3000 || none < 2000 || parts < 1000 {
		t.Errorf("%d told, %d not, %d of more than two cells", told, none, parts)
	}
}

// Picked, held and shipped one behind the other, until nothing is left: all of it is gone, each once.
func TestPicksUntilNothingIsLeft(t *testing.T) {
	chance := rand.New(rand.NewSource(156))
	for range 200 {
		stock := someStock(chance, 14, 30)
		day := 8 + chance.Intn(6)
		first, gone := slices.Clone(stock), make([]int, len(stock))
		last := 0
		for range 1000 {
			picks := impl.Picks(stock, "i", 1+chance.Intn(4), day)
			if len(picks) == 0 {
				picks = impl.Picks(stock, "i", 1, day)
			}
			if len(picks) == 0 {
				break
			}
			for _, p := range picks {
				if stock[p.At].Expiry < last {
					t.Errorf("Picks(%v, i, .., %d) = %v: cell %d expires ahead of those that are gone", stock, day, picks, p.At)
				}
				last = stock[p.At].Expiry
				gone[p.At] += p.Qty
			}
			stock, _ = impl.Hold(stock, picks)
			stock, _ = impl.Ship(stock, picks)
		}
		for i, c := range first {
			want := c
			want.Qty -= pickable(c, "i", day)
			if stock[i] != want || gone[i] != pickable(c, "i", day) {
				t.Errorf("of %v is left %v; want %v; %d are gone", c, stock[i], want, gone[i])
			}
		}
	}
}

// Behind the stock stands more, which is neither read nor written; what is answered is new each time.
func TestPicksLeaveTheirStock(t *testing.T) {
	stock := append(cellsOf("i p * 9 5 2, i q * 7 4 0, i r * 8 1 0"), impl.Cell{}, impl.Cell{Item: "i", Place: "s", Expiry: 1, Qty: 100})
	kept := slices.Clone(stock)
	for range 2 {
		checkPicks(t, stock[:3], "i", 8, 0, picksOf("1 4, 2 1, 0 3")...)
		checkPicks(t, stock[:1], "i", 3, 0, picksOf("0 3")...)
		noPicks(t, stock[:3], "i", 9, 0)
		noPicks(t, stock, "i", 1, 0)
		first := impl.Picks(stock[:3], "i", 8, 0)
		for i := range first[:cap(first)] {
			first[:cap(first)][i] = impl.Pick{At: -7, Qty: math.MaxInt}
		}
	}
	if !slices.Equal(stock, kept) {
		t.Error("a stock was written into")
	}
}
