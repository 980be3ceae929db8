package tests

import (
	"maps"
	"math/rand"
	"slices"
	"strings"
	"testing"

	"loop.example/g00040/impl"
)

func wantReceive(stock []impl.Cell, c impl.Cell) ([]impl.Cell, int) {
	if !wantStockOk(stock) {
		return nil, impl.StockBad
	}
	if !wantCellOk(c) || c.Held != 0 {
		return stock, impl.StockNone
	}
	all, fits := laidInto(stock, c)
	if !fits {
		return stock, impl.StockFull
	}
	return all, impl.StockDone
}

func checkReceive(t *testing.T, stock []impl.Cell, c impl.Cell, want ...impl.Cell) []impl.Cell {
	t.Helper()
	got, told := impl.Receive(stock, c)
	wanted, wantTold := wantReceive(stock, c)
	if told != impl.StockDone || wantTold != told || !slices.Equal(got, want) || !slices.Equal(wanted, want) {
		t.Errorf("Receive(%v, %v) = %v, %d; want %v, StockDone", stock[:min(6, len(stock))], c, got[:min(6, len(got))], told, want[:min(6, len(want))])
		return got
	}
	// P42: of that item there is more by what came, and of no other.
	items := itemsOf(stock)
	items[c.Item] += c.Qty
	if !impl.StockOk(got) || !maps.Equal(itemsOf(got), items) {
		t.Errorf("Receive(%v, %v) = %v: there is another quantity", stock, c, got)
	}
	return got
}

func refuseReceive(t *testing.T, stock []impl.Cell, c impl.Cell, want int) {
	t.Helper()
	got, told := impl.Receive(stock, c)
	_, wantTold := wantReceive(stock, c)
	if told != want || wantTold != want || !slices.Equal(got, stock) {
		t.Errorf("Receive(%v, %v) = %v, %d; want the stock, %d", stock[:min(6, len(stock))], c, got[:min(6, len(got))], told, want)
	}
}

func cellOf(text string) impl.Cell { return cellsOf(text)[0] }

func TestReceiveByHand(t *testing.T) {
	stock := cellsOf("i p * 9 5 2, i q * 7 4 0")
	checkReceive(t, stock, cellOf("i p L 3 1 0"), cellsOf("i p * 9 5 2, i q * 7 4 0, i p L 3 1 0")...)
	checkReceive(t, stock, cellOf("i p * 3 1 0"), cellsOf("i p * 9 6 2, i q * 7 4 0")...)
	checkReceive(t, stock, cellOf("i q * 3 8 0"), cellsOf("i p * 9 5 2, i q * 7 12 0")...)
	checkReceive(t, stock, cellOf("k q * 3 8 0"), cellsOf("i p * 9 5 2, i q * 7 4 0, k q * 3 8 0")...)
	checkReceive(t, stock, cellOf("i r * 3 8 0"), cellsOf("i p * 9 5 2, i q * 7 4 0, i r * 3 8 0")...)
	checkReceive(t, nil, cellOf("i r * 3 8 0"), cellOf("i r * 3 8 0"))
	refuseReceive(t, stock, cellOf("i p * 3 1 1"), impl.StockNone)
	refuseReceive(t, stock, impl.Cell{}, impl.StockNone)
}

func TestReceiveIntoEachCell(t *testing.T) {
	for at, there := range handStock() {
		for _, qty := range []int{0, 1, 7, impl.MaxQty - there.Qty} {
			for _, expiry := range []int{0, there.Expiry, impl.MaxDay} {
				want := handStock()
				want[at].Qty += qty
				checkReceive(t, handStock(), impl.Cell{Item: there.Item, Place: there.Place, Lot: there.Lot, Expiry: expiry, Qty: qty}, want...)
			}
		}
		// With only two of the three the same it is a new cell.
		for _, c := range []impl.Cell{
			{Item: "new", Place: there.Place, Lot: there.Lot, Expiry: 5, Qty: 3},
			{Item: there.Item, Place: "new", Lot: there.Lot, Expiry: 5, Qty: 3},
			{Item: there.Item, Place: there.Place, Lot: "new", Expiry: 5, Qty: 3},
			{Item: there.Item, Place: there.Place, Lot: "New", Expiry: 0, Qty: 0},
		} {
			checkReceive(t, handStock(), c, append(handStock(), c)...)
		}
	}
}

func TestCellsThatMayNotBeReceived(t *testing.T) {
	lists := [][]impl.Cell{nil, handStock(), manyCells(impl.MaxCells)}
	refuse := func(change func(c *impl.Cell)) {
		t.Helper()
		for _, stock := range lists {
			for _, c := range []impl.Cell{cellOf("nuts a L1 9 5 0"), cellOf("new b * 9 5 0"), cellOf("nuts a L1 9 1000000 0")} {
				change(&c)
				refuseReceive(t, stock, c, impl.StockNone)
			}
		}
	}
	for _, name := range noNames {
		refuse(func(c *impl.Cell) { c.Item = name })
		refuse(func(c *impl.Cell) { c.Place = name })
		if name != "" {
			refuse(func(c *impl.Cell) { c.Lot = name })
		}
	}
	for _, day := range noDays {
		refuse(func(c *impl.Cell) { c.Expiry = day })
	}
	for _, qty := range noQtys {
		refuse(func(c *impl.Cell) { c.Qty = qty })
		refuse(func(c *impl.Cell) { c.Qty, c.Held = qty, qty })
		refuse(func(c *impl.Cell) { c.Held = qty })
	}
	for _, held := range []int{1, 2, 4, 5, 6} {
		refuse(func(c *impl.Cell) { c.Held = held })
	}
	refuse(func(c *impl.Cell) { c.Held = c.Qty })
	refuse(func(c *impl.Cell) { *c = impl.Cell{} })
	for _, day := range []int{0, impl.MaxDay} {
		for _, name := range []string{"Z", strings.Repeat("n", impl.MaxName)} {
			c := impl.Cell{Item: name, Place: name, Lot: name, Expiry: day, Qty: impl.MaxQty}
			checkReceive(t, handStock(), c, append(handStock(), c)...)
		}
	}
}

func TestReceiveIntoAFullStock(t *testing.T) {
	full := manyCells(impl.MaxCells)
	for _, c := range cellsOf("nuts a * 50 1 0, nuts b L0 50 0 0, new a L0 50 1 0, nuts a L100 50 1000000 0") {
		refuseReceive(t, full, c, impl.StockFull)
		checkReceive(t, full[1:], c, append(slices.Clone(full[1:]), c)...)
	}
	for at := range full {
		want := slices.Clone(full)
		want[at].Qty = impl.MaxQty
		c := full[at]
		c.Qty, c.Held = impl.MaxQty-10, 0
		checkReceive(t, full, c, want...)
		c.Qty++
		refuseReceive(t, full, c, impl.StockFull)
	}
}

func TestReceiveIntoAFullCell(t *testing.T) {
	stock := cellsOf("i p * 9 1000000 0, i q * 9 999999 5, i r * 9 0 0")
	for qty, told := range []int{impl.StockDone, impl.StockFull, impl.StockFull} {
		c := impl.Cell{Item: "i", Place: "p", Expiry: 4, Qty: qty}
		if told == impl.StockDone {
			checkReceive(t, stock, c, stock...)
		} else {
			refuseReceive(t, stock, c, told)
		}
	}
	checkReceive(t, stock, cellOf("i q * 9 1 0"), cellsOf("i p * 9 1000000 0, i q * 9 1000000 5, i r * 9 0 0")...)
	refuseReceive(t, stock, cellOf("i q * 9 2 0"), impl.StockFull)
	refuseReceive(t, stock, cellOf("i q * 9 1000000 0"), impl.StockFull)
	checkReceive(t, stock, cellOf("i r * 9 1000000 0"), cellsOf("i p * 9 1000000 0, i q * 9 999999 5, i r * 9 1000000 0")...)
	// What is wrong by itself is told ahead of what is full.
	refuseReceive(t, stock, cellOf("i q * 9 2 1"), impl.StockNone)
	refuseReceive(t, stock, cellOf("i q * 40001 2 0"), impl.StockNone)
	refuseReceive(t, manyCells(impl.MaxCells), cellOf("i q * 9 2 1"), impl.StockNone)
}

func TestSomeReceives(t *testing.T) {
	chance := rand.New(rand.NewSource(154))
	told := map[int]int{}
	for range 6000 {
		stock := someStock(chance, chance.Intn(12), []int{3, 50, impl.MaxQty}[chance.Intn(3)])
		if chance.Intn(3) == 0 {
			fillCells(chance, stock)
		}
		if chance.Intn(8) == 0 && len(stock) > 0 {
			spoilStock(chance, stock)
		}
		c := someStock(chance, 1, []int{3, 50, impl.MaxQty}[chance.Intn(3)])[0]
		if chance.Intn(2) == 0 {
			c.Held = 0
		}
		if chance.Intn(6) == 0 {
			list := []impl.Cell{c}
			spoilStock(chance, list)
			c = list[0]
		}
		want, code := wantReceive(stock, c)
		told[code]++
		switch code {
		case impl.StockDone:
			checkReceive(t, stock, c, want...)
		case impl.StockBad:
			checkStock(t, false, stock...)
		default:
			refuseReceive(t, stock, c, code)
		}
	}
	for _, code := range []int{impl.StockDone, impl.StockBad, impl.StockNone, impl.StockFull} {
		if told[code] < 50 {
			t.Errorf("%d told %d times", code, told[code])
		}
	}
}

// Behind the stock stands more, which is neither read nor written; what is answered is new each time, also what is refused.
func TestReceiveLeavesItsStock(t *testing.T) {
	stock := append(cellsOf("i p * 9 5 2, i q * 7 4 0"), impl.Cell{}, impl.Cell{Item: "i", Place: "r"})
	kept := slices.Clone(stock)
	for range 2 {
		overwrite(checkReceive(t, stock[:2], cellOf("i q * 1 3 0"), cellsOf("i p * 9 5 2, i q * 7 7 0")...))
		overwrite(checkReceive(t, stock[:2], cellOf("i r * 1 3 0"), cellsOf("i p * 9 5 2, i q * 7 4 0, i r * 1 3 0")...))
		overwrite(checkReceive(t, stock[:0], cellOf("i r * 1 3 0"), cellOf("i r * 1 3 0")))
		for _, c := range []impl.Cell{{}, cellOf("i p * 9 1 1"), cellOf("i p * 9 1000000 0")} {
			refused, _ := impl.Receive(stock[:2], c)
			overwrite(refused)
		}
		refuseReceive(t, stock[:2], cellOf("i p * 9 999996 0"), impl.StockFull)
		if !slices.Equal(stock, kept) {
			t.Fatal("a stock was written into")
		}
	}
}
