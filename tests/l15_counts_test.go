package tests

import (
	"math"
	"math/rand"
	"slices"
	"testing"

	"loop.example/g00040/impl"
)

func wantCounted(stock []impl.Cell, counted []int) bool {
	if !wantStockOk(stock) || len(stock) != len(counted) {
		return false
	}
	for i, n := range counted {
		if n < max(0, stock[i].Held) || n > impl.MaxQty {
			return false
		}
	}
	return true
}

// What is found, laid on what was there, is what was counted.
func checkCount(t *testing.T, stock []impl.Cell, counted []int, want ...int) {
	t.Helper()
	got := impl.Count(stock, counted)
	if !slices.Equal(got, want) || !wantCounted(stock, counted) {
		t.Errorf("Count(%v, %v) = %v; want %v", stock[:min(8, len(stock))], counted[:min(8, len(counted))], got, want)
		return
	}
	for i, n := range got {
		if stock[i].Qty+n != counted[i] {
			t.Errorf("Count(%v, %v) = %v: with %d of it cell %d has not %d", stock, counted, got, n, i, counted[i])
		}
	}
}

func noCount(t *testing.T, stock []impl.Cell, counted ...int) {
	t.Helper()
	if got := impl.Count(stock, counted); len(got) != 0 || wantCounted(stock, counted) {
		t.Errorf("Count(%v, %v) = %v; want nothing", stock[:min(8, len(stock))], counted[:min(8, len(counted))], got)
	}
}

func TestCountByHand(t *testing.T) {
	stock := cellsOf("nuts a L1 9 5 2, nuts b * 7 4 0, bolts a L1 20 10 10")
	checkCount(t, stock, []int{5, 4, 10}, 0, 0, 0)
	checkCount(t, stock, []int{6, 1, 12}, 1, -3, 2)
	checkCount(t, stock, []int{2, 0, 10}, -3, -4, 0)
	checkCount(t, stock, []int{impl.MaxQty, impl.MaxQty, impl.MaxQty}, impl.MaxQty-5, impl.MaxQty-4, impl.MaxQty-10)
	noCount(t, stock, 1, 4, 10)
	noCount(t, stock, 5, -1, 10)
	noCount(t, stock, 5, 4, 9)
	checkCount(t, nil, nil)
	checkCount(t, []impl.Cell{}, []int{})
	noCount(t, nil, 0)
}

func TestCountOfEachCell(t *testing.T) {
	stock := handStock()
	there := make([]int, len(stock))
	for i, c := range stock {
		there[i] = c.Qty
	}
	for at, c := range stock {
		for _, n := range []int{0, 1, c.Held - 1, c.Held, c.Held + 1, c.Qty - 1, c.Qty, c.Qty + 1, impl.MaxQty - 1, impl.MaxQty} {
			counted := slices.Clone(there)
			counted[at] = n
			if n < c.Held {
				noCount(t, stock, counted...)
				continue
			}
			want := make([]int, len(stock))
			want[at] = n - c.Qty
			checkCount(t, stock, counted, want...)
		}
		for _, n := range noQtys {
			counted := slices.Clone(there)
			counted[at] = n
			noCount(t, stock, counted...)
		}
	}
}

func TestCountOfTheGreatestCells(t *testing.T) {
	stock := cellsOf("nuts a * 9 1000000 0, nuts b * 9 1000000 1000000, nuts c * 9 0 0")
	checkCount(t, stock, []int{0, impl.MaxQty, impl.MaxQty}, -impl.MaxQty, 0, impl.MaxQty)
	noCount(t, stock, 0, impl.MaxQty-1, 0)
	noCount(t, stock, 0, impl.MaxQty, impl.MaxQty+1)
	noCount(t, stock, impl.MaxQty+1, impl.MaxQty, 0)
	noCount(t, stock, math.MinInt, impl.MaxQty, 0)
	noCount(t, stock, 0, math.MaxInt, 0)
	full := manyCells(impl.MaxCells)
	checkCount(t, full, repeated(12, impl.MaxCells), repeated(2, impl.MaxCells)...)
	checkCount(t, full, repeated(4, impl.MaxCells), repeated(-6, impl.MaxCells)...)
	for at := range full {
		counted := repeated(4, impl.MaxCells)
		counted[at] = 3
		noCount(t, full, counted...)
	}
}

func TestCountsOfAnotherLength(t *testing.T) {
	for cells := range 5 {
		for count := range 7 {
			if cells == count {
				checkCount(t, manyCells(cells), repeated(10, count), repeated(0, count)...)
			} else {
				noCount(t, manyCells(cells), repeated(10, count)...)
			}
		}
		noCount(t, manyCells(cells), repeated(10, 100000)...)
	}
	noCount(t, manyCells(impl.MaxCells), repeated(10, impl.MaxCells-1)...)
	noCount(t, manyCells(impl.MaxCells), repeated(10, impl.MaxCells+1)...)
	noCount(t, manyCells(impl.MaxCells+1), repeated(10, impl.MaxCells+1)...)
}

func TestCountOfWrongStocks(t *testing.T) {
	for at := range handStock() {
		for _, change := range []func(c *impl.Cell){func(c *impl.Cell) { c.Item = "" }, func(c *impl.Cell) { c.Expiry = -1 }, func(c *impl.Cell) { c.Held = c.Qty + 1 }, func(c *impl.Cell) { c.Held = -1 }} {
			stock := stockWith(func(stock []impl.Cell) { change(&stock[at]) })
			noCount(t, stock, repeated(100, len(stock))...)
		}
	}
}

func TestSomeCounts(t *testing.T) {
	chance := rand.New(rand.NewSource(151))
	told, none := 0, 0
	for range 5000 {
		stock := someStock(chance, chance.Intn(9), []int{3, 50, impl.MaxQty}[chance.Intn(3)])
		counted, want := make([]int, len(stock)), make([]int, len(stock))
		for i, c := range stock {
			want[i] = chance.Intn(impl.MaxQty-c.Qty+1) * chance.Intn(2)
			if chance.Intn(2) == 0 {
				want[i] = -chance.Intn(c.Qty - c.Held + 1)
			}
			counted[i] = c.Qty + want[i]
		}
		if chance.Intn(3) > 0 || len(stock) == 0 {
			checkCount(t, stock, counted, want...)
			told++
			continue
		}
		at := chance.Intn(len(stock))
		counted[at] = []int{stock[at].Held - 1, impl.MaxQty + 1, -1, math.MinInt, math.MaxInt}[chance.Intn(5)]
		noCount(t, stock, counted...)
		none++
	}
	if told < 1000 || none < 1000 {
		t.Errorf("%d told, %d not", told, none)
	}
}

// Behind the lists stands more, which is neither read nor written; what is answered is new each time.
func TestCountLeavesItsLists(t *testing.T) {
	stock, counted := append(handStock(), impl.Cell{}), []int{7, 4, 6, 3, 0, 9, -1, -1}
	keptStock, keptCounted := slices.Clone(stock), slices.Clone(counted)
	for range 2 {
		checkCount(t, stock[:6], counted[:6], 2, 0, 0, -7, -1, 9)
		checkCount(t, stock[:1], counted[:1], 2)
		noCount(t, stock, counted[:7]...)
		first := impl.Count(stock[:6], counted[:6])
		for i := range first[:cap(first)] {
			first[:cap(first)][i] = -7
		}
	}
	if !slices.Equal(stock, keptStock) || !slices.Equal(counted, keptCounted) {
		t.Error("a stock or what was counted was written into")
	}
}
