package tests

import (
	"math"
	"math/rand"
	"slices"
	"strconv"
	"strings"
	"testing"

	"loop.example/g00040/impl"
)

const noLot = "*" // in what is told of cells: no name has it

// "nuts a L1 9 5 2, nuts b * 7 4 0": Item, Place, Lot, Expiry, Qty and Held of each.
func cellsOf(text string) []impl.Cell {
	list := readEach(text, func(c *impl.Cell) []any { return []any{&c.Item, &c.Place, &c.Lot, &c.Expiry, &c.Qty, &c.Held} })
	for i := range list {
		if list[i].Lot == noLot {
			list[i].Lot = ""
		}
	}
	return list
}

func handStock() []impl.Cell {
	return cellsOf("nuts a L1 9 5 2, nuts b * 7 4 0, nuts a * 7 6 6, bolts a L1 20 10 3, nuts b L1 12 1 0, tea c * 0 0 0")
}

func stockWith(change func(stock []impl.Cell)) []impl.Cell {
	stock := handStock()
	change(stock)
	return stock
}

// Cells that are told apart by their Lots alone.
func manyCells(count int) []impl.Cell {
	stock := make([]impl.Cell, count)
	for i := range stock {
		stock[i] = impl.Cell{Item: "nuts", Place: "a", Lot: "L" + strconv.Itoa(i), Expiry: 50, Qty: 10, Held: 4}
	}
	return stock
}

// "0 5, 1 3": At and Qty of each.
func picksOf(text string) []impl.Pick {
	return readEach(text, func(p *impl.Pick) []any { return []any{&p.At, &p.Qty} })
}

func wantCellOk(c impl.Cell) bool {
	named := accountName.MatchString(c.Item) && accountName.MatchString(c.Place) && (len(c.Lot) == 0 || accountName.MatchString(c.Lot))
	return named && isDay(c.Expiry) && isQty(c.Qty) && isQty(c.Held) && c.Qty-c.Held >= 0
}

// The place of the cell with that Item, Place and Lot; -1 when there is none.
func cellAt(stock []impl.Cell, item, place, lot string) int {
	return slices.IndexFunc(stock, func(c impl.Cell) bool { return c.Item == item && c.Place == place && c.Lot == lot })
}

func wantStockOk(stock []impl.Cell) bool {
	if len(stock) > impl.MaxCells {
		return false
	}
	for i, c := range stock {
		if !wantCellOk(c) || cellAt(stock, c.Item, c.Place, c.Lot) != i {
			return false
		}
	}
	return true
}

func itemsOf(stock []impl.Cell) map[string]int {
	all := map[string]int{}
	for _, c := range stock {
		all[c.Item] += c.Qty
	}
	return all
}

// checkStock asks every function for its answer to a stock that is not right, too.
func checkStock(t *testing.T, want bool, stock ...impl.Cell) {
	t.Helper()
	if got := impl.StockOk(stock); got != want || wantStockOk(stock) != want {
		t.Errorf("StockOk(%d cells) = %v; want %v: %v", len(stock), got, want, stock[:min(8, len(stock))])
	}
	if !want {
		refuseStock(t, stock)
	}
}

func refuseStock(t *testing.T, stock []impl.Cell) {
	t.Helper()
	bad := func(name string, cells []impl.Cell, told int) {
		t.Helper()
		if len(cells) != 0 || told != impl.StockBad {
			t.Errorf("%s of a wrong stock = %v, %d; want nothing, StockBad: %v", name, cells[:min(4, len(cells))], told, stock[:min(8, len(stock))])
		}
	}
	counted := make([]int, len(stock))
	for i, c := range stock {
		counted[i] = c.Qty
	}
	for _, at := range []int{-1, 0, len(stock) - 1, len(stock)} {
		for _, qty := range []int{-1, 0, 1, impl.MaxQty + 1} {
			cells, told := impl.Move(stock, at, "zz", qty)
			bad("Move", cells, told)
			cells, told = impl.Move(stock, at, "", qty)
			bad("Move", cells, told)
			for _, picks := range [][]impl.Pick{nil, {{At: at, Qty: qty}}} {
				cells, told = impl.Hold(stock, picks)
				bad("Hold", cells, told)
				cells, told = impl.Ship(stock, picks)
				bad("Ship", cells, told)
			}
		}
	}
	for _, c := range []impl.Cell{{}, {Item: "new", Place: "zz", Qty: 1}, {Item: "new", Place: "zz", Qty: 1, Held: 1}} {
		cells, told := impl.Receive(stock, c)
		bad("Receive", cells, told)
	}
	for _, c := range stock[:min(3, len(stock))] {
		if picks := impl.Picks(stock, c.Item, 1, 0); len(picks) != 0 {
			t.Errorf("Picks of a wrong stock = %v; want nothing: %v", picks, stock[:min(8, len(stock))])
		}
	}
	if found := impl.Count(stock, counted); len(found) != 0 {
		t.Errorf("Count of a wrong stock = %v; want nothing: %v", found, stock[:min(8, len(stock))])
	}
}

func TestStocksByHand(t *testing.T) {
	checkStock(t, true)
	checkStock(t, true, []impl.Cell{}...)
	checkStock(t, true, handStock()...)
	checkStock(t, true, cellsOf("i p * 9 5 2, i q * 7 4 0")...)
	checkStock(t, true, impl.Cell{Item: "i", Place: "p"})
	checkStock(t, false, impl.Cell{})
	checkStock(t, false, append(handStock(), impl.Cell{})...)
	checkStock(t, false, append(handStock(), handStock()[0])...)
	for i := range handStock() {
		checkStock(t, true, slices.Delete(handStock(), i, i+1)...)
		checkStock(t, false, slices.Insert(handStock(), i, impl.Cell{})...)
		checkStock(t, false, slices.Insert(handStock(), i, handStock()[5-i])...)
	}
}

func TestHowManyCellsThereMayBe(t *testing.T) {
	for count := range impl.MaxCells + 4 {
		checkStock(t, count <= impl.MaxCells, manyCells(count)...)
	}
	checkStock(t, false, manyCells(20000)...)
	for at := range impl.MaxCells {
		for _, wrong := range []impl.Cell{{}, manyCells(impl.MaxCells)[(at+1)%impl.MaxCells], {Item: "nuts", Place: "a", Lot: "L", Qty: 3, Held: 4}} {
			stock := manyCells(impl.MaxCells)
			stock[at] = wrong
			checkStock(t, false, stock...)
		}
	}
}

func TestNamesOfCells(t *testing.T) {
	for at := range handStock() {
		for _, name := range noNames {
			checkStock(t, false, stockWith(func(stock []impl.Cell) { stock[at].Item = name })...)
			checkStock(t, false, stockWith(func(stock []impl.Cell) { stock[at].Place = name })...)
			if name != "" {
				checkStock(t, false, stockWith(func(stock []impl.Cell) { stock[at].Lot = name })...)
			}
		}
		for _, name := range []string{"A", "z", "0", "-", "_", ".", "Nuts", strings.Repeat("n", impl.MaxName)} {
			checkStock(t, true, stockWith(func(stock []impl.Cell) { stock[at].Item = name })...)
			checkStock(t, true, stockWith(func(stock []impl.Cell) { stock[at].Place = name })...)
			checkStock(t, true, stockWith(func(stock []impl.Cell) { stock[at].Lot = name })...)
		}
	}
	checkStock(t, true, stockWith(func(stock []impl.Cell) { stock[3].Lot = "" })...)
	checkStock(t, false, stockWith(func(stock []impl.Cell) { stock[0].Lot = "" })...)
}

func TestNumbersOfCells(t *testing.T) {
	for at := range handStock() {
		for _, day := range []int{0, 1, impl.MaxDay - 1, impl.MaxDay} {
			checkStock(t, true, stockWith(func(stock []impl.Cell) { stock[at].Expiry = day })...)
		}
		for _, day := range noDays {
			checkStock(t, false, stockWith(func(stock []impl.Cell) { stock[at].Expiry = day })...)
		}
		for _, qty := range []int{0, 1, impl.MaxQty - 1, impl.MaxQty} {
			checkStock(t, true, stockWith(func(stock []impl.Cell) { stock[at].Qty, stock[at].Held = qty, 0 })...)
			checkStock(t, true, stockWith(func(stock []impl.Cell) { stock[at].Qty, stock[at].Held = qty, qty/2 })...)
			checkStock(t, true, stockWith(func(stock []impl.Cell) { stock[at].Qty, stock[at].Held = qty, qty })...)
			for _, held := range []int{math.MinInt, -impl.MaxQty, -2, -1, qty + 1, qty + 2, impl.MaxQty + 1, math.MaxInt} {
				checkStock(t, false, stockWith(func(stock []impl.Cell) { stock[at].Qty, stock[at].Held = qty, held })...)
			}
		}
		for _, qty := range noQtys {
			for _, held := range []int{0, qty, qty - 1, -1} {
				checkStock(t, false, stockWith(func(stock []impl.Cell) { stock[at].Qty, stock[at].Held = qty, held })...)
			}
		}
	}
}

func TestNoTwoCellsAlike(t *testing.T) {
	names := []string{"x", "y"}
	for _, a := range names {
		for _, b := range names {
			for _, lot := range []string{"", "x", "y"} {
				alike := a == "x" && b == "y" && lot == "x"
				checkStock(t, !alike, impl.Cell{Item: "x", Place: "y", Lot: "x", Expiry: 1, Qty: 2}, impl.Cell{Item: a, Place: b, Lot: lot, Expiry: 3, Qty: 4, Held: 4})
				alike = a == "y" && b == "x" && lot == ""
				checkStock(t, !alike, impl.Cell{Item: a, Place: b, Lot: lot}, impl.Cell{Item: "q", Place: "q"}, impl.Cell{Item: "y", Place: "x"})
			}
		}
	}
	// Names that are alike only when they are put together.
	checkStock(t, true, cellsOf("ab c d 0 0 0, a bc d 0 0 0, a b cd 0 0 0, abc d * 0 0 0, a bcd * 0 0 0, a b c-d 0 0 0, a b-c d 0 0 0")...)
	checkStock(t, true, cellsOf("a b c 0 0 0, A b c 0 0 0, a B c 0 0 0, a b C 0 0 0, a b * 0 0 0")...)
	// Two cells are alike whatever else they have.
	for at := range handStock() {
		for _, change := range []func(c *impl.Cell){func(c *impl.Cell) { c.Expiry++ }, func(c *impl.Cell) { c.Qty++ }, func(c *impl.Cell) { c.Qty, c.Held = 0, 0 }, func(c *impl.Cell) {}} {
			c := handStock()[at]
			change(&c)
			checkStock(t, false, append(handStock(), c)...)
			checkStock(t, false, append([]impl.Cell{c}, handStock()...)...)
		}
	}
}

func someStock(chance *rand.Rand, count, most int) []impl.Cell {
	stock := []impl.Cell{}
	for range count {
		c := impl.Cell{Item: string(rune('i' + chance.Intn(2))), Place: string(rune('a' + chance.Intn(4))), Expiry: 10 + chance.Intn(8), Qty: chance.Intn(most + 1)}
		if chance.Intn(3) > 0 {
			c.Lot = string(rune('L' + chance.Intn(2)))
		}
		if chance.Intn(2) == 0 {
			c.Held = chance.Intn(c.Qty + 1)
		}
		if cellAt(stock, c.Item, c.Place, c.Lot) < 0 {
			stock = append(stock, c)
		}
	}
	return stock
}

// Cells that have room for next to nothing more.
func fillCells(chance *rand.Rand, stock []impl.Cell) {
	for i := range stock {
		if chance.Intn(3) == 0 {
			stock[i].Qty = impl.MaxQty - chance.Intn(3)
		}
	}
}

// A cell made wrong in one of its fields, or made another one.
func spoilStock(chance *rand.Rand, stock []impl.Cell) {
	c, other := &stock[chance.Intn(len(stock))], stock[chance.Intn(len(stock))]
	switch chance.Intn(6) {
	case 0:
		c.Item = noNames[chance.Intn(len(noNames))]
	case 1:
		c.Place = noNames[chance.Intn(len(noNames))]
	case 2:
		c.Expiry = noDays[chance.Intn(len(noDays))]
	case 3:
		c.Qty = noQtys[chance.Intn(len(noQtys))]
	case 4:
		c.Held = c.Qty + 1
	case 5:
		*c = other
	}
}

func TestSomeStocks(t *testing.T) {
	chance := rand.New(rand.NewSource(150))
	right, wrong := 0, 0
	for range 4000 {
		stock := someStock(chance, 1+chance.Intn(20), []int{3, 50, impl.MaxQty}[chance.Intn(3)])
		if chance.Intn(2) == 0 {
			spoilStock(chance, stock)
		}
		want := wantStockOk(stock)
		checkStock(t, want, stock...)
		if want {
			right++
		} else {
			wrong++
		}
	}
	if right < 1000 || wrong < 1000 {
		t.Errorf("%d right, %d wrong", right, wrong)
	}
}
