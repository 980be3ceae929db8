package tests

import (
	"maps"
	"math"
	"math/rand"
	"slices"
	"testing"

	"loop.example/g00040/impl"
)

// What holds and shipments have alike: both are told by how much of a cell may be taken, and what is left of it.
type picking struct {
	name string
	take func(stock []impl.Cell, picks []impl.Pick) ([]impl.Cell, int)
	room func(c impl.Cell) int
	left func(c impl.Cell, qty int) impl.Cell
}

var holding = picking{
	name: "Hold",
	take: impl.Hold,
	room: func(c impl.Cell) int { return c.Qty - c.Held },
	left: func(c impl.Cell, qty int) impl.Cell { c.Held += qty; return c },
}

var shipping = picking{
	name: "Ship",
	take: impl.Ship,
	room: func(c impl.Cell) int { return c.Held },
	left: func(c impl.Cell, qty int) impl.Cell { c.Qty -= qty; c.Held -= qty; return c },
}

func pickedOf(picks []impl.Pick, at int) int {
	all := 0
	for _, p := range picks {
		if p.At == at {
			all += p.Qty
		}
	}
	return all
}

// What the picks ahead take of a cell is summed up anew for each pick; no cell is changed on the way.
func (k picking) want(stock []impl.Cell, picks []impl.Pick) ([]impl.Cell, int) {
	if !wantStockOk(stock) {
		return nil, impl.StockBad
	}
	if len(picks) > impl.MaxPicks {
		return stock, impl.StockNone
	}
	for i, p := range picks {
		if !placeAmong(p.At, len(stock)) || p.Qty < 1 || p.Qty > impl.MaxQty {
			return stock, impl.StockNone
		}
		if pickedOf(picks[:i+1], p.At) > k.room(stock[p.At]) {
			return stock, impl.StockShort
		}
	}
	all := make([]impl.Cell, len(stock))
	for at, c := range stock {
		all[at] = k.left(c, pickedOf(picks, at))
	}
	return all, impl.StockDone
}

func (k picking) check(t *testing.T, stock []impl.Cell, picks []impl.Pick, want ...impl.Cell) []impl.Cell {
	t.Helper()
	got, told := k.take(stock, picks)
	wanted, wantTold := k.want(stock, picks)
	if told != impl.StockDone || wantTold != told || !slices.Equal(got, want) || !slices.Equal(wanted, want) {
		t.Errorf("%s(%v, %v) = %v, %d; want %v, StockDone", k.name, stock[:min(6, len(stock))], picks[:min(6, len(picks))], got[:min(6, len(got))], told, want[:min(6, len(want))])
		return got
	}
	if !impl.StockOk(got) {
		t.Errorf("%s(%v, %v) = %v: that is no stock", k.name, stock, picks, got)
	}
	return got
}

func (k picking) refuse(t *testing.T, stock []impl.Cell, picks []impl.Pick, want int) {
	t.Helper()
	got, told := k.take(stock, picks)
	_, wantTold := k.want(stock, picks)
	if told != want || wantTold != want || !slices.Equal(got, stock) {
		t.Errorf("%s(%v, %v) = %v, %d; want the stock, %d", k.name, stock[:min(6, len(stock))], picks[:min(6, len(picks))], got[:min(6, len(got))], told, want)
	}
}

func TestHoldByHand(t *testing.T) {
	stock := cellsOf("i p * 9 5 2, i q * 7 4 0")
	holding.check(t, stock, picksOf("1 4, 0 1"), cellsOf("i p * 9 5 3, i q * 7 4 4")...)
	holding.check(t, stock, picksOf("0 3"), cellsOf("i p * 9 5 5, i q * 7 4 0")...)
	holding.check(t, stock, picksOf("0 1, 1 1, 0 1, 1 2, 0 1"), cellsOf("i p * 9 5 5, i q * 7 4 3")...)
	holding.refuse(t, stock, picksOf("0 2, 0 2"), impl.StockShort)
	holding.refuse(t, stock, picksOf("0 4"), impl.StockShort)
	holding.refuse(t, stock, picksOf("1 4, 1 1"), impl.StockShort)
	holding.refuse(t, stock, picksOf("2 1"), impl.StockNone)
}

func TestShipByHand(t *testing.T) {
	stock := cellsOf("i p * 9 5 3, i q * 7 4 4")
	shipping.check(t, stock, picksOf("1 4, 0 1"), cellsOf("i p * 9 4 2, i q * 7 0 0")...)
	shipping.check(t, stock, picksOf("0 3"), cellsOf("i p * 9 2 0, i q * 7 4 4")...)
	shipping.check(t, stock, picksOf("0 1, 1 1, 0 1, 1 2, 0 1"), cellsOf("i p * 9 2 0, i q * 7 1 1")...)
	shipping.refuse(t, stock, picksOf("0 2, 0 2"), impl.StockShort)
	shipping.refuse(t, stock, picksOf("0 4"), impl.StockShort)
	shipping.refuse(t, stock, picksOf("1 4, 1 1"), impl.StockShort)
	shipping.refuse(t, stock, picksOf("2 1"), impl.StockNone)
	// What is there and not held is not shipped.
	shipping.refuse(t, cellsOf("i p * 9 5 0"), picksOf("0 1"), impl.StockShort)
}

func TestNoPicks(t *testing.T) {
	for _, k := range []picking{holding, shipping} {
		for _, stock := range [][]impl.Cell{nil, {}, handStock(), manyCells(impl.MaxCells)} {
			k.check(t, stock, nil, stock...)
			k.check(t, stock, []impl.Pick{}, stock...)
			k.refuse(t, stock, []impl.Pick{{}}, impl.StockNone)
		}
	}
}

func TestHowManyPicksThereMayBe(t *testing.T) {
	stock := cellsOf("i p * 9 1000 500, i q * 9 1000 500")
	for _, k := range []picking{holding, shipping} {
		for _, count := range []int{1, 2, impl.MaxPicks - 1, impl.MaxPicks} {
			k.check(t, stock, slices.Repeat(picksOf("1 2"), count), stock[0], k.left(stock[1], 2*count))
			k.check(t, stock, slices.Repeat(picksOf("0 5"), count), k.left(stock[0], 5*count), stock[1])
			k.refuse(t, stock, append(slices.Repeat(picksOf("0 5"), count-1), impl.Pick{At: 2, Qty: 5}), impl.StockNone)
			k.refuse(t, stock, append(slices.Repeat(picksOf("0 5"), count-1), impl.Pick{At: 1, Qty: 501}), impl.StockShort)
		}
		k.refuse(t, stock, append(slices.Repeat(picksOf("0 5"), impl.MaxPicks-1), picksOf("0 6")...), impl.StockShort)
		for _, count := range []int{impl.MaxPicks + 1, impl.MaxPicks + 2, 100000} {
			k.refuse(t, stock, slices.Repeat(picksOf("1 1"), count), impl.StockNone)
			// Too many are told ahead of one that is short.
			k.refuse(t, stock, slices.Repeat(picksOf("1 501"), count), impl.StockNone)
			k.refuse(t, nil, make([]impl.Pick, count), impl.StockNone)
		}
		full := manyCells(impl.MaxCells)
		picks, want := []impl.Pick{}, []impl.Cell{}
		for at := range full {
			picks = append(picks, impl.Pick{At: impl.MaxCells - 1 - at, Qty: 4})
			want = append(want, k.left(full[at], 4))
		}
		k.check(t, full, picks, want...)
	}
}

func TestPicksOfNoSuchCell(t *testing.T) {
	for _, k := range []picking{holding, shipping} {
		for _, stock := range [][]impl.Cell{nil, cellsOf("nuts a * 9 5 3"), handStock(), manyCells(impl.MaxCells)} {
			for _, at := range []int{math.MinInt, -impl.MaxCells, -2, -1, len(stock), len(stock) + 1, impl.MaxCells + 1, math.MaxInt} {
				k.refuse(t, stock, []impl.Pick{{At: at, Qty: 1}}, impl.StockNone)
				k.refuse(t, stock, []impl.Pick{{At: at}}, impl.StockNone)
				if len(stock) > 0 {
					k.refuse(t, stock, []impl.Pick{{At: 0, Qty: 1}, {At: at, Qty: 1}}, impl.StockNone)
					k.refuse(t, stock, []impl.Pick{{At: at, Qty: 1}, {At: 0, Qty: 1}}, impl.StockNone)
				}
			}
		}
	}
}

func TestQuantitiesOfPicks(t *testing.T) {
	for _, k := range []picking{holding, shipping} {
		stock := cellsOf("i p * 9 10 5, i q * 9 1000000 0")
		if k.name == shipping.name {
			stock[1].Held = impl.MaxQty
		}
		for _, qty := range []int{1, 2, impl.MaxQty - 1, impl.MaxQty} {
			k.check(t, stock, []impl.Pick{{At: 1, Qty: qty}}, stock[0], k.left(stock[1], qty))
		}
		for _, qty := range noQtysAbove0 {
			k.refuse(t, stock, []impl.Pick{{At: 1, Qty: qty}}, impl.StockNone)
			k.refuse(t, stock, []impl.Pick{{At: 0, Qty: 5}, {At: 0, Qty: qty}}, impl.StockNone)
			k.refuse(t, stock, []impl.Pick{{At: 0, Qty: qty}, {At: 0, Qty: 5}}, impl.StockNone)
		}
	}
}

func TestJustEnoughBehindThePicksAhead(t *testing.T) {
	for qty := range 7 {
		for held := range qty + 1 {
			stock := []impl.Cell{{Item: "i", Place: "q", Qty: 9, Held: 5}, {Item: "i", Place: "p", Expiry: 4, Qty: qty, Held: held}}
			for _, k := range []picking{holding, shipping} {
				for first := range 8 {
					for second := range 8 {
						picks := []impl.Pick{{At: 0, Qty: 4}, {At: 1, Qty: first + 1}, {At: 1, Qty: second + 1}}
						if first+second+2 <= k.room(stock[1]) {
							k.check(t, stock, picks, k.left(stock[0], 4), k.left(stock[1], first+second+2))
						} else {
							k.refuse(t, stock, picks, impl.StockShort)
						}
					}
				}
			}
		}
	}
}

// All of them or none, and the first one that may not be tells which.
func TestWhichPickTells(t *testing.T) {
	stock := cellsOf("i p * 9 20 10, i q * 9 20 10, k q * 9 6 3")
	wrong := []struct {
		pick impl.Pick
		told int
	}{
		{impl.Pick{At: 3, Qty: 1}, impl.StockNone}, {impl.Pick{At: -1, Qty: 1}, impl.StockNone}, {impl.Pick{At: 0}, impl.StockNone},
		{impl.Pick{At: 1, Qty: impl.MaxQty + 1}, impl.StockNone}, {impl.Pick{At: 1, Qty: -1}, impl.StockNone},
		{impl.Pick{At: 3, Qty: 99}, impl.StockNone}, {impl.Pick{At: 0, Qty: 11}, impl.StockShort}, {impl.Pick{At: 2, Qty: 4}, impl.StockShort}, {impl.Pick{At: 1, Qty: impl.MaxQty}, impl.StockShort},
	}
	right := picksOf("0 2, 1 3, 2 1, 0 2, 1 1, 2 2")
	for _, k := range []picking{holding, shipping} {
		for at := range len(right) + 1 {
			for _, first := range wrong {
				k.refuse(t, stock, slices.Insert(slices.Clone(right), at, first.pick), first.told)
				for _, second := range wrong {
					k.refuse(t, stock, append(slices.Clone(right[:at]), first.pick, second.pick), first.told)
				}
			}
		}
		k.check(t, stock, right, k.left(stock[0], 4), k.left(stock[1], 4), k.left(stock[2], 3))
	}
}

// What is held by one pick is not freed, and what is shipped not held, by a later one.
func TestPicksOfOneCellAddUp(t *testing.T) {
	stock := cellsOf("i p * 9 6 3, i q * 9 6 3")
	for _, k := range []picking{holding, shipping} {
		k.check(t, stock, picksOf("0 1, 0 1, 0 1"), k.left(stock[0], 3), stock[1])
		k.refuse(t, stock, picksOf("0 1, 0 1, 0 1, 0 1"), impl.StockShort)
		k.refuse(t, stock, picksOf("0 1, 1 3, 0 1, 0 2"), impl.StockShort)
		k.check(t, stock, picksOf("0 1, 1 3, 0 2"), k.left(stock[0], 3), k.left(stock[1], 3))
	}
}

// P43: what is held is shipped once; what was held ahead of it stays held.
func TestHeldAndShippedIsGoneOnce(t *testing.T) {
	stock := cellsOf("i p * 9 5 2, i q * 7 4 0, k p * 1 3 3")
	picks := picksOf("1 4, 0 1, 0 2")
	held := holding.check(t, stock, picks, cellsOf("i p * 9 5 5, i q * 7 4 4, k p * 1 3 3")...)
	holding.refuse(t, held, picks, impl.StockShort)
	gone := shipping.check(t, held, picks, cellsOf("i p * 9 2 2, i q * 7 0 0, k p * 1 3 3")...)
	shipping.refuse(t, gone, picks, impl.StockShort)
	holding.refuse(t, gone, picks, impl.StockShort)
	shipping.check(t, gone, picksOf("0 2, 2 3"), cellsOf("i p * 9 0 0, i q * 7 0 0, k p * 1 0 0")...)
}

func TestPicksFromWrongStocks(t *testing.T) {
	for at := range handStock() {
		for _, change := range []func(c *impl.Cell){func(c *impl.Cell) { c.Lot = "a b" }, func(c *impl.Cell) { c.Expiry = -1 }, func(c *impl.Cell) { c.Held = c.Qty + 1 }, func(c *impl.Cell) { c.Held = -1 }} {
			stock := stockWith(func(stock []impl.Cell) { change(&stock[at]) })
			checkStock(t, false, stock...)
			for _, k := range []picking{holding, shipping} {
				for _, picks := range [][]impl.Pick{nil, picksOf("0 1"), picksOf("9 1"), picksOf("0 99"), make([]impl.Pick, impl.MaxPicks+1)} {
					if got, told := k.take(stock, picks); len(got) != 0 || told != impl.StockBad {
						t.Errorf("%s(%v, %v) = %v, %d; want nothing, StockBad", k.name, stock, picks[:min(4, len(picks))], got, told)
					}
				}
			}
		}
	}
}

func somePicks(chance *rand.Rand, stock []impl.Cell, k picking, count int) []impl.Pick {
	picks := []impl.Pick{}
	for range count {
		p := impl.Pick{At: chance.Intn(len(stock)), Qty: 1 + chance.Intn(3)}
		if room := k.room(stock[p.At]) - pickedOf(picks, p.At); chance.Intn(15) > 0 && p.Qty > room {
			continue
		} else if room > 0 && chance.Intn(4) == 0 {
			p.Qty = room
		}
		picks = append(picks, p)
	}
	if chance.Intn(6) == 0 && len(picks) > 0 {
		p := &picks[chance.Intn(len(picks))]
		*p = []impl.Pick{{At: -1, Qty: 1}, {At: len(stock), Qty: 1}, {At: p.At}, {At: p.At, Qty: -1}, {At: p.At, Qty: impl.MaxQty + 1}}[chance.Intn(5)]
	}
	return picks
}

func TestSomeHoldsAndShipments(t *testing.T) {
	chance := rand.New(rand.NewSource(157))
	for _, k := range []picking{holding, shipping} {
		told := map[int]int{}
		for range 6000 {
			stock := someStock(chance, 1+chance.Intn(9), []int{3, 20, impl.MaxQty}[chance.Intn(3)])
			picks := somePicks(chance, stock, k, chance.Intn(12))
			if chance.Intn(10) == 0 {
				spoilStock(chance, stock)
			}
			want, code := k.want(stock, picks)
			told[code]++
			switch code {
			case impl.StockDone:
				got := k.check(t, stock, picks, want...)
				// P42: a hold changes no item's quantity.
				if k.name == holding.name && !maps.Equal(itemsOf(got), itemsOf(stock)) {
					t.Errorf("Hold(%v, %v) = %v: there is another quantity", stock, picks, got)
				}
			case impl.StockBad:
				checkStock(t, false, stock...)
			default:
				k.refuse(t, stock, picks, code)
			}
		}
		for _, code := range []int{impl.StockDone, impl.StockBad, impl.StockNone, impl.StockShort} {
			if told[code] < 100 {
				t.Errorf("%s: %d told %d times", k.name, code, told[code])
			}
		}
	}
}

// A stock through all that may be done to it: what there is of each item is what came less what was shipped, and it is always a stock.
func TestStocksThroughAYear(t *testing.T) {
	chance := rand.New(rand.NewSource(158))
	done := [5]int{}
	for range 100 {
		stock := someStock(chance, 6, 20)
		all := itemsOf(stock)
		for range 80 {
			kind, told, came := chance.Intn(5), 0, 0
			item := string(rune('i' + chance.Intn(2)))
			ahead := stock
			switch kind {
			case 0:
				stock, told = impl.Move(stock, chance.Intn(len(stock)), string(rune('a'+chance.Intn(4))), chance.Intn(6))
			case 1:
				c := someStock(chance, 1, 9)[0]
				c.Item, c.Held = item, 0
				stock, told = impl.Receive(stock, c)
				came = c.Qty
			case 2:
				stock, told = impl.Hold(stock, impl.Picks(stock, item, 1+chance.Intn(9), 8+chance.Intn(8)))
			case 3:
				picks := somePicks(chance, stock, shipping, 3)
				stock, told = impl.Ship(stock, picks)
				if told == impl.StockDone {
					for _, p := range picks {
						all[ahead[p.At].Item] -= p.Qty
					}
				}
			case 4:
				stock, told = impl.Hold(stock, somePicks(chance, stock, holding, 3))
			}
			if told == impl.StockDone {
				all[item] += came
				done[kind]++
			} else if !slices.Equal(stock, ahead) {
				t.Fatalf("what was refused left %v, which was %v", stock, ahead)
			}
			if !wantStockOk(stock) || !maps.Equal(nonzero(itemsOf(stock)), nonzero(all)) {
				t.Fatalf("%v has not %v in all", stock, all)
			}
		}
	}
	if slices.Min(done[:]) < 500 {
		t.Errorf("done: %v", done)
	}
}

func nonzero(all map[string]int) map[string]int {
	maps.DeleteFunc(all, func(_ string, qty int) bool { return qty == 0 })
	return all
}

// Behind the lists stands more, which is neither read nor written; what is answered is new each time, also what is refused.
func TestHoldsAndShipmentsLeaveTheirLists(t *testing.T) {
	stock := append(cellsOf("i p * 9 6 3, i q * 7 6 3"), impl.Cell{}, impl.Cell{Item: "i", Place: "r"})
	picks := picksOf("0 1, 1 3, 0 2, 1 1, 5 0")
	keptStock, keptPicks := slices.Clone(stock), slices.Clone(picks)
	for _, k := range []picking{holding, shipping} {
		for range 2 {
			overwrite(k.check(t, stock[:2], picks[:3], k.left(stock[0], 3), k.left(stock[1], 3)))
			overwrite(k.check(t, stock[:1], picks[:1], k.left(stock[0], 1)))
			overwrite(k.check(t, stock[:2], picks[:0], stock[:2]...))
			for count := 4; count <= 5; count++ {
				refused, _ := k.take(stock[:2], picks[:count])
				overwrite(refused)
			}
			k.refuse(t, stock[:2], picks[:4], impl.StockShort)
			k.refuse(t, stock[:2], picks[4:], impl.StockNone)
			k.refuse(t, stock[:1], picks[:2], impl.StockNone)
			checkStock(t, false, stock...)
		}
	}
	if !slices.Equal(stock, keptStock) || !slices.Equal(picks, keptPicks) {
		t.Error("a stock or its picks were written into")
	}
}
