package tests

import (
	"maps"
	"math"
	"math/rand"
	"slices"
	"strings"
	"testing"

	"loop.example/g00040/impl"
)

// c laid into the stock; false when there is no room for it.
func laidInto(stock []impl.Cell, c impl.Cell) ([]impl.Cell, bool) {
	at := cellAt(stock, c.Item, c.Place, c.Lot)
	if at < 0 {
		return slices.Concat(stock, []impl.Cell{c}), len(stock) < impl.MaxCells
	}
	there := stock[at]
	there.Qty += c.Qty
	return slices.Concat(stock[:at], []impl.Cell{there}, stock[at+1:]), there.Qty <= impl.MaxQty
}

func wantMove(stock []impl.Cell, at int, place string, qty int) ([]impl.Cell, int) {
	if !wantStockOk(stock) {
		return nil, impl.StockBad
	}
	if !placeAmong(at, len(stock)) || !accountName.MatchString(place) || stock[at].Place == place || !isQty(qty) {
		return stock, impl.StockNone
	}
	from := stock[at]
	if from.Held+qty > from.Qty {
		return stock, impl.StockShort
	}
	all, fits := laidInto(stock, impl.Cell{Item: from.Item, Place: place, Lot: from.Lot, Expiry: from.Expiry, Qty: qty})
	if !fits {
		return stock, impl.StockFull
	}
	all[at].Qty -= qty
	return all, impl.StockDone
}

// P42: of each item there is as much as there was, what was held is held, and a move back leaves the cell as it was.
func checkMovePromise(t *testing.T, stock []impl.Cell, at int, place string, qty int, moved []impl.Cell) {
	t.Helper()
	if !impl.StockOk(moved) || !wantStockOk(moved) || !maps.Equal(itemsOf(moved), itemsOf(stock)) {
		t.Errorf("Move(%v, %d, %s, %d) = %v: there is another quantity", stock, at, place, qty, moved)
	}
	for i, c := range moved {
		if i < len(stock) && (c.Held != stock[i].Held || c.Expiry != stock[i].Expiry) || i >= len(stock) && c.Held != 0 {
			t.Errorf("Move(%v, %d, %s, %d) = %v: cell %d holds another quantity, or expires on another day", stock, at, place, qty, moved, i)
		}
	}
	to := cellAt(moved, stock[at].Item, place, stock[at].Lot)
	back, told := impl.Move(moved, to, stock[at].Place, qty)
	if told != impl.StockDone || len(back) != len(moved) || !slices.Equal(back[:len(stock)], stock) {
		t.Errorf("Move(%v, %d, %s, %d) = %v; back it is %v, %d", stock, at, place, qty, moved, back, told)
	}
}

func checkMoved(t *testing.T, stock []impl.Cell, at int, place string, qty int, want ...impl.Cell) []impl.Cell {
	t.Helper()
	got, told := impl.Move(stock, at, place, qty)
	wanted, wantTold := wantMove(stock, at, place, qty)
	if told != impl.StockDone || wantTold != told || !slices.Equal(got, want) || !slices.Equal(wanted, want) {
		t.Errorf("Move(%v, %d, %q, %d) = %v, %d; want %v, StockDone", stock[:min(6, len(stock))], at, place, qty, got[:min(6, len(got))], told, want[:min(6, len(want))])
		return got
	}
	checkMovePromise(t, stock, at, place, qty, got)
	return got
}

// A refused move tells the stock as it was; a wrong stock is checkStock's.
func refuseMove(t *testing.T, stock []impl.Cell, at int, place string, qty, want int) {
	t.Helper()
	got, told := impl.Move(stock, at, place, qty)
	_, wantTold := wantMove(stock, at, place, qty)
	if told != want || wantTold != want || !slices.Equal(got, stock) {
		t.Errorf("Move(%v, %d, %q, %d) = %v, %d; want the stock, %d", stock[:min(6, len(stock))], at, place, qty, got[:min(6, len(got))], told, want)
	}
}

func TestMoveByHand(t *testing.T) {
	stock := cellsOf("i p * 9 5 2, i q * 7 4 0, i r L 8 3 0")
	checkMoved(t, stock, 0, "q", 3, cellsOf("i p * 9 2 2, i q * 7 7 0, i r L 8 3 0")...)
	checkMoved(t, stock, 1, "p", 4, cellsOf("i p * 9 9 2, i q * 7 0 0, i r L 8 3 0")...)
	checkMoved(t, stock, 0, "r", 1, cellsOf("i p * 9 4 2, i q * 7 4 0, i r L 8 3 0, i r * 9 1 0")...)
	checkMoved(t, stock, 2, "p", 2, cellsOf("i p * 9 5 2, i q * 7 4 0, i r L 8 1 0, i p L 8 2 0")...)
	checkMoved(t, stock, 2, "new", 3, cellsOf("i p * 9 5 2, i q * 7 4 0, i r L 8 0 0, i new L 8 3 0")...)
	refuseMove(t, stock, 0, "q", 4, impl.StockShort)
	refuseMove(t, stock, 0, "p", 1, impl.StockNone)
}

func TestMoveOfAllThatIsFree(t *testing.T) {
	for qty := range 6 {
		for held := range qty + 1 {
			stock := []impl.Cell{{Item: "i", Place: "p", Lot: "L", Expiry: 9, Qty: qty, Held: held}, {Item: "i", Place: "q", Lot: "L", Expiry: 3, Qty: 2, Held: 1}}
			for moved := range 8 {
				for to, place := range []string{"r", "q"} {
					if moved > qty-held {
						refuseMove(t, stock, 0, place, moved, impl.StockShort)
						continue
					}
					want := slices.Clone(stock)
					want[0].Qty -= moved
					if to == 1 {
						want[1].Qty += moved
					} else {
						want = append(want, impl.Cell{Item: "i", Place: "r", Lot: "L", Expiry: 9, Qty: moved})
					}
					checkMoved(t, stock, 0, place, moved, want...)
				}
			}
		}
	}
}

// Only the cell with the same Item and the same Lot takes it; what else it has stays its own.
func TestWhichCellTakesIt(t *testing.T) {
	stock := cellsOf("i p L 9 5 0, i q * 1 1 1, k q L 2 1 1, i q M 3 1 1, i q L 4 1 1, i r L 5 1 1")
	checkMoved(t, stock, 0, "q", 5, cellsOf("i p L 9 0 0, i q * 1 1 1, k q L 2 1 1, i q M 3 1 1, i q L 4 6 1, i r L 5 1 1")...)
	checkMoved(t, stock[:4], 0, "q", 5, cellsOf("i p L 9 0 0, i q * 1 1 1, k q L 2 1 1, i q M 3 1 1, i q L 9 5 0")...)
	bare := cellsOf("i q L 4 1 1, i q M 3 1 1, k q * 2 1 1, i p * 9 5 0, i q * 1 1 1")
	checkMoved(t, bare, 3, "q", 5, cellsOf("i q L 4 1 1, i q M 3 1 1, k q * 2 1 1, i p * 9 0 0, i q * 1 6 1")...)
	checkMoved(t, bare[:4], 3, "q", 5, cellsOf("i q L 4 1 1, i q M 3 1 1, k q * 2 1 1, i p * 9 0 0, i q * 9 5 0")...)
	checkMoved(t, cellsOf("a b c 1 1 0, c b a 1 1 0, b a c 1 1 0"), 0, "a", 1, cellsOf("a b c 1 0 0, c b a 1 1 0, b a c 1 1 0, a a c 1 1 0")...)
}

func TestMoveOfNothing(t *testing.T) {
	stock := cellsOf("i p * 9 5 5, i q * 7 0 0")
	checkMoved(t, stock, 0, "q", 0, stock...)
	checkMoved(t, stock, 1, "p", 0, stock...)
	checkMoved(t, stock, 0, "r", 0, append(slices.Clone(stock), cellsOf("i r * 9 0 0")...)...)
	checkMoved(t, stock, 1, "r", 0, append(slices.Clone(stock), cellsOf("i r * 7 0 0")...)...)
	refuseMove(t, stock, 0, "q", 1, impl.StockShort)
	refuseMove(t, stock, 1, "q", 0, impl.StockNone)
}

func TestACellWithNothingLeftStays(t *testing.T) {
	stock := cellsOf("i p L 9 5 0, k p L 3 1 0")
	moved := checkMoved(t, stock, 0, "q", 5, cellsOf("i p L 9 0 0, k p L 3 1 0, i q L 9 5 0")...)
	refuseMove(t, moved, 0, "q", 1, impl.StockShort)
	moved = checkMoved(t, moved, 2, "r", 5, cellsOf("i p L 9 0 0, k p L 3 1 0, i q L 9 0 0, i r L 9 5 0")...)
	moved = checkMoved(t, moved, 3, "p", 5, cellsOf("i p L 9 5 0, k p L 3 1 0, i q L 9 0 0, i r L 9 0 0")...)
	checkMoved(t, moved, 0, "q", 2, cellsOf("i p L 9 3 0, k p L 3 1 0, i q L 9 2 0, i r L 9 0 0")...)
}

func TestMovesThatAreNone(t *testing.T) {
	for _, stock := range [][]impl.Cell{nil, cellsOf("i p * 9 5 2"), handStock(), manyCells(impl.MaxCells)} {
		for _, at := range []int{math.MinInt, -impl.MaxCells, -2, -1, len(stock), len(stock) + 1, impl.MaxCells + 1, math.MaxInt} {
			refuseMove(t, stock, at, "zz", 1, impl.StockNone)
			refuseMove(t, stock, at, "zz", 0, impl.StockNone)
			refuseMove(t, stock, at, "", -1, impl.StockNone)
		}
		for at, c := range stock {
			refuseMove(t, stock, at, c.Place, 0, impl.StockNone)
			refuseMove(t, stock, at, c.Place, 1, impl.StockNone)
			refuseMove(t, stock, at, c.Place, impl.MaxQty, impl.StockNone)
			for _, place := range noNames {
				refuseMove(t, stock, at, place, 1, impl.StockNone)
				refuseMove(t, stock, at, place, 0, impl.StockNone)
			}
			for _, qty := range noQtys {
				refuseMove(t, stock, at, "zz", qty, impl.StockNone)
				refuseMove(t, stock, at, c.Place, qty, impl.StockNone)
			}
		}
	}
	// A place may be told apart from the cell's own by little.
	stock := cellsOf("i p * 9 5 2")
	for _, place := range []string{"P", "pp", "p.", "-", "0", strings.Repeat("p", impl.MaxName)} {
		checkMoved(t, stock, 0, place, 3, impl.Cell{Item: "i", Place: "p", Expiry: 9, Qty: 2, Held: 2}, impl.Cell{Item: "i", Place: place, Expiry: 9, Qty: 3})
	}
}

func TestMoveIntoAFullStock(t *testing.T) {
	full := manyCells(impl.MaxCells)
	full[7].Lot, full[7].Place = full[3].Lot, "b"
	for _, qty := range []int{0, 1, 6} {
		refuseMove(t, full, 0, "b", qty, impl.StockFull)
		refuseMove(t, full, impl.MaxCells-1, "b", qty, impl.StockFull)
		want := slices.Clone(full)
		want[3].Qty -= qty
		want[7].Qty += qty
		checkMoved(t, full, 3, "b", qty, want...)
	}
	refuseMove(t, full, 3, "c", 1, impl.StockFull)
	refuseMove(t, full, 7, "c", 1, impl.StockFull)
	// One cell fewer, and there is room for one more.
	room := full[:impl.MaxCells-1]
	want := append(slices.Clone(room), room[0])
	want[0].Qty -= 6
	want[impl.MaxCells-1].Place, want[impl.MaxCells-1].Qty, want[impl.MaxCells-1].Held = "b", 6, 0
	filled := checkMoved(t, room, 0, "b", 6, want...)
	refuseMove(t, filled, 1, "b", 6, impl.StockFull)
	refuseMove(t, filled, 0, "c", 0, impl.StockFull)
}

func TestMoveIntoAFullCell(t *testing.T) {
	stock := cellsOf("i p * 9 5 0, i q * 7 999997 3, i r * 7 1000000 0")
	checkMoved(t, stock, 0, "q", 3, cellsOf("i p * 9 2 0, i q * 7 1000000 3, i r * 7 1000000 0")...)
	refuseMove(t, stock, 0, "q", 4, impl.StockFull)
	refuseMove(t, stock, 0, "q", 5, impl.StockFull)
	checkMoved(t, stock, 0, "r", 0, stock...)
	refuseMove(t, stock, 0, "r", 1, impl.StockFull)
	refuseMove(t, stock, 2, "q", impl.MaxQty, impl.StockFull)
	checkMoved(t, stock, 2, "q", 3, cellsOf("i p * 9 5 0, i q * 7 1000000 3, i r * 7 999997 0")...)
	checkMoved(t, stock, 2, "s", impl.MaxQty, cellsOf("i p * 9 5 0, i q * 7 999997 3, i r * 7 0 0, i s * 7 1000000 0")...)
	// A cell may be full in a full stock too.
	full := manyCells(impl.MaxCells)
	full[0].Place, full[0].Lot, full[0].Qty = "b", full[1].Lot, impl.MaxQty
	refuseMove(t, full, 1, "b", 1, impl.StockFull)
	checkMoved(t, full, 1, "b", 0, full...)
}

func TestWhichRefusalOfAMoveComesFirst(t *testing.T) {
	full := manyCells(impl.MaxCells)
	full[0].Place, full[0].Lot, full[0].Qty = "b", full[1].Lot, impl.MaxQty-1
	refuseMove(t, full, 1, "b", 7, impl.StockShort) // and the cell there would be full
	refuseMove(t, full, 1, "b", 2, impl.StockFull)
	refuseMove(t, full, 2, "b", 7, impl.StockShort) // and there is no room for a new cell
	refuseMove(t, full, 2, "b", 6, impl.StockFull)
	refuseMove(t, full, 2, "a", 7, impl.StockNone) // and there is not as much
	refuseMove(t, full, 2, "", 7, impl.StockNone)
	refuseMove(t, full, 2, "b", impl.MaxQty+1, impl.StockNone)
	refuseMove(t, full, impl.MaxCells, "b", 7, impl.StockNone)
	// A wrong stock comes ahead of all others.
	full[50].Held = full[50].Qty + 1
	checkStock(t, false, full...)
	for _, at := range []int{-1, 1, 2, 50, impl.MaxCells} {
		for _, place := range []string{"", "a", "b"} {
			for _, qty := range []int{-1, 0, 1, 7} {
				if got, told := impl.Move(full, at, place, qty); len(got) != 0 || told != impl.StockBad {
					t.Errorf("Move(a wrong stock, %d, %q, %d) = %v, %d; want nothing, StockBad", at, place, qty, got, told)
				}
			}
		}
	}
}

func TestSomeStockMoves(t *testing.T) {
	chance := rand.New(rand.NewSource(152))
	told := map[int]int{}
	for range 8000 {
		stock := someStock(chance, chance.Intn(16), []int{3, 50, impl.MaxQty}[chance.Intn(3)])
		if chance.Intn(3) == 0 {
			fillCells(chance, stock)
		}
		if chance.Intn(8) == 0 && len(stock) > 0 {
			spoilStock(chance, stock)
		}
		at, place := chance.Intn(len(stock)+2)-1, []string{"a", "b", "c", "d", "e", "", "a b"}[chance.Intn(7)]
		qty := chance.Intn(4)
		if placeAmong(at, len(stock)) && chance.Intn(2) == 0 {
			qty = stock[at].Qty - stock[at].Held + chance.Intn(3) - 1
		}
		want, code := wantMove(stock, at, place, qty)
		told[code]++
		switch code {
		case impl.StockDone:
			checkMoved(t, stock, at, place, qty, want...)
		case impl.StockBad:
			checkStock(t, false, stock...)
		default:
			refuseMove(t, stock, at, place, qty, code)
		}
	}
	for _, code := range []int{impl.StockDone, impl.StockBad, impl.StockNone, impl.StockShort, impl.StockFull} {
		if told[code] < 50 {
			t.Errorf("%d told %d times", code, told[code])
		}
	}
}

// However often things are moved, of each item there is as much, and what is held stays where it is.
func TestManyMovesOneBehindTheOther(t *testing.T) {
	chance := rand.New(rand.NewSource(153))
	for range 60 {
		stock := someStock(chance, 12, 40)
		first := slices.Clone(stock)
		for range 60 {
			stock, _ = impl.Move(stock, chance.Intn(len(stock)), string(rune('a'+chance.Intn(5))), chance.Intn(9))
		}
		if !wantStockOk(stock) || !maps.Equal(itemsOf(stock), itemsOf(first)) {
			t.Fatalf("behind all moves %v is %v", first, stock)
		}
		for i, c := range stock {
			if i < len(first) && c.Held != first[i].Held || i >= len(first) && c.Held != 0 {
				t.Fatalf("behind all moves %v is %v", first, stock)
			}
		}
	}
}

// overwrite spoils an answer and all the room behind it.
func overwrite(cells []impl.Cell) {
	for i := range cells[:cap(cells)] {
		cells[:cap(cells)][i] = impl.Cell{Item: "spoilt", Expiry: -7, Qty: -7, Held: -7}
	}
}

// Behind the stock stands more, which is neither read nor written; what is answered is new each time, also what is refused.
func TestMoveLeavesItsStock(t *testing.T) {
	stock := append(cellsOf("i p * 9 5 2, i q * 7 4 0"), impl.Cell{}, impl.Cell{Item: "i", Place: "r"})
	kept := slices.Clone(stock)
	for range 2 {
		overwrite(checkMoved(t, stock[:2], 0, "q", 3, cellsOf("i p * 9 2 2, i q * 7 7 0")...))
		overwrite(checkMoved(t, stock[:2], 0, "r", 3, cellsOf("i p * 9 2 2, i q * 7 4 0, i r * 9 3 0")...))
		overwrite(checkMoved(t, stock[:1], 0, "q", 0, cellsOf("i p * 9 5 2, i q * 9 0 0")...))
		for _, told := range []struct {
			place string
			qty   int
		}{{"p", 1}, {"q", 4}, {"", 0}} {
			refused, _ := impl.Move(stock[:2], 0, told.place, told.qty)
			overwrite(refused)
			refuseMove(t, stock[:2], 1, "q", told.qty, impl.StockNone)
		}
		checkStock(t, false, stock...)
		if !slices.Equal(stock, kept) {
			t.Fatal("a stock was written into")
		}
	}
	full := append(manyCells(impl.MaxCells), cellsOf("nuts b * 9 1 0")...)
	kept = slices.Clone(full)
	refused, _ := impl.Move(full[:impl.MaxCells], 0, "b", 1)
	overwrite(refused)
	overwrite(checkMoved(t, full[:1], 0, "b", 1, cellsOf("nuts a L0 50 9 4, nuts b L0 50 1 0")...))
	if !slices.Equal(full, kept) {
		t.Error("a stock was written into")
	}
}
