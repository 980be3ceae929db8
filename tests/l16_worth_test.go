package tests

import (
	"math"
	"math/rand"
	"slices"
	"testing"

	"loop.example/g00040/impl"
)

var costMethods = []int{impl.First, impl.Last, impl.Mean, impl.Standard}

var noCostMethods = []int{math.MinInt, -1, 0, 5, 6, impl.MaxFactor, math.MaxInt}

var noLayCosts = append([]int{-1, -2, -impl.MaxMoney}, noAmounts...)

// Qty, Cost and so on.
func laysOf(pairs ...int) []impl.Lay {
	list := []impl.Lay{}
	for i := 0; i < len(pairs); i += 2 {
		list = append(list, impl.Lay{Qty: pairs[i], Cost: pairs[i+1]})
	}
	return list
}

func worthOf(method int, pairs ...int) impl.Worth {
	return impl.Worth{Method: method, Lays: laysOf(pairs...)}
}

// A Worth at standard prices; no Lay when qty is 0.
func standardOf(price, qty, off int) impl.Worth {
	w := impl.Worth{Method: impl.Standard, Price: price, Off: off}
	if qty != 0 {
		w.Lays = laysOf(qty, qty*price)
	}
	return w
}

func manyLays(count, qty, cost int) []impl.Lay {
	list := make([]impl.Lay, count)
	for i := range list {
		list[i] = impl.Lay{Qty: qty, Cost: cost}
	}
	return list
}

func sameWorth(a, b impl.Worth) bool {
	return a.Method == b.Method && a.Price == b.Price && a.Off == b.Off && slices.Equal(a.Lays, b.Lays)
}

func copyWorth(w impl.Worth) impl.Worth {
	w.Lays = slices.Clone(w.Lays)
	return w
}

func isZeroWorth(w impl.Worth) bool { return sameWorth(w, impl.Worth{}) }

// As much of a Worth as a message can bear.
func shortWorth(w impl.Worth) impl.Worth {
	w.Lays = w.Lays[:min(6, len(w.Lays))]
	return w
}

func unitsOf(lays []impl.Lay) int {
	all := 0
	for _, l := range lays {
		all += l.Qty
	}
	return all
}

func costsOf(lays []impl.Lay) int {
	all := 0
	for _, l := range lays {
		all += l.Cost
	}
	return all
}

func wantLayOk(l impl.Lay) bool { return l.Qty != 0 && isQty(l.Qty) && l.Cost >= 0 && amount(l.Cost) }

func mostLaysOf(method int) int {
	return map[int]int{impl.First: impl.MaxMoves, impl.Last: impl.MaxMoves, impl.Mean: 1, impl.Standard: 1}[method]
}

// What there is still room for is told Lay by Lay; nothing is summed.
func wantWorthOk(w impl.Worth) bool {
	if !slices.Contains(costMethods, w.Method) || len(w.Lays) > mostLaysOf(w.Method) {
		return false
	}
	units, costs := impl.MaxQty, impl.MaxMoney
	for _, l := range w.Lays {
		if !wantLayOk(l) || l.Qty > units || l.Cost > costs {
			return false
		}
		units, costs = units-l.Qty, costs-l.Cost
	}
	if w.Method != impl.Standard {
		return w.Price == 0 && w.Off == 0
	}
	for _, l := range w.Lays {
		if l.Cost%l.Qty != 0 || l.Cost/l.Qty != w.Price {
			return false
		}
	}
	return isPrice(w.Price) && amount(w.Off)
}

// checkWorth asks every function for its answer to a Worth that is not right, too.
func checkWorth(t *testing.T, want bool, w impl.Worth) {
	t.Helper()
	if got := impl.WorthOk(w); got != want || wantWorthOk(w) != want {
		t.Errorf("WorthOk(%v with %d Lays) = %v; want %v", shortWorth(w), len(w.Lays), got, want)
	}
	units, costs := 0, 0
	if want {
		units, costs = unitsOf(w.Lays), costsOf(w.Lays)
	} else {
		refuseWorth(t, w)
	}
	if gotUnits, gotCosts := impl.Value(w); gotUnits != units || gotCosts != costs {
		t.Errorf("Value(%v with %d Lays) = %d, %d; want %d, %d", shortWorth(w), len(w.Lays), gotUnits, gotCosts, units, costs)
	}
}

func refuseWorth(t *testing.T, w impl.Worth) {
	t.Helper()
	for _, qty := range []int{-1, 0, 1, 3, impl.MaxQty} {
		for _, cost := range []int{-1, 0, 1, impl.MaxMoney} {
			if after, ok := impl.TakeIn(w, qty, cost); ok || !isZeroWorth(after) {
				t.Errorf("TakeIn(%v, %d, %d) = %v, %v; want nothing of a wrong Worth", shortWorth(w), qty, cost, after, ok)
			}
		}
		if after, cost, ok := impl.TakeOut(w, qty); ok || cost != 0 || !isZeroWorth(after) {
			t.Errorf("TakeOut(%v, %d) = %v, %d, %v; want nothing of a wrong Worth", shortWorth(w), qty, after, cost, ok)
		}
		for _, flows := range [][]impl.Flow{nil, {{Qty: qty, Cost: 1}}, {{Qty: 1}, {Qty: -1}, {Cost: 2}}, make([]impl.Flow, impl.MaxMoves+1)} {
			if end, told, bad := impl.RunWorth(w, flows); bad != -2 || len(told) != 0 || !isZeroWorth(end) {
				t.Errorf("RunWorth(%v, %d flows) = %v, %v, %d; want nothing and -2 of a wrong Worth", shortWorth(w), len(flows), end, told, bad)
			}
		}
	}
}

func TestWorthsByHand(t *testing.T) {
	checkWorth(t, true, worthOf(impl.First, 4, 40, 2, 31))
	checkWorth(t, true, worthOf(impl.Last, 4, 40, 2, 31))
	checkWorth(t, false, worthOf(impl.Mean, 4, 40, 2, 31))
	checkWorth(t, true, worthOf(impl.Mean, 6, 71))
	checkWorth(t, true, standardOf(9, 3, 3))
	checkWorth(t, true, standardOf(9, 0, -3))
	checkWorth(t, true, standardOf(0, 3, 17))
	checkWorth(t, false, impl.Worth{})
	checkWorth(t, false, worthOf(impl.Standard, 3, 27))
	checkWorth(t, true, worthOf(impl.Standard, 3, 0))
	checkWorth(t, false, impl.Worth{Method: impl.First, Price: 1})
	checkWorth(t, false, impl.Worth{Method: impl.Mean, Off: 1})
}

func TestMethodsOfWorths(t *testing.T) {
	for _, method := range costMethods {
		checkWorth(t, true, impl.Worth{Method: method})
		checkWorth(t, true, worthOf(method))
		checkWorth(t, true, worthOf(method, 3, 0))
	}
	for _, method := range noCostMethods {
		checkWorth(t, false, impl.Worth{Method: method})
		checkWorth(t, false, worthOf(method, 3, 0))
		checkWorth(t, false, worthOf(method, 3, 0, 4, 0))
		checkWorth(t, false, impl.Worth{Method: method, Price: 9, Lays: laysOf(3, 27), Off: 1})
	}
}

func TestHowManyLaysThereMayBe(t *testing.T) {
	for _, method := range costMethods {
		for _, count := range []int{0, 1, 2, 3, impl.MaxMoves - 1, impl.MaxMoves, impl.MaxMoves + 1, impl.MaxMoves + 2, 5000} {
			want := count <= 1 || (method == impl.First || method == impl.Last) && count <= impl.MaxMoves
			checkWorth(t, want, impl.Worth{Method: method, Lays: manyLays(count, 2, 0)})
			if method != impl.Standard {
				checkWorth(t, want, impl.Worth{Method: method, Lays: manyLays(count, 2, 7)})
			}
		}
	}
	for count := range 4 {
		checkWorth(t, count <= 1, impl.Worth{Method: impl.Standard, Price: 9, Lays: manyLays(count, 2, 18), Off: 5})
	}
}

func TestPricesOfWorths(t *testing.T) {
	for _, price := range []int{0, 1, 2, impl.MaxPrice - 1, impl.MaxPrice} {
		for _, qty := range []int{0, 1, 7, impl.MaxQty - 1, impl.MaxQty} {
			checkWorth(t, true, standardOf(price, qty, 0))
			if qty > 0 {
				w := standardOf(price, qty, 0)
				w.Lays[0].Cost++
				checkWorth(t, false, w)
				w.Lays[0].Cost -= 2
				checkWorth(t, false, w)
			}
		}
	}
	for _, price := range noPrices {
		checkWorth(t, false, standardOf(price, 0, 0))
		for _, cost := range []int{0, 1, impl.MaxPrice, 2 * price} {
			checkWorth(t, false, impl.Worth{Method: impl.Standard, Price: price, Lays: laysOf(2, cost)})
		}
	}
	checkWorth(t, false, impl.Worth{Method: impl.Standard, Price: impl.MaxPrice + 1, Lays: laysOf(1, impl.MaxPrice+1)})
	checkWorth(t, false, impl.Worth{Method: impl.Standard, Price: -1, Lays: laysOf(1, -1)})
	for _, method := range []int{impl.First, impl.Last, impl.Mean} {
		for _, price := range append([]int{1, 2, 10, impl.MaxPrice}, noPrices...) {
			checkWorth(t, false, impl.Worth{Method: method, Price: price})
			checkWorth(t, false, impl.Worth{Method: method, Price: price, Lays: laysOf(4, 4*price)})
			checkWorth(t, false, impl.Worth{Method: method, Price: price, Lays: laysOf(4, 40)})
		}
	}
}

func TestNumbersOfLays(t *testing.T) {
	for _, method := range []int{impl.First, impl.Last, impl.Mean} {
		for _, qty := range []int{1, 2, impl.MaxQty - 1, impl.MaxQty} {
			for _, cost := range []int{0, 1, impl.MaxMoney - 1, impl.MaxMoney} {
				checkWorth(t, true, worthOf(method, qty, cost))
			}
			for _, cost := range noLayCosts {
				checkWorth(t, false, worthOf(method, qty, cost))
			}
		}
		for _, qty := range noQtysAbove0 {
			checkWorth(t, false, worthOf(method, qty, 0))
			checkWorth(t, false, worthOf(method, qty, 5))
		}
	}
	for _, qty := range noQtysAbove0 {
		checkWorth(t, false, impl.Worth{Method: impl.Standard, Price: 3, Lays: laysOf(qty, 3*qty)})
		checkWorth(t, false, impl.Worth{Method: impl.Standard, Lays: laysOf(qty, 0)})
	}
	// One Lay that is none among many, and two that make up for each other.
	for _, method := range []int{impl.First, impl.Last} {
		for _, at := range []int{0, 1, 150, impl.MaxMoves - 1} {
			for _, wrong := range []impl.Lay{{}, {Qty: 1, Cost: -1}, {Qty: -1, Cost: 1}, {Qty: 0, Cost: 9}, {Qty: math.MinInt}, {Qty: 1, Cost: math.MinInt}} {
				w := impl.Worth{Method: method, Lays: manyLays(impl.MaxMoves, 2, 9)}
				w.Lays[at] = wrong
				checkWorth(t, false, w)
			}
		}
		checkWorth(t, false, worthOf(method, 3, impl.MaxMoney+1, 3, -1))
		checkWorth(t, false, worthOf(method, impl.MaxQty+1, 4, -1, 4))
		checkWorth(t, false, worthOf(method, math.MaxInt, 4, math.MaxInt, 4, 5, 1))
		checkWorth(t, false, worthOf(method, 1, math.MaxInt, 1, math.MaxInt, 1, 5))
	}
}

func TestAllLaysTogether(t *testing.T) {
	for _, method := range []int{impl.First, impl.Last} {
		checkWorth(t, true, worthOf(method, impl.MaxQty-1, 5, 1, 5))
		checkWorth(t, false, worthOf(method, impl.MaxQty-1, 5, 2, 5))
		checkWorth(t, false, worthOf(method, impl.MaxQty, 5, 1, 5))
		checkWorth(t, false, worthOf(method, 1, 5, impl.MaxQty, 5))
		checkWorth(t, true, worthOf(method, 1, impl.MaxMoney, 1, 0))
		checkWorth(t, true, worthOf(method, 1, 1, 1, impl.MaxMoney-1))
		checkWorth(t, false, worthOf(method, 1, 1, 1, impl.MaxMoney))
		checkWorth(t, false, worthOf(method, 1, impl.MaxMoney, 1, impl.MaxMoney))
		lays := manyLays(impl.MaxMoves, impl.MaxQty/impl.MaxMoves, impl.MaxMoney/impl.MaxMoves)
		lays[7].Qty += impl.MaxQty % impl.MaxMoves
		lays[9].Cost += impl.MaxMoney % impl.MaxMoves
		checkWorth(t, true, impl.Worth{Method: method, Lays: lays})
		for _, at := range []int{0, 7, 9, impl.MaxMoves - 1} {
			for _, more := range []impl.Lay{{Qty: 1}, {Cost: 1}} {
				w := impl.Worth{Method: method, Lays: slices.Clone(lays)}
				w.Lays[at].Qty += more.Qty
				w.Lays[at].Cost += more.Cost
				checkWorth(t, false, w)
			}
		}
		checkWorth(t, false, impl.Worth{Method: method, Lays: manyLays(impl.MaxMoves, impl.MaxQty, impl.MaxMoney)})
	}
}

func TestOffOfWorths(t *testing.T) {
	for _, off := range []int{0, 1, -1, 27, impl.MaxMoney - 1, impl.MaxMoney, 1 - impl.MaxMoney, -impl.MaxMoney} {
		checkWorth(t, true, standardOf(9, 0, off))
		checkWorth(t, true, standardOf(9, 3, off))
		checkWorth(t, true, standardOf(impl.MaxPrice, impl.MaxQty, off))
	}
	for _, off := range noAmounts {
		checkWorth(t, false, standardOf(9, 0, off))
		checkWorth(t, false, standardOf(9, 3, off))
	}
	for _, method := range []int{impl.First, impl.Last, impl.Mean} {
		for _, off := range append([]int{1, -1, impl.MaxMoney, -impl.MaxMoney}, noAmounts...) {
			checkWorth(t, false, impl.Worth{Method: method, Off: off})
			checkWorth(t, false, impl.Worth{Method: method, Lays: laysOf(3, 27), Off: off})
		}
	}
}

func TestValueByHand(t *testing.T) {
	rows := []struct {
		worth        impl.Worth
		units, costs int
	}{
		{worthOf(impl.First, 4, 40, 2, 31, 1, 0), 7, 71},
		{worthOf(impl.Last, 4, 40, 2, 31, 1, 0), 7, 71},
		{worthOf(impl.Mean, 6, 71), 6, 71},
		{standardOf(9, 6, 17), 6, 54},
		{standardOf(9, 6, -impl.MaxMoney), 6, 54},
		{standardOf(9, 0, 17), 0, 0},
		{worthOf(impl.First), 0, 0},
		{worthOf(impl.Last), 0, 0},
		{worthOf(impl.Mean), 0, 0},
		{worthOf(impl.Mean, 4, 40, 2, 31), 0, 0},
		{worthOf(5, 4, 40), 0, 0},
		{worthOf(impl.First, 4, 40, 0, 31), 0, 0},
		{impl.Worth{Method: impl.Last, Lays: laysOf(4, 40), Off: 1}, 0, 0},
		{worthOf(impl.Mean, impl.MaxQty, impl.MaxMoney), impl.MaxQty, impl.MaxMoney},
		{worthOf(impl.First, impl.MaxQty-1, impl.MaxMoney-2, 1, 2), impl.MaxQty, impl.MaxMoney},
		{worthOf(impl.First, impl.MaxQty-1, impl.MaxMoney-2, 1, 3), 0, 0},
	}
	for _, r := range rows {
		if units, costs := impl.Value(r.worth); units != r.units || costs != r.costs {
			t.Errorf("Value(%v) = %d, %d; want %d, %d", r.worth, units, costs, r.units, r.costs)
		}
		checkWorth(t, wantWorthOk(r.worth), r.worth)
	}
}

// A right Worth whose Lays have at most so many units each.
func someWorth(chance *rand.Rand, method, most int) impl.Worth {
	if method == impl.Standard {
		return standardOf(chance.Intn(40), chance.Intn(most+1), chance.Intn(201)-100)
	}
	w := impl.Worth{Method: method}
	for range chance.Intn(min(mostLaysOf(method), 8) + 1) {
		w.Lays = append(w.Lays, impl.Lay{Qty: 1 + chance.Intn(most), Cost: chance.Intn(2) * chance.Intn(30*most)})
	}
	return w
}

func spoilWorth(chance *rand.Rand, w *impl.Worth) {
	switch chance.Intn(6) {
	case 0:
		w.Method = chance.Intn(8) - 1
	case 1:
		w.Price = []int{w.Price + 1, -1, impl.MaxPrice + 1}[chance.Intn(3)]
	case 2:
		w.Off = []int{1, -1, impl.MaxMoney, impl.MaxMoney + 1, -impl.MaxMoney - 1}[chance.Intn(5)]
	case 3:
		w.Lays = append(w.Lays, impl.Lay{Qty: chance.Intn(3), Cost: chance.Intn(3) - 1})
	case 4:
		w.Lays = append([]impl.Lay{{Qty: impl.MaxQty - chance.Intn(3), Cost: 5}}, w.Lays...)
	case 5:
		w.Lays = append(w.Lays, impl.Lay{Qty: 1, Cost: impl.MaxMoney - chance.Intn(60)})
	}
}

func TestSomeWorths(t *testing.T) {
	chance := rand.New(rand.NewSource(159))
	right, wrong := 0, 0
	for range 4000 {
		w := someWorth(chance, costMethods[chance.Intn(4)], []int{1, 9, 1000}[chance.Intn(3)])
		if chance.Intn(2) == 0 {
			spoilWorth(chance, &w)
		}
		want := wantWorthOk(w)
		checkWorth(t, want, w)
		if want {
			right++
		} else {
			wrong++
		}
	}
	if right < 1000 || wrong < 1000 {
		t.Errorf("%d right, %d wrong", right, wrong)
	}
}

// spoilWorthAnswer overwrites an answer's Lays and all the room behind them.
func spoilWorthAnswer(w impl.Worth) { spoilLays(w.Lays) }

func spoilLays(lays []impl.Lay) {
	for i := range lays[:cap(lays)] {
		lays[:cap(lays)][i] = impl.Lay{Qty: -7, Cost: -7}
	}
}

// Lays with others behind them, of which none is right.
func laysWithMoreBehind(pairs ...int) []impl.Lay {
	lays := append(laysOf(pairs...), laysOf(-3, -3, -4, -4, -5, -5)...)
	return lays[:len(pairs)/2]
}

func TestWorthOkLeavesItsWorth(t *testing.T) {
	lays := laysWithMoreBehind(4, 40, 2, 31)
	kept := slices.Clone(lays[:cap(lays)])
	for range 2 {
		checkWorth(t, true, impl.Worth{Method: impl.First, Lays: lays})
		checkWorth(t, false, impl.Worth{Method: impl.First, Lays: lays[:3]})
		checkWorth(t, true, impl.Worth{Method: impl.Mean, Lays: lays[:1]})
	}
	if !slices.Equal(lays[:cap(lays)], kept) {
		t.Error("a Worth was written into")
	}
}
