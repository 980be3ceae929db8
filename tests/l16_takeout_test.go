package tests

import (
	"math/rand"
	"slices"
	"testing"

	"loop.example/g00040/impl"
)

// Of each Lay goes what is asked for past all Lays that go ahead of it; nothing is taken step by step.
func wantTakeOut(w impl.Worth, qty int) (impl.Worth, int, bool) {
	if !wantWorthOk(w) || qty < 1 || qty > unitsOf(w.Lays) {
		return impl.Worth{}, 0, false
	}
	after, all := impl.Worth{Method: w.Method, Price: w.Price, Off: w.Off}, 0
	for i, l := range w.Lays {
		ahead := unitsOf(w.Lays[:i])
		if w.Method == impl.Last {
			ahead = unitsOf(w.Lays[i+1:])
		}
		taken := max(0, min(l.Qty, qty-ahead))
		cost := wantMulDiv(l.Cost, taken, l.Qty, impl.Half)
		if w.Method == impl.Standard {
			cost = taken * w.Price
		}
		all += cost
		if taken < l.Qty {
			after.Lays = append(after.Lays, impl.Lay{Qty: l.Qty - taken, Cost: l.Cost - cost})
		}
	}
	return after, all, true
}

func checkOut(t *testing.T, w impl.Worth, qty int, want impl.Worth, cost int) impl.Worth {
	t.Helper()
	kept := copyWorth(w)
	got, gotCost, ok := impl.TakeOut(w, qty)
	other, otherCost, otherOk := wantTakeOut(w, qty)
	if !ok || gotCost != cost || !sameWorth(got, want) || !otherOk || otherCost != cost || !sameWorth(other, want) {
		t.Errorf("TakeOut(%v, %d) = %v, %d, %v; want %v, %d", shortWorth(w), qty, shortWorth(got), gotCost, ok, shortWorth(want), cost)
	}
	if unitsOf(got.Lays)+qty != unitsOf(w.Lays) || costsOf(got.Lays)+gotCost != costsOf(w.Lays) || got.Off != w.Off {
		t.Errorf("TakeOut(%v, %d) = %v, %d: not what was there less what went", shortWorth(w), qty, shortWorth(got), gotCost)
	}
	if !wantWorthOk(got) {
		t.Errorf("TakeOut(%v, %d) = %v: not right", shortWorth(w), qty, shortWorth(got))
	}
	if !sameWorth(w, kept) {
		t.Fatalf("TakeOut(%v, %d) wrote into its Worth", shortWorth(kept), qty)
	}
	return got
}

func noTakeOut(t *testing.T, w impl.Worth, qty int) {
	t.Helper()
	_, _, otherOk := wantTakeOut(w, qty)
	if got, cost, ok := impl.TakeOut(w, qty); ok || otherOk || cost != 0 || !isZeroWorth(got) {
		t.Errorf("TakeOut(%v, %d) = %v, %d, %v; want nothing", shortWorth(w), qty, shortWorth(got), cost, ok)
	}
}

func TestTakeOutFirst(t *testing.T) {
	w := worthOf(impl.First, 4, 40, 2, 31, 3, 10)
	checkOut(t, w, 1, worthOf(impl.First, 3, 30, 2, 31, 3, 10), 10)
	checkOut(t, w, 3, worthOf(impl.First, 1, 10, 2, 31, 3, 10), 30)
	checkOut(t, w, 4, worthOf(impl.First, 2, 31, 3, 10), 40)
	checkOut(t, w, 5, worthOf(impl.First, 1, 15, 3, 10), 56)
	checkOut(t, w, 6, worthOf(impl.First, 3, 10), 71)
	checkOut(t, w, 7, worthOf(impl.First, 2, 7), 74)
	checkOut(t, w, 8, worthOf(impl.First, 1, 3), 78)
	checkOut(t, w, 9, worthOf(impl.First), 81)
	noTakeOut(t, w, 10)
}

func TestTakeOutLast(t *testing.T) {
	w := worthOf(impl.Last, 4, 40, 2, 31, 3, 10)
	checkOut(t, w, 1, worthOf(impl.Last, 4, 40, 2, 31, 2, 7), 3)
	checkOut(t, w, 2, worthOf(impl.Last, 4, 40, 2, 31, 1, 3), 7)
	checkOut(t, w, 3, worthOf(impl.Last, 4, 40, 2, 31), 10)
	checkOut(t, w, 4, worthOf(impl.Last, 4, 40, 1, 15), 26)
	checkOut(t, w, 5, worthOf(impl.Last, 4, 40), 41)
	checkOut(t, w, 6, worthOf(impl.Last, 3, 30), 51)
	checkOut(t, w, 8, worthOf(impl.Last, 1, 10), 71)
	checkOut(t, w, 9, worthOf(impl.Last), 81)
	noTakeOut(t, w, 10)
}

func TestTakeOutMean(t *testing.T) {
	w := worthOf(impl.Mean, 6, 71)
	checkOut(t, w, 1, worthOf(impl.Mean, 5, 59), 12)
	checkOut(t, w, 2, worthOf(impl.Mean, 4, 47), 24)
	checkOut(t, w, 3, worthOf(impl.Mean, 3, 35), 36) // 35 and a half is rounded up
	checkOut(t, w, 4, worthOf(impl.Mean, 2, 24), 47)
	checkOut(t, w, 5, worthOf(impl.Mean, 1, 12), 59)
	checkOut(t, w, 6, worthOf(impl.Mean), 71)
	noTakeOut(t, w, 7)
	// Taken one by one, each has its part of what the others left.
	for _, cost := range []int{12, 12, 12, 12, 12, 11} {
		if after, got, ok := impl.TakeOut(w, 1); !ok || got != cost {
			t.Errorf("TakeOut(%v, 1) = %v, %d, %v; want %d", w, after, got, ok, cost)
		} else {
			w = after
		}
	}
	if !sameWorth(w, worthOf(impl.Mean)) {
		t.Errorf("%v is left", w)
	}
}

func TestTakeOutStandard(t *testing.T) {
	for _, off := range []int{0, 17, -17, impl.MaxMoney, -impl.MaxMoney} {
		for _, price := range []int{0, 1, 9, impl.MaxPrice} {
			w := standardOf(price, 6, off)
			for qty := 1; qty <= 6; qty++ {
				checkOut(t, w, qty, standardOf(price, 6-qty, off), qty*price)
			}
			noTakeOut(t, w, 7)
		}
	}
	checkOut(t, standardOf(impl.MaxPrice, impl.MaxQty, 3), impl.MaxQty, standardOf(impl.MaxPrice, 0, 3), impl.MaxMoney)
	checkOut(t, standardOf(impl.MaxPrice, impl.MaxQty, 3), impl.MaxQty-1, standardOf(impl.MaxPrice, 1, 3), impl.MaxMoney-impl.MaxPrice)
	checkOut(t, standardOf(99991, 999983, 0), 333337, standardOf(99991, 999983-333337, 0), 333337*99991)
}

// What is cut off or laid on by the rounding stays with the rest, or comes from it.
func TestPartsThatAreRounded(t *testing.T) {
	for _, method := range []int{impl.First, impl.Last, impl.Mean} {
		checkOut(t, worthOf(method, 2, 1), 1, worthOf(method, 1, 0), 1)
		checkOut(t, worthOf(method, 3, 1), 1, worthOf(method, 2, 1), 0)
		checkOut(t, worthOf(method, 3, 1), 2, worthOf(method, 1, 0), 1)
		checkOut(t, worthOf(method, 4, 2), 1, worthOf(method, 3, 1), 1)
		checkOut(t, worthOf(method, 4, 2), 3, worthOf(method, 1, 0), 2)
		checkOut(t, worthOf(method, 4, 6), 1, worthOf(method, 3, 4), 2)
		checkOut(t, worthOf(method, 1000, 499), 1, worthOf(method, 999, 499), 0)
		checkOut(t, worthOf(method, 1000, 500), 1, worthOf(method, 999, 499), 1)
		checkOut(t, worthOf(method, impl.MaxQty, impl.MaxMoney-1), impl.MaxQty-1, worthOf(method, 1, 100000), impl.MaxMoney-100001)
		checkOut(t, worthOf(method, 7, impl.MaxMoney), 3, worthOf(method, 4, 57142857143), 42857142857)
	}
	// The whole Lay goes with its Cost, however the part of the next one is rounded.
	checkOut(t, worthOf(impl.First, 3, 1, 2, 1), 4, worthOf(impl.First, 1, 0), 2)
	checkOut(t, worthOf(impl.Last, 2, 1, 3, 1), 4, worthOf(impl.Last, 1, 0), 2)
	checkOut(t, worthOf(impl.First, 3, 1, 2, 1, 5, 9), 5, worthOf(impl.First, 5, 9), 2)
}

func TestLaysThatCostNothing(t *testing.T) {
	for _, method := range costMethods {
		w := worthOf(method, 5, 0)
		for qty := 1; qty < 5; qty++ {
			checkOut(t, w, qty, worthOf(method, 5-qty, 0), 0)
		}
		checkOut(t, w, 5, worthOf(method), 0)
	}
	checkOut(t, worthOf(impl.First, 5, 0, 2, 9, 1, 0), 6, worthOf(impl.First, 1, 4, 1, 0), 5)
	checkOut(t, worthOf(impl.Last, 5, 0, 2, 9, 1, 0), 2, worthOf(impl.Last, 5, 0, 1, 4), 5)
	checkOut(t, worthOf(impl.Last, 5, 0, 2, 9, 1, 0), 1, worthOf(impl.Last, 5, 0, 2, 9), 0)
}

func TestQtysThatGoOut(t *testing.T) {
	for _, method := range costMethods {
		for _, held := range []int{1, 6, impl.MaxQty} {
			w := worthOf(method, held, 0)
			for _, qty := range noQtysAbove0 {
				noTakeOut(t, w, qty)
			}
			checkOut(t, w, held, worthOf(method), 0)
			noTakeOut(t, w, held+1)
		}
		noTakeOut(t, worthOf(method), 1)
		noTakeOut(t, worthOf(method), impl.MaxQty)
		noTakeOut(t, worthOf(method), 0)
	}
	for _, method := range []int{impl.First, impl.Last} {
		w := worthOf(method, impl.MaxQty-3, 70, 1, 5, 2, 9)
		checkOut(t, w, impl.MaxQty, worthOf(method), 84)
		noTakeOut(t, w, impl.MaxQty+1)
	}
}

func TestManyLaysGoOut(t *testing.T) {
	for _, method := range []int{impl.First, impl.Last} {
		lays := make([]impl.Lay, impl.MaxMoves)
		for i := range lays {
			lays[i] = impl.Lay{Qty: 1 + i%5, Cost: i * i % 97}
		}
		w := impl.Worth{Method: method, Lays: lays}
		for qty := 1; qty <= unitsOf(lays); qty += 7 {
			want, cost, _ := wantTakeOut(w, qty)
			checkOut(t, w, qty, want, cost)
		}
		checkOut(t, w, unitsOf(lays), worthOf(method), costsOf(lays))
		noTakeOut(t, w, unitsOf(lays)+1)
		noTakeOut(t, impl.Worth{Method: method, Lays: manyLays(impl.MaxMoves+1, 1, 1)}, 1)
	}
}

func TestSomeThingsGoOut(t *testing.T) {
	chance := rand.New(rand.NewSource(161))
	went, none := 0, 0
	for range 10000 {
		w := someWorth(chance, costMethods[chance.Intn(4)], []int{1, 9, 1000}[chance.Intn(3)])
		if chance.Intn(5) == 0 {
			spoilWorth(chance, &w)
		}
		qty := chance.Intn(12)
		if wantWorthOk(w) && chance.Intn(2) == 0 {
			qty = chance.Intn(unitsOf(w.Lays) + 3)
		}
		if want, cost, ok := wantTakeOut(w, qty); ok {
			checkOut(t, w, qty, want, cost)
			went++
		} else {
			noTakeOut(t, w, qty)
			none++
		}
	}
	if went < 1000 || none < 1000 {
		t.Errorf("%d went out, %d did not", went, none)
	}
}

// A part of a Lay is written into the answer alone, and so is what moves up when a Lay is gone.
func TestTakeOutLeavesItsWorth(t *testing.T) {
	for _, method := range []int{impl.First, impl.Last} {
		lays := laysWithMoreBehind(4, 40, 2, 31, 3, 10)
		kept := slices.Clone(lays[:cap(lays)])
		w := impl.Worth{Method: method, Lays: lays}
		for range 2 {
			for qty := 1; qty <= 9; qty++ {
				want, cost, _ := wantTakeOut(w, qty)
				spoilWorthAnswer(checkOut(t, w, qty, want, cost))
			}
			noTakeOut(t, w, 10)
			if !slices.Equal(lays[:cap(lays)], kept) {
				t.Fatal("a Worth was written into")
			}
		}
	}
	for _, method := range []int{impl.Mean, impl.Standard} {
		lays := laysWithMoreBehind(4, 0)
		kept := slices.Clone(lays[:cap(lays)])
		w := impl.Worth{Method: method, Lays: lays}
		for range 2 {
			spoilWorthAnswer(checkOut(t, w, 1, worthOf(method, 3, 0), 0))
			spoilWorthAnswer(checkOut(t, w, 4, worthOf(method), 0))
			if !slices.Equal(lays[:cap(lays)], kept) {
				t.Fatal("a Worth was written into")
			}
		}
	}
}
