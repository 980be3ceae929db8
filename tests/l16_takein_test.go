package tests

import (
	"math/rand"
	"slices"
	"testing"

	"loop.example/g00040/impl"
)

// What there was and what came are laid together by the words of each method.
func wantTakeIn(w impl.Worth, qty, cost int) (impl.Worth, bool) {
	came := impl.Lay{Qty: qty, Cost: cost}
	if !wantWorthOk(w) || !wantLayOk(came) {
		return impl.Worth{}, false
	}
	after := impl.Worth{Method: w.Method, Price: w.Price, Off: w.Off, Lays: append(slices.Clone(w.Lays), came)}
	switch w.Method {
	case impl.Mean:
		after.Lays = laysOf(unitsOf(after.Lays), costsOf(after.Lays))
	case impl.Standard:
		paid := costsOf(after.Lays) + w.Off
		after.Lays = laysOf(unitsOf(after.Lays), unitsOf(after.Lays)*w.Price)
		after.Off = paid - after.Lays[0].Cost
	}
	if !wantWorthOk(after) {
		return impl.Worth{}, false
	}
	return after, true
}

func checkIn(t *testing.T, w impl.Worth, qty, cost int, want impl.Worth) impl.Worth {
	t.Helper()
	kept := copyWorth(w)
	got, ok := impl.TakeIn(w, qty, cost)
	other, otherOk := wantTakeIn(w, qty, cost)
	if !ok || !sameWorth(got, want) || !otherOk || !sameWorth(other, want) {
		t.Errorf("TakeIn(%v, %d, %d) = %v, %v; want %v", shortWorth(w), qty, cost, shortWorth(got), ok, shortWorth(want))
	}
	if unitsOf(got.Lays) != unitsOf(w.Lays)+qty || costsOf(got.Lays)+got.Off != costsOf(w.Lays)+w.Off+cost {
		t.Errorf("TakeIn(%v, %d, %d) = %v: not what was there and what came", shortWorth(w), qty, cost, shortWorth(got))
	}
	if !sameWorth(w, kept) {
		t.Fatalf("TakeIn(%v, %d, %d) wrote into its Worth", shortWorth(kept), qty, cost)
	}
	return got
}

func noTakeIn(t *testing.T, w impl.Worth, qty, cost int) {
	t.Helper()
	_, otherOk := wantTakeIn(w, qty, cost)
	if got, ok := impl.TakeIn(w, qty, cost); ok || otherOk || !isZeroWorth(got) {
		t.Errorf("TakeIn(%v, %d, %d) = %v, %v; want nothing", shortWorth(w), qty, cost, shortWorth(got), ok)
	}
}

func TestTakeInByHand(t *testing.T) {
	checkIn(t, worthOf(impl.First), 4, 40, worthOf(impl.First, 4, 40))
	checkIn(t, worthOf(impl.Last), 4, 40, worthOf(impl.Last, 4, 40))
	checkIn(t, worthOf(impl.Mean), 4, 40, worthOf(impl.Mean, 4, 40))
	checkIn(t, standardOf(9, 0, 0), 4, 40, standardOf(9, 4, 4))
	checkIn(t, worthOf(impl.First, 4, 40), 2, 31, worthOf(impl.First, 4, 40, 2, 31))
	checkIn(t, worthOf(impl.Last, 4, 40), 2, 31, worthOf(impl.Last, 4, 40, 2, 31))
	checkIn(t, worthOf(impl.Mean, 4, 40), 2, 31, worthOf(impl.Mean, 6, 71))
	checkIn(t, standardOf(9, 4, 4), 2, 31, standardOf(9, 6, 17))
	// Nothing is laid together that costs alike.
	checkIn(t, worthOf(impl.First, 4, 40), 4, 40, worthOf(impl.First, 4, 40, 4, 40))
	checkIn(t, worthOf(impl.Last, 1, 0, 1, 0), 1, 0, worthOf(impl.Last, 1, 0, 1, 0, 1, 0))
}

func TestWhatIsPaidAndThePrice(t *testing.T) {
	for _, w := range []impl.Worth{standardOf(9, 0, 0), standardOf(9, 5, 0), standardOf(9, 5, -4), standardOf(9, 5, 4)} {
		held := unitsOf(w.Lays)
		checkIn(t, w, 3, 27, standardOf(9, held+3, w.Off))
		checkIn(t, w, 3, 28, standardOf(9, held+3, w.Off+1))
		checkIn(t, w, 3, 26, standardOf(9, held+3, w.Off-1))
		checkIn(t, w, 3, 0, standardOf(9, held+3, w.Off-27))
		checkIn(t, w, 3, 1000, standardOf(9, held+3, w.Off+973))
		checkIn(t, w, 1, 0, standardOf(9, held+1, w.Off-9))
	}
	checkIn(t, standardOf(0, 0, 0), 3, 28, standardOf(0, 3, 28))
	checkIn(t, standardOf(0, 7, 5), 3, 0, standardOf(0, 10, 5))
}

func TestQtysAndCostsThatComeIn(t *testing.T) {
	for _, method := range costMethods {
		for _, w := range []impl.Worth{worthOf(method), worthOf(method, 3, 0)} {
			for _, cost := range []int{0, 1, impl.MaxMoney} {
				for _, qty := range noQtysAbove0 {
					noTakeIn(t, w, qty, cost)
				}
			}
			for _, qty := range []int{1, 7, impl.MaxQty - 3} {
				for _, cost := range noLayCosts {
					noTakeIn(t, w, qty, cost)
				}
				for _, cost := range []int{0, 1, impl.MaxMoney - 1, impl.MaxMoney} {
					want, ok := wantTakeIn(w, qty, cost)
					if !ok {
						t.Fatalf("%d for %d should come in", qty, cost)
					}
					checkIn(t, w, qty, cost, want)
				}
			}
		}
		for _, cost := range []int{0, 1, impl.MaxMoney} {
			want := worthOf(method, impl.MaxQty, cost)
			if method == impl.Standard {
				want = standardOf(0, impl.MaxQty, cost)
			}
			checkIn(t, worthOf(method), impl.MaxQty, cost, want)
		}
	}
}

func TestOneLayTooMany(t *testing.T) {
	for _, method := range []int{impl.First, impl.Last} {
		w := impl.Worth{Method: method, Lays: manyLays(impl.MaxMoves-1, 2, 9)}
		full := checkIn(t, w, 1, 5, impl.Worth{Method: method, Lays: append(slices.Clone(w.Lays), impl.Lay{Qty: 1, Cost: 5})})
		noTakeIn(t, full, 1, 5)
		noTakeIn(t, full, 1, 0)
		noTakeIn(t, impl.Worth{Method: method, Lays: manyLays(impl.MaxMoves, 2, 9)}, 2, 9)
		noTakeIn(t, impl.Worth{Method: method, Lays: manyLays(impl.MaxMoves+1, 2, 9)}, 2, 9)
	}
	mean, standard := worthOf(impl.Mean), standardOf(4, 0, 0)
	for i := range 2 * impl.MaxMoves {
		mean = checkIn(t, mean, 2, 9, worthOf(impl.Mean, 2*i+2, 9*i+9))
		standard = checkIn(t, standard, 2, 9, standardOf(4, 2*i+2, i+1))
	}
}

func TestWhatComesInMayBeTooMuch(t *testing.T) {
	for _, method := range []int{impl.First, impl.Last} {
		checkIn(t, worthOf(method, impl.MaxQty-5, 7), 5, 7, worthOf(method, impl.MaxQty-5, 7, 5, 7))
		noTakeIn(t, worthOf(method, impl.MaxQty-5, 7), 6, 7)
		noTakeIn(t, worthOf(method, impl.MaxQty, 7), 1, 0)
		noTakeIn(t, worthOf(method, 4, 7, impl.MaxQty-8, 7), 5, 0)
		checkIn(t, worthOf(method, 4, impl.MaxMoney-5), 1, 5, worthOf(method, 4, impl.MaxMoney-5, 1, 5))
		noTakeIn(t, worthOf(method, 4, impl.MaxMoney-5), 1, 6)
		noTakeIn(t, worthOf(method, 4, 1), 1, impl.MaxMoney)
		checkIn(t, worthOf(method, 4, impl.MaxMoney), 1, 0, worthOf(method, 4, impl.MaxMoney, 1, 0))
	}
	checkIn(t, worthOf(impl.Mean, impl.MaxQty-5, 7), 5, 7, worthOf(impl.Mean, impl.MaxQty, 14))
	noTakeIn(t, worthOf(impl.Mean, impl.MaxQty-5, 7), 6, 7)
	noTakeIn(t, worthOf(impl.Mean, impl.MaxQty, 7), impl.MaxQty, 7)
	checkIn(t, worthOf(impl.Mean, 4, impl.MaxMoney-5), 1, 5, worthOf(impl.Mean, 5, impl.MaxMoney))
	noTakeIn(t, worthOf(impl.Mean, 4, impl.MaxMoney-5), 1, 6)
	noTakeIn(t, worthOf(impl.Mean, 4, impl.MaxMoney), 1, impl.MaxMoney)
}

// What is too much at standard prices hangs on the Price, and on Off, not on what is paid alone.
func TestWhatComesInMayBeTooMuchAtStandard(t *testing.T) {
	checkIn(t, standardOf(9, impl.MaxQty-5, 0), 5, 45, standardOf(9, impl.MaxQty, 0))
	noTakeIn(t, standardOf(9, impl.MaxQty-5, 0), 6, 54)
	top := impl.MaxPrice
	checkIn(t, standardOf(top, impl.MaxQty-1, 0), 1, top, standardOf(top, impl.MaxQty, 0))
	checkIn(t, standardOf(top, 0, 0), impl.MaxQty, impl.MaxMoney, standardOf(top, impl.MaxQty, 0))
	checkIn(t, standardOf(top, 0, 0), impl.MaxQty, 0, standardOf(top, impl.MaxQty, -impl.MaxMoney))
	noTakeIn(t, standardOf(top, 0, -1), impl.MaxQty, 0)
	checkIn(t, standardOf(top, 0, -1), impl.MaxQty, 1, standardOf(top, impl.MaxQty, -impl.MaxMoney))
	noTakeIn(t, standardOf(top, 1, 0), impl.MaxQty, impl.MaxMoney)
	checkIn(t, standardOf(0, 0, 0), 1, impl.MaxMoney, standardOf(0, 1, impl.MaxMoney))
	noTakeIn(t, standardOf(0, 0, 1), 1, impl.MaxMoney)
	checkIn(t, standardOf(9, 2, impl.MaxMoney-5), 3, 32, standardOf(9, 5, impl.MaxMoney))
	noTakeIn(t, standardOf(9, 2, impl.MaxMoney-5), 3, 33)
	checkIn(t, standardOf(9, 2, 5-impl.MaxMoney), 3, 22, standardOf(9, 5, -impl.MaxMoney))
	noTakeIn(t, standardOf(9, 2, 5-impl.MaxMoney), 3, 21)
	checkIn(t, standardOf(9, 2, -impl.MaxMoney), 1, impl.MaxMoney, standardOf(9, 3, -9))
}

func TestSomeThingsComeIn(t *testing.T) {
	chance := rand.New(rand.NewSource(160))
	came, none := 0, 0
	for range 8000 {
		w := someWorth(chance, costMethods[chance.Intn(4)], []int{1, 9, 1000}[chance.Intn(3)])
		if chance.Intn(3) == 0 {
			spoilWorth(chance, &w)
		}
		qty, cost := chance.Intn(40), chance.Intn(400)-2
		if want, ok := wantTakeIn(w, qty, cost); ok {
			checkIn(t, w, qty, cost, want)
			came++
		} else {
			noTakeIn(t, w, qty, cost)
			none++
		}
	}
	if came < 1000 || none < 1000 {
		t.Errorf("%d came in, %d did not", came, none)
	}
}

// Behind the Lays there is room for one more, in which others stand.
func TestTakeInLeavesItsWorth(t *testing.T) {
	for _, method := range costMethods {
		lays := laysWithMoreBehind(4, 0)
		kept := slices.Clone(lays[:cap(lays)])
		w := impl.Worth{Method: method, Lays: lays}
		for range 2 {
			want, _ := wantTakeIn(w, 3, 8)
			spoilWorthAnswer(checkIn(t, w, 3, 8, want))
			noTakeIn(t, w, impl.MaxQty, 8)
			noTakeIn(t, impl.Worth{Method: method, Lays: lays[:2]}, 3, 8)
			if !slices.Equal(lays[:cap(lays)], kept) {
				t.Fatal("a Worth was written into")
			}
		}
	}
}
