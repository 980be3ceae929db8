package tests

import (
	"math"
	"math/rand"
	"testing"

	"loop.example/g00040/impl"
)

func wantCredit(total, qty, before, more int) (int, bool) {
	if !amount(total) || qty == 0 || !isQty(qty) || !isQty(before) || !isQty(more) || before+more > qty {
		return 0, false
	}
	return wantMulDiv(total, before+more, qty, impl.Half) - wantMulDiv(total, before, qty, impl.Half), true
}

func checkCredit(t *testing.T, total, qty, before, more, want int) {
	t.Helper()
	wanted, wantOk := wantCredit(total, qty, before, more)
	if got, ok := impl.CreditNote(total, qty, before, more); got != want || !ok || wanted != want || !wantOk {
		t.Errorf("CreditNote(%d, %d, %d, %d) = %d, %v; want %d, true", total, qty, before, more, got, ok, want)
	}
}

func refuseCredit(t *testing.T, total, qty, before, more int) {
	t.Helper()
	_, wantOk := wantCredit(total, qty, before, more)
	if got, ok := impl.CreditNote(total, qty, before, more); got != 0 || ok || wantOk {
		t.Errorf("CreditNote(%d, %d, %d, %d) = %d, %v; want 0, false", total, qty, before, more, got, ok)
	}
}

func creditAsWanted(t *testing.T, total, qty, before, more int) bool {
	t.Helper()
	want, ok := wantCredit(total, qty, before, more)
	if ok {
		checkCredit(t, total, qty, before, more, want)
	} else {
		refuseCredit(t, total, qty, before, more)
	}
	return ok
}

// P33: what comes back in these steps, all of qty, is credited with the total; up to each of them with the nearest to its part.
func checkCreditSteps(t *testing.T, total, qty int, steps ...int) {
	t.Helper()
	before, given := 0, 0
	for _, more := range steps {
		note, ok := impl.CreditNote(total, qty, before, more)
		if !ok {
			t.Errorf("CreditNote(%d, %d, %d, %d) is refused", total, qty, before, more)
		}
		before, given = before+more, given+note
		if off := 2 * (given*qty - total*before); off < -qty || off > qty {
			t.Errorf("%d of %d sold for %d came back in steps of %v, and %d are given", before, qty, total, steps, given)
		}
	}
	if before != qty || given != total {
		t.Errorf("%d of %d sold for %d came back in steps of %v, and %d are given", before, qty, total, steps, given)
	}
}

func someSteps(chance *rand.Rand, qty int) []int {
	steps := []int{}
	for left := qty; left > 0; left -= steps[len(steps)-1] {
		steps = append(steps, chance.Intn(left+1))
		if chance.Intn(4) == 0 {
			steps[len(steps)-1] = min(1, left)
		}
	}
	return steps
}

func TestCreditNoteByHand(t *testing.T) {
	for i, want := range []int{33, 34, 33} {
		checkCredit(t, 100, 3, i, 1, want)
		checkCredit(t, -100, 3, i, 1, -want)
	}
	checkCredit(t, 100, 3, 0, 2, 67)
	checkCredit(t, 100, 3, 1, 2, 67)
	checkCredit(t, 100, 3, 0, 3, 100)
	checkCredit(t, 1000, 10, 3, 4, 400)
	for i, want := range []int{0, 0, 1, 0, 0} { // 2 by 5 is nothing yet, 3 by 5 is one
		checkCredit(t, 1, 5, i, 1, want)
	}
}

// A half goes away from 0, of what came back before too: so it is credited with the first, and what comes behind has less.
func TestCreditNoteRoundsTheHalfAwayFrom0(t *testing.T) {
	rows := [][5]int{ // total, qty, before, more, credit
		{1, 2, 0, 1, 1}, {1, 2, 1, 1, 0}, {3, 2, 0, 1, 2}, {3, 2, 1, 1, 1}, {5, 2, 0, 1, 3}, {5, 2, 1, 1, 2},
		{10, 4, 0, 1, 3}, {10, 4, 1, 1, 2}, {10, 4, 2, 1, 3}, {10, 4, 3, 1, 2}, {10, 4, 1, 2, 5}, {10, 4, 1, 3, 7},
		{9, 6, 0, 1, 2}, {9, 6, 1, 1, 1}, {9, 6, 1, 2, 3}, {9, 6, 0, 3, 5}, {9, 6, 3, 3, 4}, {1, 3, 0, 1, 0}, {1, 3, 1, 1, 1},
	}
	for _, r := range rows {
		checkCredit(t, r[0], r[1], r[2], r[3], r[4])
		checkCredit(t, -r[0], r[1], r[2], r[3], -r[4])
	}
}

func TestCreditNoteOfTotals(t *testing.T) {
	for _, total := range []int{-impl.MaxMoney, -impl.MaxMoney + 1, -1, 0, 1, impl.MaxMoney - 1, impl.MaxMoney} {
		for _, qty := range []int{1, 2, 3, 7, impl.MaxQty - 1, impl.MaxQty} {
			checkCredit(t, total, qty, 0, qty, total)
			checkCredit(t, total, qty, 0, 0, 0)
			checkCredit(t, total, qty, qty, 0, 0)
			for _, before := range []int{0, 1, qty / 2, qty - 1, qty} {
				if !creditAsWanted(t, total, qty, before, qty-before) {
					t.Errorf("%d for %d is refused", total, qty)
				}
			}
		}
	}
	checkCredit(t, impl.MaxMoney, impl.MaxQty, impl.MaxQty-1, 1, impl.MaxMoney/impl.MaxQty)
	checkCredit(t, -impl.MaxMoney, impl.MaxQty, impl.MaxQty-1, 1, -impl.MaxMoney/impl.MaxQty)
	for _, total := range noAmounts {
		for _, qty := range []int{1, 3, impl.MaxQty} {
			refuseCredit(t, total, qty, 0, 0) // also where nothing comes back
			refuseCredit(t, total, qty, 0, 1)
			refuseCredit(t, total, qty, qty, 0)
		}
	}
}

func TestCreditNoteOfQuantities(t *testing.T) {
	checkCredit(t, 100, 1, 0, 1, 100)
	checkCredit(t, 100, 1, 1, 0, 0)
	checkCredit(t, 100, impl.MaxQty, 0, impl.MaxQty, 100)
	checkCredit(t, 100, impl.MaxQty, impl.MaxQty/2, impl.MaxQty/2, 50)
	for _, qty := range noQtysAbove0 {
		refuseCredit(t, 100, qty, 0, 0)
		refuseCredit(t, 100, qty, 0, 1)
		refuseCredit(t, 0, qty, 0, 0)
		refuseCredit(t, 100, qty, 0, qty)
		refuseCredit(t, 100, qty, qty, 0)
	}
}

func TestCreditNoteOfWhatComesBack(t *testing.T) {
	for _, qty := range []int{1, 2, 5, impl.MaxQty} {
		for _, before := range []int{0, 1, qty / 2, qty - 1, qty} {
			if !creditAsWanted(t, 77, qty, before, qty-before) {
				t.Errorf("%d behind %d of %d are refused", qty-before, before, qty)
			}
			refuseCredit(t, 77, qty, before, qty-before+1)
			refuseCredit(t, 77, qty, before, -1)
			refuseCredit(t, 77, qty, -1, before)
		}
		refuseCredit(t, 77, qty, qty+1, 0)
		refuseCredit(t, 77, qty, qty+1, -1) // together no more than qty, but one is below 0
		refuseCredit(t, 77, qty, -1, qty+1)
		refuseCredit(t, 77, qty, -1, 1)
		refuseCredit(t, 77, qty, math.MaxInt, 0)
		refuseCredit(t, 77, qty, 0, math.MaxInt)
		refuseCredit(t, 77, qty, math.MaxInt, math.MaxInt) // together -2, if numbers are let wrap round
		refuseCredit(t, 77, qty, math.MaxInt, 1)
		refuseCredit(t, 77, qty, 1, math.MaxInt)
		refuseCredit(t, 77, qty, math.MinInt, math.MinInt) // together 0, likewise
		refuseCredit(t, 77, qty, math.MinInt, math.MaxInt)
	}
}

func TestAllCreditNotesOfFewAreTheTotal(t *testing.T) {
	for total := -30; total <= 30; total++ {
		for qty := 1; qty <= 12; qty++ {
			checkCreditSteps(t, total, qty, repeated(1, qty)...)
			checkCreditSteps(t, total, qty, qty)
			for first := range qty + 1 {
				checkCreditSteps(t, total, qty, first, qty-first)
				checkCreditSteps(t, total, qty, first, 0, (qty-first)/2, qty-first-(qty-first)/2)
				for more := range qty - first + 1 {
					creditAsWanted(t, total, qty, first, more)
				}
			}
		}
	}
}

func TestAllCreditNotesAreTheTotal(t *testing.T) {
	chance := rand.New(rand.NewSource(133))
	for range 4000 {
		total := chance.Intn(2*impl.MaxMoney+1) - impl.MaxMoney
		qty := 1 + chance.Intn(impl.MaxQty)
		switch chance.Intn(3) {
		case 0:
			total %= 1000
		case 1:
			qty = 1 + qty%50
		}
		checkCreditSteps(t, total, qty, someSteps(chance, qty)...)
	}
	checkCreditSteps(t, impl.MaxMoney, impl.MaxQty, repeated(1, impl.MaxQty)...)
	checkCreditSteps(t, -impl.MaxMoney+1, impl.MaxQty, repeated(2, impl.MaxQty/2)...)
	checkCreditSteps(t, 1, impl.MaxQty, repeated(1000, impl.MaxQty/1000)...)
}

// What was sold by ladder and discounts comes back, in whatever steps, for what it was sold for.
func TestWhatWasSoldComesBackForItsPrice(t *testing.T) {
	chance := rand.New(rand.NewSource(134))
	for range 2000 {
		price, qty := chance.Intn(impl.MaxPrice+1), 1+chance.Intn(40)
		rates := []int{chance.Intn(wholeSale + 1), chance.Intn(20000), chance.Intn(10000)}[:chance.Intn(4)]
		total, ok := impl.SalePrice(price, qty, someLadder(chance), rates)
		if !ok || total < 0 || total > price*qty {
			t.Errorf("%d of the price %d are sold for %d, %v", qty, price, total, ok)
		}
		checkCreditSteps(t, total, qty, someSteps(chance, qty)...)
	}
}

func TestSomeCreditNotes(t *testing.T) {
	chance := rand.New(rand.NewSource(135))
	taken, refused := 0, 0
	for range 20000 {
		total := chance.Intn(2*impl.MaxMoney+2000) - impl.MaxMoney - 1000
		qty := chance.Intn(impl.MaxQty + 2000)
		if chance.Intn(2) == 0 {
			total, qty = total%200, qty%30
		}
		before := chance.Intn(qty + 2)
		if creditAsWanted(t, total, qty, before-chance.Intn(2), chance.Intn(max(qty-before, 0)+3)-1) {
			taken++
		} else {
			refused++
		}
	}
	if taken < 10000 || refused < 1000 {
		t.Errorf("%d taken, %d refused", taken, refused)
	}
}
