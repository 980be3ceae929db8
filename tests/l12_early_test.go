package tests

import (
	"math"
	"math/rand"
	"testing"

	"loop.example/g00040/impl"
)

const wholeEarly = 100000
const mostWithin = 1000

var noEarlyRates = []int{math.MinInt, -wholeEarly, -2, -1, wholeEarly + 1, wholeEarly + 2, impl.MaxFactor, math.MaxInt}

var noWithins = []int{math.MinInt, -mostWithin, -2, -1, mostWithin + 1, mostWithin + 2, impl.MaxDay, math.MaxInt}

func wantEarly(a, day, paid, within, rate int) (int, int, bool) {
	if !amount(a) || !isDay(day) || !isDay(paid) || paid < day || within < 0 || within > mostWithin || rate < 0 || rate > wholeEarly {
		return 0, 0, false
	}
	if day+within < paid {
		return a, 0, true
	}
	kept := wantMulDiv(a, rate, wholeEarly, impl.Half)
	return a - kept, kept, true
}

func checkEarly(t *testing.T, a, day, paid, within, rate, want, wantKept int) {
	t.Helper()
	ownWant, ownKept, ownOk := wantEarly(a, day, paid, within, rate)
	got, kept, ok := impl.EarlyPay(a, day, paid, within, rate)
	if got != want || kept != wantKept || !ok || ownWant != want || ownKept != wantKept || !ownOk {
		t.Errorf("EarlyPay(%d, %d, %d, %d, %d) = %d, %d, %v; want %d, %d, true", a, day, paid, within, rate, got, kept, ok, want, wantKept)
	}
	if got+kept != a {
		t.Errorf("EarlyPay(%d, %d, %d, %d, %d) = %d, %d: together %d", a, day, paid, within, rate, got, kept, got+kept)
	}
}

func refuseEarly(t *testing.T, a, day, paid, within, rate int) {
	t.Helper()
	_, _, ownOk := wantEarly(a, day, paid, within, rate)
	if got, kept, ok := impl.EarlyPay(a, day, paid, within, rate); got != 0 || kept != 0 || ok || ownOk {
		t.Errorf("EarlyPay(%d, %d, %d, %d, %d) = %d, %d, %v; want 0, 0, false", a, day, paid, within, rate, got, kept, ok)
	}
}

func earlyAsWanted(t *testing.T, a, day, paid, within, rate int) bool {
	t.Helper()
	want, kept, ok := wantEarly(a, day, paid, within, rate)
	if ok {
		checkEarly(t, a, day, paid, within, rate, want, kept)
	} else {
		refuseEarly(t, a, day, paid, within, rate)
	}
	return ok
}

func TestEarlyPayByHand(t *testing.T) {
	checkEarly(t, 1000, 5, 9, 4, 2000, 980, 20)
	checkEarly(t, 1000, 5, 10, 4, 2000, 1000, 0)
	checkEarly(t, -1000, 5, 9, 4, 2000, -980, -20)
	checkEarly(t, -1000, 5, 10, 4, 2000, -1000, 0)
	checkEarly(t, 0, 5, 9, 4, 2000, 0, 0)
}

func TestEarlyPayOfDays(t *testing.T) {
	for within := range 6 {
		for paid := 100; paid <= 110; paid++ {
			if paid <= 100+within {
				checkEarly(t, 1000, 100, paid, within, 3000, 970, 30)
			} else {
				checkEarly(t, 1000, 100, paid, within, 3000, 1000, 0)
			}
		}
		refuseEarly(t, 1000, 100, 99, within, 3000)
		refuseEarly(t, 1000, 100, 0, within, 3000)
	}
	checkEarly(t, 1000, 0, 0, 0, 3000, 970, 30)
	checkEarly(t, 1000, 0, 1, 0, 3000, 1000, 0)
	checkEarly(t, 1000, impl.MaxDay, impl.MaxDay, 0, 3000, 970, 30)
	checkEarly(t, 1000, impl.MaxDay, impl.MaxDay, mostWithin, 3000, 970, 30) // the last day within is none, but the day is
	checkEarly(t, 1000, 0, impl.MaxDay, mostWithin, 3000, 1000, 0)
	refuseEarly(t, 1000, impl.MaxDay, impl.MaxDay-1, mostWithin, 3000)
	for _, none := range noDays {
		for _, day := range []int{0, 5, impl.MaxDay} {
			refuseEarly(t, 1000, none, day, 10, 3000)
			refuseEarly(t, 1000, day, none, 10, 3000)
		}
		refuseEarly(t, 1000, none, none, 10, 3000)
	}
}

func TestEarlyPayWithin(t *testing.T) {
	checkEarly(t, 1000, 5, 5+mostWithin, mostWithin, 3000, 970, 30)
	checkEarly(t, 1000, 5, 5+mostWithin+1, mostWithin, 3000, 1000, 0)
	checkEarly(t, 1000, 5, 5+mostWithin, mostWithin-1, 3000, 1000, 0)
	for _, within := range noWithins {
		for _, paid := range []int{5, 6, 2000, impl.MaxDay} {
			refuseEarly(t, 1000, 5, paid, within, 3000)
		}
	}
}

func TestEarlyPayOfRates(t *testing.T) {
	checkEarly(t, 1000, 5, 6, 4, 0, 1000, 0)
	checkEarly(t, 1000, 5, 6, 4, wholeEarly, 0, 1000)
	checkEarly(t, -1000, 5, 6, 4, wholeEarly, 0, -1000)
	checkEarly(t, 1000, 5, 60, 4, wholeEarly, 1000, 0)
	checkEarly(t, 100000, 5, 6, 4, 1, 99999, 1)
	checkEarly(t, 100000, 5, 6, 4, wholeEarly-1, 1, 99999)
	for _, rate := range noEarlyRates {
		for _, paid := range []int{5, 9, 10, 2000} { // also where nothing is kept back
			refuseEarly(t, 1000, 5, paid, 4, rate)
		}
	}
}

func TestEarlyPayRoundsTheHalfAwayFrom0(t *testing.T) {
	rows := [][3]int{ // amount, rate, kept
		{25, 2000, 1}, {24, 2000, 0}, {26, 2000, 1}, {75, 2000, 2}, {74, 2000, 1}, {125, 2000, 3}, {1, 50000, 1}, {1, 49999, 0}, {3, 50000, 2}, {5, 10000, 1}, {4, 10000, 0},
	}
	for _, r := range rows {
		checkEarly(t, r[0], 5, 6, 4, r[1], r[0]-r[2], r[2])
		checkEarly(t, -r[0], 5, 6, 4, r[1], r[2]-r[0], -r[2])
	}
}

func TestEarlyPayOfAmounts(t *testing.T) {
	for _, a := range []int{-impl.MaxMoney, -impl.MaxMoney + 1, -1, 0, 1, impl.MaxMoney - 1, impl.MaxMoney} {
		for _, rate := range []int{0, 1, 49999, 50000, wholeEarly - 1, wholeEarly} {
			for _, paid := range []int{5, 9, 10} {
				if !earlyAsWanted(t, a, 5, paid, 4, rate) {
					t.Errorf("%d is refused", a)
				}
			}
		}
	}
	checkEarly(t, impl.MaxMoney, 5, 6, 4, 2000, impl.MaxMoney/50*49, impl.MaxMoney/50)
	checkEarly(t, -impl.MaxMoney, 5, 6, 4, wholeEarly, 0, -impl.MaxMoney)
	for _, a := range noAmounts {
		for _, paid := range []int{5, 9, 10} {
			refuseEarly(t, a, 5, paid, 4, 2000)
			refuseEarly(t, a, 5, paid, 4, 0)
		}
	}
}

func TestSomeEarlyPays(t *testing.T) {
	chance := rand.New(rand.NewSource(127))
	taken, refused := 0, 0
	for range 20000 {
		a := chance.Intn(2*impl.MaxMoney+1) - impl.MaxMoney
		if chance.Intn(2) == 0 {
			a %= 300
		}
		day := chance.Intn(impl.MaxDay + 1)
		within := chance.Intn(mostWithin+20) - 10
		paid := day + within + chance.Intn(9) - 4
		if earlyAsWanted(t, a, day, paid, within, chance.Intn(wholeEarly+2000)-1000) {
			taken++
		} else {
			refused++
		}
	}
	if taken < 10000 || refused < 500 {
		t.Errorf("%d taken, %d refused", taken, refused)
	}
}
