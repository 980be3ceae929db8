package tests

import (
	"math"
	"math/rand"
	"slices"
	"testing"

	"loop.example/g00040/impl"
)

var noInstalCounts = []int{math.MinInt, -impl.MaxInstal, -2, -1, 0, impl.MaxInstal + 1, impl.MaxInstal + 2, impl.MaxParts, impl.MaxParts + 1, math.MaxInt}

// Day, Part, Interest, Left and so on.
func instalsOf(fours ...int) []impl.Instal {
	list := []impl.Instal{}
	for i := 0; i < len(fours); i += 4 {
		list = append(list, impl.Instal{Day: fours[i], Part: fours[i+1], Interest: fours[i+2], Left: fours[i+3]})
	}
	return list
}

// The parts are told by a division alone, and what is left is summed from the end.
func wantInstalments(a, count, rate, first int) []impl.Instal {
	if a <= 0 || !amount(a) || count < 1 || count > impl.MaxInstal || !isSaleRate(rate) || !isDay(first) {
		return nil
	}
	list := make([]impl.Instal, count)
	left := 0
	for i := count - 1; i >= 0; i-- {
		part := a / count
		if i < a%count {
			part++
		}
		ahead := left + part
		list[i] = impl.Instal{Day: wantAddMonths(first, i), Part: part, Interest: wantMulDiv(ahead, rate, wholeSale, impl.Half), Left: left}
		if list[i].Day == -1 {
			return nil
		}
		left = ahead
	}
	return list
}

func months(d impl.Date) int { return 12*d.Year + d.Month }

// P35: together the amount, a month apart, with interest on what is left.
func checkInstalPromise(t *testing.T, a, count, rate, first int, list []impl.Instal) {
	t.Helper()
	left, from := a, dateAt(first)
	for i, n := range list {
		on := dateAt(n.Day)
		if months(on) != months(from)+i || on.Day != min(from.Day, lastOfMonth(on.Year, on.Month)) {
			t.Errorf("Instalments(%d, %d, %d, %d): place %d is on %v, the first on %v", a, count, rate, first, i, on, from)
		}
		if off := 2 * (n.Interest*wholeSale - left*rate); off <= -wholeSale || off > wholeSale {
			t.Errorf("Instalments(%d, %d, %d, %d): place %d bears %d, with %d left ahead of it", a, count, rate, first, i, n.Interest, left)
		}
		left -= n.Part
		if n.Left != left || n.Part < 0 || n.Part > list[0].Part || n.Part < list[0].Part-1 {
			t.Errorf("Instalments(%d, %d, %d, %d): place %d is %v, with %d left", a, count, rate, first, i, n, left)
		}
	}
	if left != 0 || len(list) != count || list[0].Day != first {
		t.Errorf("Instalments(%d, %d, %d, %d): %d parts, with %d left", a, count, rate, first, len(list), left)
	}
}

func checkInstal(t *testing.T, a, count, rate, first int, want ...impl.Instal) {
	t.Helper()
	got := impl.Instalments(a, count, rate, first)
	if !slices.Equal(got, want) || !slices.Equal(wantInstalments(a, count, rate, first), want) {
		t.Errorf("Instalments(%d, %d, %d, %d) = %v; want %v", a, count, rate, first, got, want)
		return
	}
	checkInstalPromise(t, a, count, rate, first, got)
}

func noInstal(t *testing.T, a, count, rate, first int) {
	t.Helper()
	if got := impl.Instalments(a, count, rate, first); len(got) != 0 || len(wantInstalments(a, count, rate, first)) != 0 {
		t.Errorf("Instalments(%d, %d, %d, %d) = %v; want nothing", a, count, rate, first, got)
	}
}

func instalAsWanted(t *testing.T, a, count, rate, first int) bool {
	t.Helper()
	want := wantInstalments(a, count, rate, first)
	if len(want) > 0 {
		checkInstal(t, a, count, rate, first, want...)
	} else {
		noInstal(t, a, count, rate, first)
	}
	return len(want) > 0
}

// Those that must be told.
func takeInstal(t *testing.T, a, count, rate, first int) {
	t.Helper()
	if !instalAsWanted(t, a, count, rate, first) {
		t.Errorf("Instalments(%d, %d, %d, %d) is refused", a, count, rate, first)
	}
}

func TestInstalmentsByHand(t *testing.T) {
	checkInstal(t, 100, 3, 1000, 0, instalsOf(0, 34, 1, 66, 31, 33, 1, 33, 60, 33, 0, 0)...)
	checkInstal(t, 1000, 4, 2000, 14, instalsOf(14, 250, 20, 750, 45, 250, 15, 500, 74, 250, 10, 250, 105, 250, 5, 0)...)
	checkInstal(t, 1002, 4, 0, 14, instalsOf(14, 251, 0, 751, 45, 251, 0, 500, 74, 250, 0, 250, 105, 250, 0, 0)...)
	checkInstal(t, 77, 1, 10000, 14, instalsOf(14, 77, 8, 0)...)
}

func TestInstalmentsOfAmounts(t *testing.T) {
	checkInstal(t, 1, 1, 0, 5, instalsOf(5, 1, 0, 0)...)
	checkInstal(t, 1, 3, 50000, 0, instalsOf(0, 1, 1, 0, 31, 0, 0, 0, 60, 0, 0, 0)...)
	checkInstal(t, 2, 3, 25000, 0, instalsOf(0, 1, 1, 1, 31, 1, 0, 0, 60, 0, 0, 0)...) // more parts than units
	checkInstal(t, 3, 3, 25000, 0, instalsOf(0, 1, 1, 2, 31, 1, 1, 1, 60, 1, 0, 0)...)
	checkInstal(t, impl.MaxMoney, 1, wholeSale, 5, instalsOf(5, impl.MaxMoney, impl.MaxMoney, 0)...)
	for _, a := range []int{1, 2, 119, 120, 121, impl.MaxMoney - 1, impl.MaxMoney} {
		for _, count := range []int{1, 2, 3, 7, 64, impl.MaxInstal} {
			for _, rate := range []int{0, 1, 500, 50000, wholeSale} {
				takeInstal(t, a, count, rate, 100)
			}
		}
	}
	for _, none := range noOpenAmounts {
		for _, count := range []int{1, 3, impl.MaxInstal} {
			noInstal(t, none, count, 0, 5)
			noInstal(t, none, count, 1000, 5)
		}
	}
}

func TestHowManyInstalmentsThereMayBe(t *testing.T) {
	for count := 1; count <= impl.MaxInstal; count++ {
		takeInstal(t, 1000, count, 1000, 30)
		takeInstal(t, 7*count, count, 1000, 30)
	}
	for _, count := range noInstalCounts {
		noInstal(t, 1000, count, 1000, 30)
		noInstal(t, 1, count, 0, 0)
	}
}

func TestRatesOfInstalments(t *testing.T) {
	checkInstal(t, 9, 3, 0, 0, instalsOf(0, 3, 0, 6, 31, 3, 0, 3, 60, 3, 0, 0)...)
	checkInstal(t, 9, 3, wholeSale, 0, instalsOf(0, 3, 9, 6, 31, 3, 6, 3, 60, 3, 3, 0)...)
	checkInstal(t, 50000, 2, 1, 0, instalsOf(0, 25000, 1, 25000, 31, 25000, 0, 0)...)
	for _, none := range noSaleRates {
		noInstal(t, 9, 3, none, 0)
		noInstal(t, impl.MaxMoney, 1, none, 0)
	}
}

func TestInterestRoundsTheHalfUp(t *testing.T) {
	rows := [][3]int{ // amount, rate, interest
		{25, 2000, 1}, {24, 2000, 0}, {26, 2000, 1}, {75, 2000, 2}, {74, 2000, 1}, {125, 2000, 3}, {1, 50000, 1}, {1, 49999, 0}, {3, 50000, 2}, {5, 50000, 3},
	}
	for _, r := range rows {
		checkInstal(t, r[0], 1, r[1], 9, instalsOf(9, r[0], r[2], 0)...)
	}
	checkInstal(t, 7, 7, 50000, 0, instalsOf(0, 1, 4, 6, 31, 1, 3, 5, 60, 1, 3, 4, 91, 1, 2, 3, 121, 1, 2, 2, 152, 1, 1, 1, 182, 1, 1, 0)...)
}

// From a month's last day on the later ones are shorter, and behind them it is that date again.
func TestInstalmentsFromTheEndOfAMonth(t *testing.T) {
	days := func(year int, dates ...int) []int { // month, day and so on; a month of 13 is the next January
		list := []int{}
		for i := 0; i < len(dates); i += 2 {
			list = append(list, dayOfDate(year, dates[i], dates[i+1]))
		}
		return list
	}
	rows := [][]int{
		days(2000, 1, 31, 2, 29, 3, 31, 4, 30, 5, 31, 6, 30, 7, 31),
		days(2001, 1, 31, 2, 28, 3, 31, 4, 30, 5, 31),
		days(2001, 1, 30, 2, 28, 3, 30, 4, 30, 5, 30),
		days(2001, 1, 29, 2, 28, 3, 29, 4, 29, 5, 29),
		days(2001, 1, 28, 2, 28, 3, 28, 4, 28),
		days(2000, 1, 29, 2, 29, 3, 29),
		days(2000, 2, 29, 3, 29, 4, 29),
		days(2001, 2, 28, 3, 28, 4, 28),
		days(2001, 4, 30, 5, 30, 6, 30, 7, 30),
		days(2001, 8, 31, 9, 30, 10, 31, 11, 30, 12, 31, 13, 31, 14, 28, 15, 31),
		days(2003, 12, 31, 13, 31, 14, 29, 15, 31),
		days(2100, 1, 31, 2, 28, 3, 31),
	}
	for _, row := range rows {
		got := impl.Instalments(100, len(row), 0, row[0])
		for i, n := range got {
			if n.Day != row[i] {
				t.Errorf("from %v on place %d is on %v; want %v", dateAt(row[0]), i, dateAt(n.Day), dateAt(row[i]))
			}
		}
		takeInstal(t, 100, len(row), 1000, row[0])
	}
}

func TestInstalmentsUpToTheLastDay(t *testing.T) {
	checkInstal(t, 9, 1, 0, 0, instalsOf(0, 9, 0, 0)...)
	checkInstal(t, 9, 1, 0, impl.MaxDay, instalsOf(impl.MaxDay, 9, 0, 0)...)
	noInstal(t, 9, 2, 0, impl.MaxDay)
	noInstal(t, 9, impl.MaxInstal, 0, impl.MaxDay)
	for count := 2; count <= impl.MaxInstal; count++ {
		first := wantAddMonths(impl.MaxDay, 1-count)
		takeInstal(t, 1000, count, 1000, first)
		noInstal(t, 1000, count+1, 1000, first)
		noInstal(t, 1000, count, 1000, first+1)
		takeInstal(t, 1000, count-1, 1000, first+1)
	}
	for _, none := range noDays {
		for _, count := range []int{1, 2, impl.MaxInstal} {
			noInstal(t, 9, count, 0, none)
		}
	}
}

func TestSomeInstalments(t *testing.T) {
	chance := rand.New(rand.NewSource(137))
	told, none := 0, 0
	for range 3000 {
		a := 1 + chance.Intn(impl.MaxMoney)
		if chance.Intn(2) == 0 {
			a = chance.Intn(300)
		}
		first := chance.Intn(impl.MaxDay + 1)
		if chance.Intn(3) == 0 {
			first = impl.MaxDay - chance.Intn(2500)
		}
		if instalAsWanted(t, a, chance.Intn(impl.MaxInstal+5), chance.Intn(wholeSale+2000)-1000, first) {
			told++
		} else {
			none++
		}
	}
	if told < 1500 || none < 300 {
		t.Errorf("%d told, %d not", told, none)
	}
}

func TestInstalmentsAreNewEachTime(t *testing.T) {
	want := wantInstalments(100, 5, 1000, 30)
	first := impl.Instalments(100, 5, 1000, 30)
	for i := range first[:cap(first)] {
		first[:cap(first)][i] = impl.Instal{Day: -7, Part: -7, Interest: -7, Left: -7}
	}
	checkInstal(t, 100, 5, 1000, 30, want...)
}
