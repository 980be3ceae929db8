package tests

import (
	"math"
	"math/rand"
	"slices"
	"testing"

	"loop.example/g00040/impl"
)

var noCounts = []int{math.MinInt, -impl.MaxCurs, -1, 0, impl.MaxCurs + 1, impl.MaxCurs + 2, math.MaxInt}

func curCount(n int) bool { return n >= 1 && n <= impl.MaxCurs }

func checkRatesOk(t *testing.T, list []impl.Rate, n int, want bool) {
	t.Helper()
	if got := impl.RatesOk(list, n); got != want {
		t.Errorf("RatesOk(%d rates, %d) = %v; want %v; the first ones: %v", len(list), n, got, want, list[:min(4, len(list))])
	}
}

func checkRateAt(t *testing.T, list []impl.Rate, n, from, day, wantNum, wantDen int) {
	t.Helper()
	num, den, ok := impl.RateAt(list, n, from, day)
	if num != wantNum || den != wantDen || ok != (wantNum != 0) {
		t.Errorf("RateAt(%d rates, %d, %d, %d) = %d, %d, %v; want %d, %d, %v", len(list), n, from, day, num, den, ok, wantNum, wantDen, wantNum != 0)
	}
}

func noRateAt(t *testing.T, list []impl.Rate, n, from, day int) {
	t.Helper()
	checkRateAt(t, list, n, from, day, 0, 0)
}

// Every two rates are held against each other, not only neighbours.
func wantRatesOk(list []impl.Rate, n int) bool {
	if !curCount(n) || len(list) > impl.MaxRates {
		return false
	}
	for i, r := range list {
		if !isDay(r.Day) || r.From < 1 || r.From > n-1 || r.Num < 1 || r.Num > impl.MaxFactor || r.Den < 1 || r.Den > impl.MaxFactor {
			return false
		}
		for _, later := range list[i+1:] {
			if later.Day < r.Day || later.Day == r.Day && later.From <= r.From {
				return false
			}
		}
	}
	return true
}

func wantRateAt(list []impl.Rate, n, from, day int) (num, den int) {
	if !wantRatesOk(list, n) {
		return 0, 0
	}
	return lastRate(list, n, from, day)
}

// The whole list, which is right, is gone through, and the last rate that serves is kept.
func lastRate(list []impl.Rate, n, from, day int) (num, den int) {
	if from < 0 || from >= n || !isDay(day) {
		return 0, 0
	}
	if from == 0 {
		return 1, 1
	}
	for _, r := range list {
		if r.From == from && r.Day <= day {
			num, den = r.Num, r.Den
		}
	}
	return num, den
}

// Right for n currencies: on each day, as many as there is room for, each of its own rate.
func fullRates(count, n int) []impl.Rate {
	list := make([]impl.Rate, count)
	for i := range list {
		list[i] = impl.Rate{Day: 10 + 3*(i/(n-1)), From: 1 + i%(n-1), Num: 1 + i, Den: 1000 - i}
	}
	return list
}

func someRates(chance *rand.Rand, n int) []impl.Rate {
	list := []impl.Rate{}
	for day := chance.Intn(20); day <= impl.MaxDay && len(list) < 60; day += 1 + chance.Intn(900) {
		for from := 1; from < n; from++ {
			if chance.Intn(3) == 0 {
				list = append(list, impl.Rate{Day: day, From: from, Num: someDivisor(chance), Den: someDivisor(chance)})
			}
		}
	}
	return list
}

func someDivisor(chance *rand.Rand) int {
	switch chance.Intn(4) {
	case 0:
		return 1 + chance.Intn(3)
	case 1:
		return impl.MaxFactor - chance.Intn(3)
	}
	return 1 + chance.Intn(impl.MaxFactor)
}

// Right for 4 currencies; on the days 0 and 20 there are two, and the last currency begins late.
func handRates() []impl.Rate {
	return []impl.Rate{
		{Day: 0, From: 1, Num: 3, Den: 2},
		{Day: 0, From: 2, Num: 1, Den: 4},
		{Day: 10, From: 1, Num: 2, Den: 1},
		{Day: 20, From: 1, Num: 5, Den: 3},
		{Day: 20, From: 3, Num: 7, Den: 9},
		{Day: impl.MaxDay, From: 3, Num: impl.MaxFactor, Den: 1},
	}
}

// One of a right table's rates is spoilt, each in another way; what stands ahead of it and behind it is right.
func wrongRates() [][]impl.Rate {
	base := handRates()
	lists := [][]impl.Rate{}
	put := func(r impl.Rate) {
		for at := range base {
			list := slices.Clone(base)
			list[at] = r
			lists = append(lists, list)
		}
	}
	for _, day := range noDays {
		put(impl.Rate{Day: day, From: 1, Num: 1, Den: 1})
	}
	for _, from := range []int{math.MinInt, -1, 0, 4, 5, math.MaxInt} {
		put(impl.Rate{Day: 5, From: from, Num: 1, Den: 1})
	}
	for i, r := range base {
		for _, wrong := range noDivisors {
			r.Num, r.Den = wrong, 1
			lists = append(lists, slices.Replace(slices.Clone(base), i, i+1, r))
			r.Num, r.Den = 1, wrong
			lists = append(lists, slices.Replace(slices.Clone(base), i, i+1, r))
		}
		lists = append(lists, slices.Insert(slices.Clone(base), i, base[i]))
	}
	for i := 1; i < len(base); i++ {
		list := slices.Clone(base)
		list[i-1], list[i] = list[i], list[i-1]
		lists = append(lists, list)
	}
	return lists
}

func TestHowManyCurrenciesRatesMayBeFor(t *testing.T) {
	for n := 1; n <= impl.MaxCurs; n++ {
		checkRatesOk(t, nil, n, true)
		checkRatesOk(t, []impl.Rate{}, n, true)
		checkRatesOk(t, []impl.Rate{{Day: 5, From: 1, Num: 1, Den: 1}}, n, n > 1)
		checkRateAt(t, nil, n, 0, 5, 1, 1)
		noRateAt(t, nil, n, n, 5)
		noRateAt(t, nil, n, n-1+impl.MaxCurs, 5)
	}
	for _, n := range noCounts {
		checkRatesOk(t, nil, n, false)
		checkRatesOk(t, []impl.Rate{{Day: 5, From: 1, Num: 1, Den: 1}}, n, false)
		for _, from := range []int{0, 1, n - 1, n} {
			noRateAt(t, nil, n, from, 5)
			noRateAt(t, []impl.Rate{{Day: 5, From: 1, Num: 1, Den: 1}}, n, from, 5)
		}
	}
}

func TestHowManyRatesThereMayBe(t *testing.T) {
	for _, n := range []int{2, 3, impl.MaxCurs} {
		list := fullRates(impl.MaxRates+1, n)
		for _, count := range []int{0, 1, 2, impl.MaxRates - 1, impl.MaxRates} {
			checkRatesOk(t, list[:count], n, true)
		}
		checkRatesOk(t, list, n, false)
		last := list[impl.MaxRates-1]
		checkRateAt(t, list[:impl.MaxRates], n, last.From, last.Day, last.Num, last.Den)
		noRateAt(t, list, n, last.From, last.Day)
		noRateAt(t, list, n, 0, last.Day)
	}
	checkRatesOk(t, fullRates(100000, 3), 3, false)
}

func TestFromOfARate(t *testing.T) {
	for n := 1; n <= impl.MaxCurs; n++ {
		for from := -2; from <= impl.MaxCurs+2; from++ {
			checkRatesOk(t, []impl.Rate{{Day: 5, From: from, Num: 1, Den: 1}}, n, from >= 1 && from <= n-1)
		}
		for _, from := range []int{math.MinInt, math.MaxInt} {
			checkRatesOk(t, []impl.Rate{{Day: 5, From: from, Num: 1, Den: 1}}, n, false)
		}
	}
}

func TestDayOfARate(t *testing.T) {
	for _, day := range []int{0, 1, 20000, impl.MaxDay - 1, impl.MaxDay} {
		list := []impl.Rate{{Day: day, From: 1, Num: 2, Den: 3}}
		checkRatesOk(t, list, 2, true)
		checkRateAt(t, list, 2, 1, day, 2, 3)
		noRateAt(t, list, 2, 1, day-1)
		checkRateAt(t, list, 2, 1, impl.MaxDay, 2, 3)
	}
	for _, day := range noDays {
		checkRatesOk(t, []impl.Rate{{Day: day, From: 1, Num: 2, Den: 3}}, 2, false)
		noRateAt(t, []impl.Rate{{Day: day, From: 1, Num: 2, Den: 3}}, 2, 1, impl.MaxDay)
	}
}

func TestNumAndDenOfARate(t *testing.T) {
	right := []int{1, 2, impl.MaxFactor - 1, impl.MaxFactor}
	for _, num := range right {
		for _, den := range right {
			list := []impl.Rate{{Day: 5, From: 1, Num: num, Den: den}}
			checkRatesOk(t, list, 2, true)
			checkRateAt(t, list, 2, 1, 5, num, den)
		}
		for _, wrong := range noDivisors {
			checkRatesOk(t, []impl.Rate{{Day: 5, From: 1, Num: num, Den: wrong}}, 2, false)
			checkRatesOk(t, []impl.Rate{{Day: 5, From: 1, Num: wrong, Den: num}}, 2, false)
			checkRatesOk(t, []impl.Rate{{Day: 5, From: 1, Num: wrong, Den: wrong}}, 2, false)
		}
	}
}

func TestOrderOfRates(t *testing.T) {
	rows := []struct {
		name  string
		pairs [][2]int // Day and From
		want  bool
	}{
		{"by Day", [][2]int{{5, 1}, {6, 1}, {7, 1}}, true},
		{"by Day, From falling", [][2]int{{5, 3}, {6, 2}, {7, 1}}, true},
		{"of one Day by From", [][2]int{{5, 1}, {5, 2}, {5, 3}}, true},
		{"of one Day with a gap", [][2]int{{5, 1}, {5, 3}, {6, 1}}, true},
		{"a Day too early", [][2]int{{5, 1}, {7, 1}, {6, 1}}, false},
		{"a Day too early, From rising", [][2]int{{6, 1}, {5, 2}}, false},
		{"of one Day not by From", [][2]int{{5, 1}, {5, 3}, {5, 2}}, false},
		{"of one Day not by From, at the end", [][2]int{{4, 1}, {5, 2}, {5, 1}}, false},
		{"one twice", [][2]int{{5, 1}, {5, 1}}, false},
		{"one twice at the end", [][2]int{{5, 1}, {5, 2}, {6, 3}, {6, 3}}, false},
	}
	for _, r := range rows {
		list := []impl.Rate{}
		for i, p := range r.pairs {
			list = append(list, impl.Rate{Day: p[0], From: p[1], Num: 1 + i, Den: 9 - i})
		}
		if got := impl.RatesOk(list, 4); got != r.want {
			t.Errorf("%s: RatesOk is %v", r.name, got)
		}
		num, den := wantRateAt(list, 4, 1, 9)
		checkRateAt(t, list, 4, 1, 9, num, den)
	}
}

func TestEveryOrderOfThreeRates(t *testing.T) {
	for code := range 9 * 9 * 9 {
		list := []impl.Rate{}
		for _, c := range []int{code % 9, code / 9 % 9, code / 81} {
			list = append(list, impl.Rate{Day: 5 + c/3, From: 1 + c%3, Num: 2 + len(list), Den: 1})
		}
		checkRatesOk(t, list, 4, wantRatesOk(list, 4))
		for day := 4; day <= 8; day++ {
			for from := range 4 {
				num, den := wantRateAt(list, 4, from, day)
				checkRateAt(t, list, 4, from, day, num, den)
			}
		}
	}
}

func TestRateAtByHand(t *testing.T) {
	list := handRates()
	rows := [][4]int{ // from, day, Num, Den
		{1, 0, 3, 2}, {1, 1, 3, 2}, {1, 9, 3, 2}, {1, 10, 2, 1}, {1, 11, 2, 1}, {1, 19, 2, 1}, {1, 20, 5, 3}, {1, 21, 5, 3}, {1, impl.MaxDay, 5, 3},
		{2, 0, 1, 4}, {2, 20, 1, 4}, {2, impl.MaxDay, 1, 4},
		{3, 0, 0, 0}, {3, 19, 0, 0}, {3, 20, 7, 9}, {3, impl.MaxDay - 1, 7, 9}, {3, impl.MaxDay, impl.MaxFactor, 1},
		{0, 0, 1, 1}, {0, 10, 1, 1}, {0, impl.MaxDay, 1, 1},
		{4, 20, 0, 0}, {5, 20, 0, 0}, {-1, 20, 0, 0}, {math.MinInt, 20, 0, 0}, {math.MaxInt, 20, 0, 0},
	}
	for _, r := range rows {
		checkRateAt(t, list, 4, r[0], r[1], r[2], r[3])
	}
	for _, day := range noDays {
		for from := -1; from <= 4; from++ {
			noRateAt(t, list, 4, from, day)
			noRateAt(t, nil, 4, from, day)
		}
	}
	// For more currencies the table is as right, and the further ones have no rate yet.
	for n := 5; n <= impl.MaxCurs; n++ {
		checkRateAt(t, list, n, 3, 20, 7, 9)
		noRateAt(t, list, n, n-1, impl.MaxDay)
		noRateAt(t, list, n, n, impl.MaxDay)
		noRateAt(t, list, n, -1, impl.MaxDay)
	}
	// For fewer the last one is none of them.
	for _, n := range []int{1, 2, 3} {
		for from := range 4 {
			noRateAt(t, list, n, from, 20)
		}
	}
}

func TestRateAtOfAFullTable(t *testing.T) {
	for _, n := range []int{2, 7, impl.MaxCurs} {
		list := fullRates(impl.MaxRates, n)
		last := list[len(list)-1].Day
		for from := -1; from <= n; from++ {
			for day := 8; day <= last+4; day++ {
				num, den := lastRate(list, n, from, day)
				checkRateAt(t, list, n, from, day, num, den)
			}
		}
	}
}

func TestRateAtOfManyTables(t *testing.T) {
	chance := rand.New(rand.NewSource(3))
	for range 60 {
		n := 1 + chance.Intn(impl.MaxCurs)
		list := someRates(chance, n)
		checkRatesOk(t, list, n, true)
		days := []int{0, impl.MaxDay, -1, impl.MaxDay + 1}
		for _, r := range list {
			days = append(days, r.Day-1, r.Day, r.Day+1)
		}
		for _, day := range days {
			from := chance.Intn(n+2) - 1
			num, den := wantRateAt(list, n, from, day)
			checkRateAt(t, list, n, from, day, num, den)
		}
	}
}

// The rate that is asked for may stand right in a wrong table: nothing is told of it.
func TestRateAtOfWrongTables(t *testing.T) {
	for _, list := range wrongRates() {
		checkRatesOk(t, list, 4, false)
		for from := -1; from <= 4; from++ {
			for _, day := range []int{0, 9, 10, 20, impl.MaxDay} {
				noRateAt(t, list, 4, from, day)
			}
		}
	}
}

func TestRatesAreNeitherWrittenNorReadBehind(t *testing.T) {
	wrong := impl.Rate{Day: -1, From: -1, Num: -1, Den: -1}
	room := append(handRates(), wrong, wrong, wrong)
	kept := slices.Clone(room)
	list := room[:len(room)-3]
	checkRatesOk(t, list, 4, true)
	for day := range 30 {
		for from := range 4 {
			num, den := wantRateAt(list, 4, from, day)
			checkRateAt(t, list, 4, from, day, num, den)
			impl.Convert(list, 4, 1000, from, 1, day)
			impl.Convert(list, 4, 1000, 2, from, day)
		}
	}
	if !slices.Equal(room, kept) {
		t.Error("the rates were written into, or behind them")
	}
	// What one call was given does not reach into the next one.
	list[0].Num = 8
	checkRateAt(t, list, 4, 1, 5, 8, 2)
	checkConvert(t, list, 4, 5, 1, 0, 5, 20)
}
