package tests

import (
	"math"
	"math/rand"
	"slices"
	"testing"

	"loop.example/g00040/impl"
)

const weekend = 1<<5 | 1<<6

// Each is free on the same weekdays or holidays of its own; no two are alike.
func testedCals() []impl.Cal {
	chance := rand.New(rand.NewSource(2))
	return []impl.Cal{
		{},
		{Off: weekend},
		{Off: 126},
		{Off: 127 - 1<<3},
		{Off: 1},
		{Off: weekend, Holidays: []int{0, impl.MaxDay}},
		{Off: weekend, Holidays: []int{3, 4, 5, 9, 358, 359, 366}},
		{Holidays: []int{0}},
		{Holidays: []int{impl.MaxDay}},
		{Holidays: daysFrom(0, impl.MaxHolidays)},
		{Holidays: daysFrom(impl.MaxDay-impl.MaxHolidays+1, impl.MaxHolidays)},
		{Off: 1 << 2, Holidays: someDays(chance, 400)},
		{Off: weekend, Holidays: someDays(chance, 80)},
	}
}

func daysFrom(first, count int) []int {
	list := make([]int, count)
	for i := range list {
		list[i] = first + i
	}
	return list
}

func someDays(chance *rand.Rand, count int) []int {
	list := chance.Perm(impl.MaxDay + 1)[:count]
	slices.Sort(list)
	return list
}

func wrongCals() []impl.Cal {
	far := daysFrom(10, impl.MaxHolidays)
	cals := []impl.Cal{
		{Off: 127},
		{Off: -1},
		{Off: 128},
		{Off: 128 + weekend},
		{Off: -128},
		{Off: math.MinInt},
		{Off: math.MaxInt},
		{Holidays: daysFrom(10, impl.MaxHolidays+1)},
		{Holidays: []int{4, 3}},
		{Holidays: []int{3, 3}},
		{Holidays: []int{0, 0}},
		{Holidays: []int{1, 2, 3, 3}},
		{Holidays: []int{1, 5, 4, 9}},
		{Holidays: []int{9, 1, 2}},
		{Holidays: append([]int{impl.MaxDay}, far[1:]...)},
		{Off: weekend, Holidays: []int{impl.MaxDay, impl.MaxDay + 1}},
		{Off: 127, Holidays: []int{4, 3}},
	}
	for _, day := range noDays {
		cals = append(cals, impl.Cal{Holidays: []int{day}})
	}
	return cals
}

func works(c impl.Cal, day int) bool {
	weekday := (int(timeOf(day).Weekday()) + 6) % 7
	return isDay(day) && c.Off>>weekday%2 == 0 && !slices.Contains(c.Holidays, day)
}

// All working days in order: what is asked of AddWork and CountWork is read off by its places.
func workingDays(c impl.Cal) []int {
	list := []int{}
	for day := range impl.MaxDay + 1 {
		if works(c, day) {
			list = append(list, day)
		}
	}
	return list
}

func wantAddWork(working []int, day, n int) int {
	at, itself := slices.BinarySearch(working, day)
	if itself && n > 0 {
		at++
	}
	if n > 0 {
		at += n - 1
	} else {
		at += n
	}
	if at < 0 || at >= len(working) {
		return -1
	}
	return working[at]
}

func wantCountWork(working []int, from, to int) int {
	place := func(day int) int {
		at, _ := slices.BinarySearch(working, day+1)
		return at
	}
	return place(to) - place(from)
}

func checkWork(t *testing.T, c impl.Cal, day int, want bool) {
	t.Helper()
	if got := impl.Work(c, day); got != want {
		t.Errorf("Work(%v, %d) = %v; want %v", c, day, got, want)
	}
}

func checkAddWork(t *testing.T, c impl.Cal, day, n, want int) {
	t.Helper()
	if got := impl.AddWork(c, day, n); got != want {
		t.Errorf("AddWork(%v, %d, %d) = %d; want %d", c, day, n, got, want)
	}
}

func checkCountWork(t *testing.T, c impl.Cal, from, to, want int) {
	t.Helper()
	if got := impl.CountWork(c, from, to); got != want {
		t.Errorf("CountWork(%v, %d, %d) = %d; want %d", c, from, to, got, want)
	}
}

func TestCalOk(t *testing.T) {
	for off := 0; off <= 126; off++ {
		if !impl.CalOk(impl.Cal{Off: off}) {
			t.Errorf("CalOk of Off %d is false", off)
		}
	}
	for _, c := range testedCals() {
		if !impl.CalOk(c) {
			t.Errorf("CalOk(%v) is false", c)
		}
	}
	for _, c := range wrongCals() {
		if impl.CalOk(c) {
			t.Errorf("CalOk(%v) is true", c)
		}
	}
}

func TestWorkByWeekdayAndHoliday(t *testing.T) {
	for k := range 7 {
		c := impl.Cal{Off: 1 << k}
		for day := range 15 {
			checkWork(t, c, day, impl.Weekday(day) != k)
		}
	}
	c := impl.Cal{Off: weekend, Holidays: []int{0, 3, impl.MaxDay}}
	for day, want := range map[int]bool{0: false, 1: false, 2: true, 3: false, 4: true, 6: true, 7: false, 8: false, 9: true, impl.MaxDay - 1: false, impl.MaxDay - 3: true, impl.MaxDay: false} {
		checkWork(t, c, day, want)
	}
	checkWork(t, impl.Cal{}, 0, true)
	checkWork(t, impl.Cal{}, impl.MaxDay, true)
}

func TestWorkOfEveryDay(t *testing.T) {
	for _, c := range testedCals() {
		for day := 0; day <= impl.MaxDay; day += 3 {
			checkWork(t, c, day, works(c, day))
		}
	}
}

func TestAddWorkByHand(t *testing.T) {
	c := impl.Cal{Off: weekend, Holidays: []int{3}}
	rows := [][3]int{ // day, n, want: days 2 and 4 to 6 and 9 to 13 are worked
		{0, 0, 2}, {2, 0, 2}, {3, 0, 4}, {4, 0, 4}, {7, 0, 9}, {8, 0, 9},
		{0, 1, 2}, {1, 1, 2}, {2, 1, 4}, {3, 1, 4}, {4, 1, 5}, {6, 1, 9}, {7, 1, 9},
		{0, 2, 4}, {2, 2, 5}, {3, 4, 9}, {2, 5, 10},
		{9, -1, 6}, {8, -1, 6}, {7, -1, 6}, {6, -1, 5}, {4, -1, 2}, {3, -1, 2},
		{9, -4, 2}, {9, -5, -1}, {2, -1, -1}, {1, -1, -1}, {0, -1, -1},
	}
	for _, r := range rows {
		checkAddWork(t, c, r[0], r[1], r[2])
	}
}

func TestAddWorkAgainstTheListOfWorkingDays(t *testing.T) {
	days := append(daysFrom(0, 25), 400, 19999, 20000)
	days = append(days, daysFrom(impl.MaxDay-24, 25)...)
	for _, c := range testedCals() {
		working := workingDays(c)
		for _, day := range days {
			for _, n := range []int{-impl.MaxSpan, -1999, -17, -5, -3, -2, -1, 0, 1, 2, 3, 5, 17, 1999, impl.MaxSpan} {
				checkAddWork(t, c, day, n, wantAddWork(working, day, n))
			}
		}
	}
}

func TestAddWorkComesToAWorkingDayAndCountWorkTellsHowMany(t *testing.T) {
	for _, c := range testedCals() {
		for _, day := range []int{0, 1, 5, 366, 12345, 39000, impl.MaxDay} {
			for n := -30; n <= 30; n++ {
				on := impl.AddWork(c, day, n)
				if on == -1 {
					continue
				}
				checkWork(t, c, on, true)
				switch {
				case n > 0, n == 0 && on == day:
					checkCountWork(t, c, day, on, n)
				case n == 0:
					checkCountWork(t, c, day, on, 1)
				case impl.Work(c, day):
					checkCountWork(t, c, day, on, n)
					checkAddWork(t, c, on, -n, day)
				default: // on itself is not above on
					checkCountWork(t, c, day, on, n+1)
				}
			}
		}
	}
}

func TestAddWorkAtTheGreatestSpan(t *testing.T) {
	all := impl.Cal{}
	checkAddWork(t, all, 0, impl.MaxSpan, impl.MaxSpan)
	checkAddWork(t, all, impl.MaxSpan, -impl.MaxSpan, 0)
	checkAddWork(t, all, impl.MaxDay-impl.MaxSpan, impl.MaxSpan, impl.MaxDay)
	checkAddWork(t, all, impl.MaxDay, -impl.MaxSpan, impl.MaxDay-impl.MaxSpan)
	for _, day := range []int{0, 20000, impl.MaxDay} {
		for _, n := range []int{math.MinInt, math.MinInt + 1, -impl.MaxSpan - 2, -impl.MaxSpan - 1, impl.MaxSpan + 1, impl.MaxSpan + 2, math.MaxInt} {
			checkAddWork(t, all, day, n, -1)
		}
	}
}

func TestAddWorkWhereThereIsNone(t *testing.T) {
	all := impl.Cal{}
	checkAddWork(t, all, impl.MaxSpan-1, -impl.MaxSpan, -1)
	checkAddWork(t, all, impl.MaxDay-impl.MaxSpan+1, impl.MaxSpan, -1)
	checkAddWork(t, all, impl.MaxDay, 1, -1)
	checkAddWork(t, all, impl.MaxDay, 0, impl.MaxDay)
	checkAddWork(t, all, 0, -1, -1)
	checkAddWork(t, all, 0, 0, 0)
	ends := impl.Cal{Holidays: []int{0, impl.MaxDay}}
	checkAddWork(t, ends, impl.MaxDay, 0, -1)
	checkAddWork(t, ends, impl.MaxDay-1, 1, -1)
	checkAddWork(t, ends, impl.MaxDay, -1, impl.MaxDay-1)
	checkAddWork(t, ends, 0, 0, 1)
	checkAddWork(t, ends, 0, 1, 1)
	checkAddWork(t, ends, 1, -1, -1)
	checkAddWork(t, ends, 2, -1, 1)
	last := impl.Cal{Holidays: daysFrom(impl.MaxDay-impl.MaxHolidays+1, impl.MaxHolidays)}
	checkAddWork(t, last, impl.MaxDay-impl.MaxHolidays+1, 0, -1)
	checkAddWork(t, last, impl.MaxDay-impl.MaxHolidays, 0, impl.MaxDay-impl.MaxHolidays)
	first := impl.Cal{Holidays: daysFrom(0, impl.MaxHolidays)}
	checkAddWork(t, first, impl.MaxHolidays, -1, -1)
	checkAddWork(t, first, 0, 0, impl.MaxHolidays)
	// Sundays alone are worked: the first is day 1, the last 39999.
	sundays := impl.Cal{Off: 63}
	checkAddWork(t, sundays, 0, impl.MaxSpan, 1+7*(impl.MaxSpan-1))
	checkAddWork(t, sundays, 39999, 1, -1)
	checkAddWork(t, sundays, 1, -1, -1)
	checkAddWork(t, sundays, impl.MaxDay, 0, -1)
	checkAddWork(t, sundays, impl.MaxDay, -1, 39999)
}

func TestWorkRefuses(t *testing.T) {
	for _, c := range wrongCals() {
		for _, day := range []int{0, 5, 12, 20000, impl.MaxDay, -1, impl.MaxDay + 1} {
			checkWork(t, c, day, false)
			for _, n := range []int{-3, 0, 3, impl.MaxSpan} {
				checkAddWork(t, c, day, n, -1)
			}
			checkCountWork(t, c, day, 900, 0)
			checkCountWork(t, c, 900, day, 0)
		}
	}
	for _, c := range testedCals() {
		for _, day := range noDays {
			checkWork(t, c, day, false)
			for _, n := range []int{-impl.MaxSpan, -1, 0, 1, impl.MaxSpan, math.MinInt, math.MaxInt} {
				checkAddWork(t, c, day, n, -1)
			}
			for _, other := range []int{0, 900, impl.MaxDay, -1, impl.MaxDay + 1, math.MinInt, math.MaxInt} {
				checkCountWork(t, c, day, other, 0)
				checkCountWork(t, c, other, day, 0)
			}
		}
	}
}

func TestCountWorkByHand(t *testing.T) {
	c := impl.Cal{Off: weekend, Holidays: []int{3}}
	rows := [][3]int{ // from, to, want
		{0, 0, 0}, {2, 2, 0}, {3, 3, 0}, {0, 1, 0}, {1, 2, 1}, {2, 3, 0}, {2, 4, 1}, {0, 6, 4}, {6, 8, 0}, {6, 9, 1}, {0, 13, 9},
	}
	for _, r := range rows {
		checkCountWork(t, c, r[0], r[1], r[2])
		checkCountWork(t, c, r[1], r[0], -r[2])
	}
	checkCountWork(t, impl.Cal{}, 0, impl.MaxDay, impl.MaxDay)
	checkCountWork(t, impl.Cal{}, impl.MaxDay, 0, -impl.MaxDay)
	checkCountWork(t, impl.Cal{}, impl.MaxDay, impl.MaxDay, 0)
	checkCountWork(t, impl.Cal{Holidays: []int{0}}, 0, impl.MaxDay, impl.MaxDay)
	checkCountWork(t, impl.Cal{Holidays: []int{impl.MaxDay}}, 0, impl.MaxDay, impl.MaxDay-1)
	checkCountWork(t, impl.Cal{Holidays: []int{impl.MaxDay}}, impl.MaxDay-1, impl.MaxDay, 0)
	checkCountWork(t, impl.Cal{Off: 63}, 0, impl.MaxDay, 5715)
}

func TestCountWorkAgainstTheListOfWorkingDays(t *testing.T) {
	days := append(daysFrom(0, 12), 366, 400, 401, 20000)
	days = append(days, daysFrom(impl.MaxDay-9, 10)...)
	for _, c := range testedCals() {
		working := workingDays(c)
		for _, from := range days {
			for _, to := range days {
				checkCountWork(t, c, from, to, wantCountWork(working, from, to))
			}
		}
	}
}

func TestHolidaysAreNeitherWrittenNorReadBehind(t *testing.T) {
	room := []int{3, 9, 12, 8, 7, -1}
	kept := slices.Clone(room)
	c := impl.Cal{Off: weekend, Holidays: room[:3]}
	if !impl.CalOk(c) {
		t.Error("CalOk reads behind the holidays")
	}
	checkWork(t, c, 9, false)
	checkWork(t, c, 12, false)
	checkAddWork(t, c, 6, 2, 11)
	checkAddWork(t, c, 13, -1, 11)
	checkCountWork(t, c, 0, 13, 7)
	if !slices.Equal(room, kept) {
		t.Errorf("the holidays were written: %v", room)
	}
}
