package tests

import (
	"math"
	"testing"
	"time"

	"loop.example/g00040/impl"
)

var noDays = []int{math.MinInt, math.MinInt + 1, -impl.MaxDay, -2, -1, impl.MaxDay + 1, impl.MaxDay + 2, 2 * impl.MaxDay, math.MaxInt - 1, math.MaxInt}

// The library's calendar is reckoned with here alone, so that it shares no step with the program's.
func timeOf(day int) time.Time {
	return time.Date(2000, time.January, 1+day, 0, 0, 0, 0, time.UTC)
}

func dateAt(day int) impl.Date {
	when := timeOf(day)
	return impl.Date{Year: when.Year(), Month: int(when.Month()), Day: when.Day()}
}

func dayAt(d impl.Date) int {
	when := time.Date(d.Year, time.Month(d.Month), d.Day, 0, 0, 0, 0, time.UTC)
	return int(when.Sub(timeOf(0)) / (24 * time.Hour))
}

func lastOfMonth(year, month int) int {
	return time.Date(year, time.Month(month)+1, 0, 0, 0, 0, 0, time.UTC).Day()
}

func isDay(day int) bool { return day >= 0 && day <= impl.MaxDay }

func checkDayOf(t *testing.T, d impl.Date, want int) {
	t.Helper()
	if got := impl.DayOf(d); got != want {
		t.Errorf("DayOf(%v) = %d; want %d", d, got, want)
	}
}

func checkDateOf(t *testing.T, day int, want impl.Date) {
	t.Helper()
	if got := impl.DateOf(day); got != want {
		t.Errorf("DateOf(%d) = %v; want %v", day, got, want)
	}
}

func checkWeekday(t *testing.T, day, want int) {
	t.Helper()
	if got := impl.Weekday(day); got != want {
		t.Errorf("Weekday(%d) = %d; want %d", day, got, want)
	}
}

func TestDaysByHand(t *testing.T) {
	rows := []struct {
		day     int
		date    impl.Date
		weekday int
	}{
		{0, impl.Date{Year: 2000, Month: 1, Day: 1}, 5},
		{1, impl.Date{Year: 2000, Month: 1, Day: 2}, 6},
		{2, impl.Date{Year: 2000, Month: 1, Day: 3}, 0},
		{30, impl.Date{Year: 2000, Month: 1, Day: 31}, 0},
		{31, impl.Date{Year: 2000, Month: 2, Day: 1}, 1},
		{59, impl.Date{Year: 2000, Month: 2, Day: 29}, 1},
		{60, impl.Date{Year: 2000, Month: 3, Day: 1}, 2},
		{365, impl.Date{Year: 2000, Month: 12, Day: 31}, 6},
		{366, impl.Date{Year: 2001, Month: 1, Day: 1}, 0},
		{730, impl.Date{Year: 2001, Month: 12, Day: 31}, 0},
		{1520, impl.Date{Year: 2004, Month: 2, Day: 29}, 6},
		{36524, impl.Date{Year: 2099, Month: 12, Day: 31}, 3},
		{36525, impl.Date{Year: 2100, Month: 1, Day: 1}, 4},
		{36583, impl.Date{Year: 2100, Month: 2, Day: 28}, 6},
		{36584, impl.Date{Year: 2100, Month: 3, Day: 1}, 0},
		{39812, impl.Date{Year: 2109, Month: 1, Day: 1}, 1},
		{39999, impl.Date{Year: 2109, Month: 7, Day: 7}, 6},
		{40000, impl.Date{Year: 2109, Month: 7, Day: 8}, 0},
	}
	for _, r := range rows {
		checkDayOf(t, r.date, r.day)
		checkDateOf(t, r.day, r.date)
		checkWeekday(t, r.day, r.weekday)
	}
}

func TestEveryDayThereAndBack(t *testing.T) {
	for day := 0; day <= impl.MaxDay; day++ {
		date := impl.DateOf(day)
		if date != dateAt(day) {
			t.Fatalf("DateOf(%d) = %v; want %v", day, date, dateAt(day))
		}
		if got := impl.DayOf(date); got != day {
			t.Fatalf("DayOf(%v) = %d; want %d", date, got, day)
		}
	}
}

func TestTheNextDayIsTheNextWeekday(t *testing.T) {
	ahead := 4 // a Friday stands ahead of day 0
	for day := 0; day <= impl.MaxDay; day++ {
		want := (ahead + 1) % 7
		checkWeekday(t, day, want)
		if sundayFirst := int(timeOf(day).Weekday()); sundayFirst != (want+1)%7 {
			t.Fatalf("the library's weekday of %d is %d", day, sundayFirst)
		}
		ahead = want
	}
}

// Every month and day number around the true ones, in every year that has days and in those beside them.
func TestDatesThatAreAndThatAreNone(t *testing.T) {
	for year := 1998; year <= 2112; year++ {
		for month := -1; month <= 14; month++ {
			for dayNumber := -1; dayNumber <= 33; dayNumber++ {
				d := impl.Date{Year: year, Month: month, Day: dayNumber}
				want := -1
				if month >= 1 && month <= 12 && dayNumber >= 1 && dayNumber <= lastOfMonth(year, month) && isDay(dayAt(d)) {
					want = dayAt(d)
				}
				checkDayOf(t, d, want)
			}
		}
	}
}

func TestFirstAndLastOfEachMonth(t *testing.T) {
	lengths := [12]int{31, 28, 31, 30, 31, 30, 31, 31, 30, 31, 30, 31}
	day := 366
	for i, n := range lengths {
		first, last := impl.Date{Year: 2001, Month: i + 1, Day: 1}, impl.Date{Year: 2001, Month: i + 1, Day: n}
		checkDayOf(t, first, day)
		checkDayOf(t, last, day+n-1)
		checkDateOf(t, day, first)
		checkDateOf(t, day+n-1, last)
		checkDayOf(t, impl.Date{Year: 2001, Month: i + 1, Day: n + 1}, -1)
		checkDayOf(t, impl.Date{Year: 2001, Month: i + 1}, -1)
		day += n
	}
}

func TestTwentyNinthOfFebruary(t *testing.T) {
	rows := []struct {
		year int
		want int
	}{
		{2000, 59},   // 400 divides it
		{2100, -1},   // 100 does, 400 does not
		{2004, 1520}, // 4 does, 100 does not
		{2096, 35123},
		{2104, 38044},
		{2108, 39505},
		{2001, -1},
		{2002, -1},
		{2003, -1},
		{2099, -1},
		{2101, -1},
		{1996, -1}, // such a date, but ahead of day 0
		{2112, -1}, // behind MaxDay
		{2400, -1},
	}
	for _, r := range rows {
		checkDayOf(t, impl.Date{Year: r.year, Month: 2, Day: 29}, r.want)
		checkDayOf(t, impl.Date{Year: r.year, Month: 2, Day: 30}, -1)
	}
}

func TestDatesAheadOfDay0AndBehindMaxDay(t *testing.T) {
	for _, d := range []impl.Date{
		{Year: 1999, Month: 12, Day: 31},
		{Year: 1999, Month: 1, Day: 1},
		{Year: 1600, Month: 1, Day: 1},
		{Year: 0, Month: 1, Day: 1},
		{Year: -2000, Month: 1, Day: 1},
		{Year: 2109, Month: 7, Day: 9},
		{Year: 2109, Month: 7, Day: 31},
		{Year: 2109, Month: 8, Day: 1},
		{Year: 2109, Month: 12, Day: 31},
		{Year: 2110, Month: 1, Day: 1},
		{Year: 2400, Month: 1, Day: 1},
		{Year: 12000, Month: 1, Day: 1},
		{},
	} {
		checkDayOf(t, d, -1)
	}
}

func TestDatesOfTheGreatestAndTheLeastNumbers(t *testing.T) {
	far := []int{math.MinInt, math.MinInt + 1, math.MinInt32, -1 << 60, 1 << 60, math.MaxInt32, math.MaxInt - 1, math.MaxInt}
	for _, n := range far {
		checkDayOf(t, impl.Date{Year: n, Month: 1, Day: 1}, -1)
		checkDayOf(t, impl.Date{Year: 2001, Month: n, Day: 1}, -1)
		for year := 2000; year <= 2109; year++ {
			checkDayOf(t, impl.Date{Year: year, Month: 1, Day: n}, -1)
			checkDayOf(t, impl.Date{Year: year, Month: 12, Day: n}, -1)
		}
		for _, m := range far {
			checkDayOf(t, impl.Date{Year: n, Month: m, Day: 1}, -1)
			checkDayOf(t, impl.Date{Year: n, Month: m, Day: m}, -1)
			checkDayOf(t, impl.Date{Year: 2001, Month: n, Day: m}, -1)
		}
	}
}

func TestNumbersThatAreNoDays(t *testing.T) {
	for _, day := range noDays {
		checkDateOf(t, day, impl.Date{})
		checkWeekday(t, day, -1)
	}
}
