package tests

import (
	"math"
	"testing"

	"loop.example/g00040/impl"
)

func wantAddMonths(day, n int) int {
	from := dateAt(day)
	year, month := from.Year, from.Month
	for ; n > 0; n-- {
		if month++; month == 13 {
			year, month = year+1, 1
		}
	}
	for ; n < 0; n++ {
		if month--; month == 0 {
			year, month = year-1, 12
		}
	}
	on := dayAt(impl.Date{Year: year, Month: month, Day: min(from.Day, lastOfMonth(year, month))})
	if !isDay(on) {
		return -1
	}
	return on
}

func checkAddMonths(t *testing.T, day, n, want int) {
	t.Helper()
	if got := impl.AddMonths(day, n); got != want {
		t.Errorf("AddMonths(%d, %d) = %d; want %d", day, n, got, want)
	}
}

func checkMonthEnd(t *testing.T, day, want int) {
	t.Helper()
	if got := impl.MonthEnd(day); got != want {
		t.Errorf("MonthEnd(%d) = %d; want %d", day, got, want)
	}
}

func TestAddMonthsByHand(t *testing.T) {
	type date = impl.Date
	rows := []struct {
		from date
		n    int
		want date
	}{
		{date{Year: 2000, Month: 1, Day: 1}, 0, date{Year: 2000, Month: 1, Day: 1}},
		{date{Year: 2000, Month: 1, Day: 1}, 1, date{Year: 2000, Month: 2, Day: 1}},
		{date{Year: 2000, Month: 1, Day: 28}, 1, date{Year: 2000, Month: 2, Day: 28}},
		{date{Year: 2000, Month: 1, Day: 29}, 1, date{Year: 2000, Month: 2, Day: 29}},
		{date{Year: 2000, Month: 1, Day: 30}, 1, date{Year: 2000, Month: 2, Day: 29}},
		{date{Year: 2000, Month: 1, Day: 31}, 1, date{Year: 2000, Month: 2, Day: 29}},
		{date{Year: 2000, Month: 1, Day: 31}, 13, date{Year: 2001, Month: 2, Day: 28}},
		{date{Year: 2000, Month: 2, Day: 29}, 12, date{Year: 2001, Month: 2, Day: 28}},
		{date{Year: 2000, Month: 2, Day: 29}, 48, date{Year: 2004, Month: 2, Day: 29}},
		{date{Year: 2000, Month: 2, Day: 29}, 1, date{Year: 2000, Month: 3, Day: 29}},
		{date{Year: 2000, Month: 2, Day: 29}, 1200, date{Year: 2100, Month: 2, Day: 28}},
		{date{Year: 2001, Month: 2, Day: 28}, -12, date{Year: 2000, Month: 2, Day: 28}},
		{date{Year: 2001, Month: 3, Day: 31}, -1, date{Year: 2001, Month: 2, Day: 28}},
		{date{Year: 2001, Month: 3, Day: 30}, -1, date{Year: 2001, Month: 2, Day: 28}},
		{date{Year: 2001, Month: 3, Day: 29}, -1, date{Year: 2001, Month: 2, Day: 28}},
		{date{Year: 2001, Month: 3, Day: 31}, -13, date{Year: 2000, Month: 2, Day: 29}},
		{date{Year: 2001, Month: 3, Day: 31}, 1, date{Year: 2001, Month: 4, Day: 30}},
		{date{Year: 2001, Month: 3, Day: 31}, 2, date{Year: 2001, Month: 5, Day: 31}},
		{date{Year: 2001, Month: 12, Day: 31}, 1, date{Year: 2002, Month: 1, Day: 31}},
		{date{Year: 2001, Month: 12, Day: 31}, -1, date{Year: 2001, Month: 11, Day: 30}},
		{date{Year: 2001, Month: 12, Day: 31}, 12, date{Year: 2002, Month: 12, Day: 31}},
		{date{Year: 2001, Month: 12, Day: 31}, -12, date{Year: 2000, Month: 12, Day: 31}},
		{date{Year: 2001, Month: 1, Day: 15}, -1, date{Year: 2000, Month: 12, Day: 15}},
		{date{Year: 2100, Month: 1, Day: 31}, 1, date{Year: 2100, Month: 2, Day: 28}},
		{date{Year: 2109, Month: 5, Day: 31}, 1, date{Year: 2109, Month: 6, Day: 30}},
		{date{Year: 2109, Month: 6, Day: 8}, 1, date{Year: 2109, Month: 7, Day: 8}},
	}
	for _, r := range rows {
		checkAddMonths(t, dayAt(r.from), r.n, dayAt(r.want))
	}
}

func TestAddMonthsFromEveryDay(t *testing.T) {
	for day := 0; day <= impl.MaxDay; day++ {
		for _, n := range []int{-25, -12, -3, -1, 0, 1, 2, 11, 12, 48} {
			checkAddMonths(t, day, n, wantAddMonths(day, n))
		}
	}
}

func TestAddMonthsByEveryNumber(t *testing.T) {
	for _, day := range []int{0, 28, 29, 30, 59, 365, 366, 1520, 20000, 20029, 36524, 36583, 39812, 39999, impl.MaxDay} {
		for n := -1200; n <= 1200; n++ {
			checkAddMonths(t, day, n, wantAddMonths(day, n))
		}
	}
}

// By fields, as the promise says it, without the day's number.
func TestAddMonthsStandsThatManyMonthsOn(t *testing.T) {
	for day := 0; day <= impl.MaxDay; day += 7 {
		for _, n := range []int{-1200, -601, -13, -1, 1, 13, 14, 601, 1200} {
			on := impl.AddMonths(day, n)
			if on == -1 {
				continue
			}
			from, to := impl.DateOf(day), impl.DateOf(on)
			if 12*(to.Year-from.Year)+to.Month-from.Month != n {
				t.Fatalf("AddMonths(%d, %d) = %d, from %v to %v", day, n, on, from, to)
			}
			if to.Day != from.Day && (to.Day > from.Day || impl.MonthEnd(on) != on) {
				t.Fatalf("AddMonths(%d, %d) = %d, from %v to %v", day, n, on, from, to)
			}
		}
	}
}

func TestAddMonthsAtItsLimits(t *testing.T) {
	checkAddMonths(t, 0, 1200, 36525)
	checkAddMonths(t, 0, 1201, -1)
	checkAddMonths(t, 36525, -1200, 0)
	checkAddMonths(t, 36525+31, -1201, -1)
	checkAddMonths(t, 36525, -1201, -1)
	// From the 8th of July 2009 the greatest n comes to MaxDay, from the 9th to one behind it.
	checkAddMonths(t, dayAt(impl.Date{Year: 2009, Month: 7, Day: 8}), 1200, impl.MaxDay)
	checkAddMonths(t, dayAt(impl.Date{Year: 2009, Month: 7, Day: 9}), 1200, -1)
	checkAddMonths(t, dayAt(impl.Date{Year: 2009, Month: 6, Day: 9}), 1200, 39971)
}

func TestAddMonthsAheadOfDay0AndBehindMaxDay(t *testing.T) {
	for day := 0; day <= 30; day++ {
		checkAddMonths(t, day, -1, -1)
		checkAddMonths(t, day, -12, -1)
		checkAddMonths(t, day, -1200, -1)
	}
	for day := 31; day <= 59; day++ {
		checkAddMonths(t, day, -1, day-31)
		checkAddMonths(t, day, -2, -1)
	}
	for day := 39812; day <= impl.MaxDay; day++ {
		checkAddMonths(t, day, 12, -1)
		checkAddMonths(t, day, 7, -1)
		checkAddMonths(t, day, 1200, -1)
	}
	checkAddMonths(t, impl.MaxDay-30, 1, impl.MaxDay)
	checkAddMonths(t, impl.MaxDay-29, 1, -1)
	checkAddMonths(t, impl.MaxDay, 0, impl.MaxDay)
	checkAddMonths(t, impl.MaxDay, 1, -1)
	checkAddMonths(t, 0, 0, 0)
}

func TestAddMonthsRefuses(t *testing.T) {
	for _, day := range noDays {
		for _, n := range []int{-1200, -1, 0, 1, 1200, math.MinInt, math.MaxInt} {
			checkAddMonths(t, day, n, -1)
		}
	}
	for _, n := range []int{math.MinInt, math.MinInt + 1, -1 << 40, -1202, -1201, 1201, 1202, 1 << 40, math.MaxInt - 24000, math.MaxInt - 1, math.MaxInt} {
		for _, day := range []int{0, 18000, 20000, 36525, impl.MaxDay} {
			checkAddMonths(t, day, n, -1)
		}
	}
}

func TestMonthEndOfEveryDay(t *testing.T) {
	for day := 0; day <= impl.MaxDay; day++ {
		d := dateAt(day)
		want := day + lastOfMonth(d.Year, d.Month) - d.Day
		if want > impl.MaxDay {
			want = -1
		}
		checkMonthEnd(t, day, want)
	}
}

func TestMonthEndInEachMonthByHand(t *testing.T) {
	for year, ends := range map[int][12]int{
		0:     {30, 59, 90, 120, 151, 181, 212, 243, 273, 304, 334, 365},
		366:   {30, 58, 89, 119, 150, 180, 211, 242, 272, 303, 333, 364},
		36525: {30, 58, 89, 119, 150, 180, 211, 242, 272, 303, 333, 364},
	} {
		first := year
		for _, end := range ends {
			checkMonthEnd(t, first, year+end)
			checkMonthEnd(t, year+end-1, year+end)
			checkMonthEnd(t, year+end, year+end)
			first = year + end + 1
		}
	}
}

// The last month that ends by MaxDay is June 2109; of July only eight days are days.
func TestMonthEndBehindMaxDay(t *testing.T) {
	checkMonthEnd(t, 39992, 39992)
	for day := 39993; day <= impl.MaxDay; day++ {
		checkMonthEnd(t, day, -1)
	}
	for _, day := range noDays {
		checkMonthEnd(t, day, -1)
	}
}
