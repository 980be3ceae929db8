package tests

import (
	"math"
	"slices"
	"testing"

	"loop.example/g00040/impl"
)

var periodKinds = []int{impl.Months, impl.Quarters, impl.Fours}

func checkPeriods(t *testing.T, kind, first, count int, want []impl.Period) {
	t.Helper()
	if got := impl.Periods(kind, first, count); !slices.Equal(got, want) {
		t.Errorf("Periods(%d, %d, %d) = %v; want %v", kind, first, count, got, want)
	}
}

func noPeriods(t *testing.T, kind, first, count int) {
	t.Helper()
	checkPeriods(t, kind, first, count, nil)
}

func checkPeriodAt(t *testing.T, list []impl.Period, day, want int) {
	t.Helper()
	if got := impl.PeriodAt(list, day); got != want {
		t.Errorf("PeriodAt(%v, %d) = %d; want %d", list, day, got, want)
	}
}

func wantPeriods(kind, first, count int) []impl.Period {
	list := []impl.Period{}
	for i := range count {
		days := 28
		switch {
		case kind == impl.Months:
			d := dateAt(first)
			days = lastOfMonth(d.Year, d.Month)
			if d.Day != 1 {
				return nil
			}
		case kind == impl.Quarters && i%3 == 2:
			days = 35
		}
		if first+days-1 > impl.MaxDay {
			return nil
		}
		list = append(list, impl.Period{First: first, Last: first + days - 1})
		first += days
	}
	return list
}

func TestKindsOfPeriodsAreNumberedFromOne(t *testing.T) {
	if !slices.Equal(periodKinds, []int{1, 2, 3}) {
		t.Error(periodKinds)
	}
}

func TestPeriodsByHand(t *testing.T) {
	checkPeriods(t, impl.Months, 0, 4, []impl.Period{{First: 0, Last: 30}, {First: 31, Last: 59}, {First: 60, Last: 90}, {First: 91, Last: 120}})
	checkPeriods(t, impl.Months, 335, 3, []impl.Period{{First: 335, Last: 365}, {First: 366, Last: 396}, {First: 397, Last: 424}})
	checkPeriods(t, impl.Quarters, 10, 7, []impl.Period{{First: 10, Last: 37}, {First: 38, Last: 65}, {First: 66, Last: 100}, {First: 101, Last: 128}, {First: 129, Last: 156}, {First: 157, Last: 191}, {First: 192, Last: 219}})
	checkPeriods(t, impl.Fours, 5, 3, []impl.Period{{First: 5, Last: 32}, {First: 33, Last: 60}, {First: 61, Last: 88}})
	for _, kind := range periodKinds {
		checkPeriods(t, kind, 0, 1, wantPeriods(kind, 0, 1))
	}
}

func TestPeriodsFromManyDays(t *testing.T) {
	for _, kind := range periodKinds {
		for day := 0; day <= impl.MaxDay; day += 11 {
			for _, first := range []int{day, day - dateAt(day).Day + 1} {
				for _, count := range []int{1, 2, 3, 4, 12, 13, impl.MaxPeriods} {
					checkPeriods(t, kind, first, count, wantPeriods(kind, first, count))
				}
			}
		}
	}
}

func TestPeriodsStandOneBehindTheOther(t *testing.T) {
	for _, kind := range periodKinds {
		list := impl.Periods(kind, 366, impl.MaxPeriods)
		if len(list) != impl.MaxPeriods {
			t.Fatalf("kind %d: %d periods", kind, len(list))
		}
		next := 366
		for i, p := range list {
			if p.First != next || p.Last < p.First {
				t.Errorf("kind %d: period %d is %v; want it from %d on", kind, i, p, next)
			}
			for day := p.First; day <= p.Last; day++ {
				checkPeriodAt(t, list, day, i)
			}
			next = p.Last + 1
		}
		checkPeriodAt(t, list, 365, -1)
		checkPeriodAt(t, list, next, -1)
	}
}

func TestMonthsBeginWithTheFirstOfAMonth(t *testing.T) {
	for first := 0; first <= 800; first++ {
		if dateAt(first).Day == 1 {
			checkPeriods(t, impl.Months, first, 2, wantPeriods(impl.Months, first, 2))
		} else {
			noPeriods(t, impl.Months, first, 2)
			noPeriods(t, impl.Months, first, 1)
		}
	}
}

func TestLastPeriodAtMaxDay(t *testing.T) {
	ends := func(kind, first, count, last int) {
		t.Helper()
		list := impl.Periods(kind, first, count)
		if len(list) != count || list[count-1].Last != last {
			t.Errorf("Periods(%d, %d, %d) = %v; want the last to end on %d", kind, first, count, list, last)
		}
	}
	ends(impl.Fours, 39973, 1, impl.MaxDay)
	noPeriods(t, impl.Fours, 39974, 1)
	ends(impl.Fours, impl.MaxDay+1-28*impl.MaxPeriods, impl.MaxPeriods, impl.MaxDay)
	noPeriods(t, impl.Fours, impl.MaxDay+2-28*impl.MaxPeriods, impl.MaxPeriods)
	noPeriods(t, impl.Fours, 39973, 2)
	ends(impl.Quarters, 39973, 1, impl.MaxDay)
	noPeriods(t, impl.Quarters, 39974, 1)
	ends(impl.Quarters, 39910, 3, impl.MaxDay)
	noPeriods(t, impl.Quarters, 39911, 3)
	noPeriods(t, impl.Quarters, 39910, 4)
	// June 2109 is the last month that ends by MaxDay.
	ends(impl.Months, 39963, 1, 39992)
	noPeriods(t, impl.Months, 39963, 2)
	noPeriods(t, impl.Months, 39993, 1)
	july2104 := dayAt(impl.Date{Year: 2104, Month: 7, Day: 1})
	ends(impl.Months, july2104, impl.MaxPeriods, 39992)
	noPeriods(t, impl.Months, dayAt(impl.Date{Year: 2104, Month: 8, Day: 1}), impl.MaxPeriods)
	for _, kind := range periodKinds {
		noPeriods(t, kind, impl.MaxDay, 1)
	}
}

func TestPeriodsRefuse(t *testing.T) {
	for _, kind := range periodKinds {
		for _, count := range []int{math.MinInt, -60, -1, 0, impl.MaxPeriods + 1, impl.MaxPeriods + 2, 100000, math.MaxInt} {
			noPeriods(t, kind, 0, count)
			noPeriods(t, kind, 366, count)
		}
		for _, first := range noDays {
			for _, count := range []int{1, 3, impl.MaxPeriods, 0} {
				noPeriods(t, kind, first, count)
			}
		}
	}
	for _, kind := range []int{math.MinInt, -1, 0, 4, 5, math.MaxInt} {
		for _, count := range []int{1, 12, impl.MaxPeriods, 0} {
			noPeriods(t, kind, 0, count)
		}
	}
}

func TestPeriodAtEnds(t *testing.T) {
	list := []impl.Period{{First: 10, Last: 19}, {First: 20, Last: 20}, {First: 30, Last: 39}}
	for day, want := range map[int]int{
		9: -1, 10: 0, 19: 0, 20: 1, 21: -1, 29: -1, 30: 2, 39: 2, 40: -1, 0: -1, impl.MaxDay: -1,
		-1: -1, impl.MaxDay + 1: -1, math.MinInt: -1, math.MaxInt: -1,
	} {
		checkPeriodAt(t, list, day, want)
	}
	for _, day := range append([]int{0, 10, impl.MaxDay}, noDays...) {
		checkPeriodAt(t, nil, day, -1)
		checkPeriodAt(t, []impl.Period{}, day, -1)
	}
	checkPeriodAt(t, []impl.Period{{First: 0, Last: impl.MaxDay}}, impl.MaxDay, 0)
	checkPeriodAt(t, []impl.Period{{First: 0, Last: impl.MaxDay}}, 0, 0)
}

func TestPeriodAtOfPeriodsThatOverlap(t *testing.T) {
	list := []impl.Period{{First: 50, Last: 40}, {First: 30, Last: 60}, {First: 10, Last: 45}, {First: 10, Last: 70}}
	for day, want := range map[int]int{9: -1, 10: 2, 29: 2, 30: 1, 45: 1, 50: 1, 60: 1, 61: 3, 70: 3, 71: -1} {
		checkPeriodAt(t, list, day, want)
	}
}

func TestPeriodAtOfTheLongestList(t *testing.T) {
	room := make([]impl.Period, impl.MaxPeriods+1)
	for i := range room {
		room[i] = impl.Period{First: 5 * i, Last: 5*i + 4}
	}
	kept := slices.Clone(room)
	checkPeriodAt(t, room[:impl.MaxPeriods], 0, 0)
	checkPeriodAt(t, room[:impl.MaxPeriods], 5*impl.MaxPeriods-1, impl.MaxPeriods-1)
	checkPeriodAt(t, room[:impl.MaxPeriods], 5*impl.MaxPeriods, -1)
	checkPeriodAt(t, room, 0, -1)
	checkPeriodAt(t, room, 7, -1)
	checkPeriodAt(t, room, 5*impl.MaxPeriods, -1)
	if !slices.Equal(room, kept) {
		t.Error("the periods were written")
	}
}

func TestPeriodsAreNewMemory(t *testing.T) {
	for _, kind := range periodKinds {
		one, other := impl.Periods(kind, 0, 3), impl.Periods(kind, 0, 3)
		one[0] = impl.Period{First: -7, Last: -7}
		if other[0].First != 0 || impl.Periods(kind, 0, 3)[0].First != 0 {
			t.Errorf("kind %d: two answers share memory", kind)
		}
	}
}
