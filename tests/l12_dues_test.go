package tests

import (
	"math"
	"math/rand"
	"slices"
	"testing"

	"loop.example/g00040/impl"
)

const mostPayMonths = 120
const mostPayDays = 1000

var noPayMonths = []int{math.MinInt, -1200, -mostPayMonths, -2, -1, mostPayMonths + 1, mostPayMonths + 2, 1200, math.MaxInt}

var noPayDays = []int{math.MinInt, -mostPayDays, -2, -1, mostPayDays + 1, mostPayDays + 2, math.MaxInt - impl.MaxDay, math.MaxInt}

// A part of the weight 1, for this many months and days.
func payOf(months, days int) impl.PayPart { return impl.PayPart{Weight: 1, Months: months, Days: days} }

// The same, from the end of its month on.
func payAtEnd(months, days int) impl.PayPart {
	return impl.PayPart{Weight: 1, Months: months, End: true, Days: days}
}

func weighed(weight int) impl.PayPart { return impl.PayPart{Weight: weight} }

func handParts() []impl.PayPart {
	return []impl.PayPart{{Weight: 3, Days: 10}, {Weight: 2, Months: 1, End: true}, {Weight: 2, Months: 2, End: true, Days: 15}}
}

// Day, Amount and so on.
func duesOf(pairs ...int) []impl.Due {
	list := []impl.Due{}
	for i := 0; i < len(pairs); i += 2 {
		list = append(list, impl.Due{Day: pairs[i], Amount: pairs[i+1]})
	}
	return list
}

func wantCalOk(c impl.Cal) bool {
	for i, day := range c.Holidays {
		if !isDay(day) || slices.Contains(c.Holidays[:i], day) {
			return false
		}
	}
	return c.Off >= 0 && c.Off <= 126 && len(c.Holidays) <= impl.MaxHolidays && slices.IsSorted(c.Holidays)
}

// By the library's calendar, a day at a time to one that is worked; -1 when there is none.
func wantDueDay(p impl.PayPart, cal impl.Cal, day int) int {
	on := wantAddMonths(day, p.Months)
	if on == -1 {
		return -1
	}
	if p.End {
		d := dateAt(on)
		d.Day = lastOfMonth(d.Year, d.Month)
		on = dayAt(d)
	}
	if !isDay(on) {
		return -1
	}
	for on += p.Days; isDay(on); on++ {
		if works(cal, on) {
			return on
		}
	}
	return -1
}

func wantDues(parts []impl.PayPart, cal impl.Cal, day, a int) []impl.Due {
	if len(parts) == 0 || len(parts) > impl.MaxDues || !wantCalOk(cal) || !isDay(day) || !amount(a) {
		return nil
	}
	weights := make([]int, len(parts))
	for i, p := range parts {
		weights[i] = p.Weight
		factor := 0 <= p.Weight && p.Weight <= impl.MaxFactor
		if !factor || p.Months < 0 || p.Months > mostPayMonths || p.Days < 0 || p.Days > mostPayDays {
			return nil
		}
	}
	if slices.Max(weights) == 0 {
		return nil
	}
	dues := make([]impl.Due, len(parts))
	for i, share := range wantShares(a, weights) {
		dues[i] = impl.Due{Day: wantDueDay(parts[i], cal, day), Amount: share}
		if dues[i].Day == -1 {
			return nil
		}
	}
	return dues
}

// P31: together the amount, each on a working day that is not ahead of the day.
func checkDuesPromise(t *testing.T, parts []impl.PayPart, cal impl.Cal, day, a int, dues []impl.Due) {
	t.Helper()
	together := 0
	for _, d := range dues {
		together += d.Amount
		if !impl.Work(cal, d.Day) || d.Day < day {
			t.Errorf("Dues(%v, .., %d, %d) = %v: %d is no working day from then on", parts, day, a, dues, d.Day)
		}
	}
	if together != a || len(dues) != len(parts) {
		t.Errorf("Dues(%v, .., %d, %d) = %v: together %d", parts, day, a, dues, together)
	}
}

func checkDues(t *testing.T, parts []impl.PayPart, cal impl.Cal, day, a int, want ...impl.Due) {
	t.Helper()
	got := impl.Dues(parts, cal, day, a)
	if !slices.Equal(got, want) || !slices.Equal(wantDues(parts, cal, day, a), want) {
		t.Errorf("Dues(%v, Off %d and %d holidays, %d, %d) = %v; want %v", parts[:min(4, len(parts))], cal.Off, len(cal.Holidays), day, a, got, want)
		return
	}
	checkDuesPromise(t, parts, cal, day, a, got)
}

func noDues(t *testing.T, parts []impl.PayPart, cal impl.Cal, day, a int) {
	t.Helper()
	if got := impl.Dues(parts, cal, day, a); len(got) != 0 || len(wantDues(parts, cal, day, a)) != 0 {
		t.Errorf("Dues(%v, Off %d and %d holidays, %d, %d) = %v; want nothing", parts[:min(4, len(parts))], cal.Off, len(cal.Holidays), day, a, got)
	}
}

// On which day one part of 100 is due; -1 for nothing.
func checkDueDay(t *testing.T, p impl.PayPart, cal impl.Cal, day, want int) {
	t.Helper()
	if want == -1 {
		noDues(t, []impl.PayPart{p}, cal, day, 100)
		noDues(t, []impl.PayPart{weighed(1), p}, cal, day, 100)
		noDues(t, []impl.PayPart{p, weighed(1)}, cal, day, 100)
		return
	}
	checkDues(t, []impl.PayPart{p}, cal, day, 100, impl.Due{Day: want, Amount: 100})
}

func dayOfDate(year, month, day int) int {
	return dayAt(impl.Date{Year: year, Month: month, Day: day})
}

func TestDuesByHand(t *testing.T) {
	cal := impl.Cal{Off: weekend, Holidays: []int{59, 60}}
	checkDues(t, handParts(), cal, 5, 101, duesOf(16, 43, 61, 29, 107, 29)...)
	checkDues(t, handParts(), impl.Cal{}, 5, 101, duesOf(15, 43, 59, 29, 105, 29)...)
	checkDues(t, handParts(), impl.Cal{}, 5, -101, duesOf(15, -43, 59, -29, 105, -29)...)
	checkDues(t, []impl.PayPart{payOf(0, 0)}, impl.Cal{}, 5, 7, duesOf(5, 7)...)
	// In the order of the parts, not of their days.
	checkDues(t, []impl.PayPart{payOf(2, 0), payOf(0, 3), payOf(1, 0)}, impl.Cal{}, 0, 10, duesOf(60, 4, 3, 3, 31, 3)...)
}

func TestHowManyPartsThereMayBe(t *testing.T) {
	noDues(t, nil, impl.Cal{}, 5, 100)
	noDues(t, []impl.PayPart{}, impl.Cal{}, 5, 0)
	for count := 1; count <= impl.MaxDues; count++ {
		parts := slices.Repeat([]impl.PayPart{payOf(0, 1)}, count)
		checkDues(t, parts, impl.Cal{}, 5, 7*count, slices.Repeat(duesOf(6, 7), count)...)
	}
	for _, count := range []int{impl.MaxDues + 1, impl.MaxDues + 2, impl.MaxParts, impl.MaxParts + 1, 10000} {
		noDues(t, slices.Repeat([]impl.PayPart{payOf(0, 1)}, count), impl.Cal{}, 5, 7*count)
	}
}

func TestWeightsOfParts(t *testing.T) {
	checkDues(t, []impl.PayPart{weighed(0), weighed(1)}, impl.Cal{}, 5, 9, duesOf(5, 0, 5, 9)...)
	checkDues(t, []impl.PayPart{weighed(1), weighed(0), weighed(2)}, impl.Cal{}, 5, 10, duesOf(5, 3, 5, 0, 5, 7)...)
	checkDues(t, []impl.PayPart{weighed(impl.MaxFactor)}, impl.Cal{}, 5, 9, duesOf(5, 9)...)
	checkDues(t, []impl.PayPart{weighed(impl.MaxFactor), weighed(impl.MaxFactor - 1)}, impl.Cal{}, 5, impl.MaxMoney, duesOf(5, 50000002500, 5, 49999997500)...)
	most := slices.Repeat([]impl.PayPart{weighed(impl.MaxFactor)}, impl.MaxDues)
	for _, a := range []int{-impl.MaxMoney, impl.MaxMoney} {
		checkDues(t, most, impl.Cal{}, 5, a, wantDues(most, impl.Cal{}, 5, a)...)
	}
	for _, weight := range noFactors {
		checkDueDay(t, weighed(weight), impl.Cal{}, 5, -1)
	}
	for _, count := range []int{1, 2, impl.MaxDues} {
		noDues(t, make([]impl.PayPart, count), impl.Cal{}, 5, 100)
		noDues(t, make([]impl.PayPart, count), impl.Cal{}, 5, 0)
	}
}

func TestMonthsOfParts(t *testing.T) {
	for months := range mostPayMonths + 1 {
		checkDueDay(t, payOf(months, 0), impl.Cal{}, 14, dayOfDate(2000+months/12, 1+months%12, 15))
		checkDueDay(t, payAtEnd(months, 0), impl.Cal{}, 14, dayOfDate(2000+(months+1)/12, 1+(months+1)%12, 1)-1)
	}
	for _, months := range noPayMonths {
		checkDueDay(t, payOf(months, 0), impl.Cal{}, 20000, -1)
		checkDueDay(t, payAtEnd(months, 5), impl.Cal{}, 20000, -1)
	}
}

func TestDaysOfParts(t *testing.T) {
	for days := range mostPayDays + 1 {
		checkDueDay(t, payOf(0, days), impl.Cal{}, 14, 14+days)
		checkDueDay(t, payAtEnd(0, days), impl.Cal{}, 14, 30+days)
	}
	for _, days := range noPayDays {
		checkDueDay(t, payOf(0, days), impl.Cal{}, 20000, -1)
		checkDueDay(t, payAtEnd(3, days), impl.Cal{}, 20000, -1)
	}
	checkDueDay(t, payAtEnd(mostPayMonths, mostPayDays), impl.Cal{}, 0, dayOfDate(2010, 1, 31)+mostPayDays)
	checkDueDay(t, payOf(mostPayMonths+1, mostPayDays+1), impl.Cal{}, 0, -1)
}

// Months of 31, 29, 28 and 30 days, and from a month's last day on: first the months, then the end, then the days.
func TestEndsOfMonths(t *testing.T) {
	rows := []struct {
		year, month, day int
		p                impl.PayPart
		want             int
	}{
		{2000, 1, 1, payAtEnd(0, 0), dayOfDate(2000, 1, 31)},
		{2000, 1, 31, payAtEnd(0, 0), dayOfDate(2000, 1, 31)},
		{2000, 1, 31, payAtEnd(1, 0), dayOfDate(2000, 2, 29)},
		{2000, 1, 31, payOf(1, 0), dayOfDate(2000, 2, 29)},
		{2000, 1, 31, payOf(1, 1), dayOfDate(2000, 3, 1)},
		{2000, 1, 31, payAtEnd(1, 1), dayOfDate(2000, 3, 1)},
		{2000, 1, 30, payOf(1, 0), dayOfDate(2000, 2, 29)},
		{2000, 1, 29, payOf(1, 0), dayOfDate(2000, 2, 29)},
		{2000, 1, 28, payOf(1, 0), dayOfDate(2000, 2, 28)},
		{2000, 1, 28, payAtEnd(1, 0), dayOfDate(2000, 2, 29)},
		{2001, 1, 31, payOf(1, 0), dayOfDate(2001, 2, 28)},
		{2001, 1, 31, payAtEnd(1, 0), dayOfDate(2001, 2, 28)},
		{2001, 1, 28, payAtEnd(1, 10), dayOfDate(2001, 3, 10)},
		{2001, 2, 28, payOf(1, 0), dayOfDate(2001, 3, 28)},
		{2001, 2, 28, payAtEnd(1, 0), dayOfDate(2001, 3, 31)},
		{2001, 2, 28, payAtEnd(2, 0), dayOfDate(2001, 4, 30)},
		{2001, 4, 30, payOf(1, 0), dayOfDate(2001, 5, 30)},
		{2001, 4, 30, payAtEnd(0, 0), dayOfDate(2001, 4, 30)},
		{2001, 4, 30, payAtEnd(1, 0), dayOfDate(2001, 5, 31)},
		{2001, 4, 15, payAtEnd(0, 15), dayOfDate(2001, 5, 15)},
		{2001, 12, 31, payAtEnd(2, 0), dayOfDate(2002, 2, 28)},
		{2001, 12, 31, payOf(2, 0), dayOfDate(2002, 2, 28)},
		{2003, 12, 31, payAtEnd(2, 0), dayOfDate(2004, 2, 29)},
		{2099, 12, 31, payAtEnd(2, 0), dayOfDate(2100, 2, 28)},
		{2000, 2, 29, payOf(12, 0), dayOfDate(2001, 2, 28)},
		{2000, 2, 29, payAtEnd(48, 0), dayOfDate(2004, 2, 29)},
		{2001, 3, 25, payOf(0, 10), dayOfDate(2001, 4, 4)}, // days go over the month's end, End or not
		{2001, 3, 25, payAtEnd(0, 10), dayOfDate(2001, 4, 10)},
	}
	for _, r := range rows {
		checkDueDay(t, r.p, impl.Cal{}, dayOfDate(r.year, r.month, r.day), r.want)
	}
	for day := range 800 { // with all lengths of months
		p := payAtEnd(0, 0)
		checkDueDay(t, p, impl.Cal{}, day, wantDueDay(p, impl.Cal{}, day))
	}
}

// Days 0 and 1 are a weekend, so are 7 and 8; day 3 is a holiday, 9 and 10 are two behind a weekend.
func TestDuesOnFreeDays(t *testing.T) {
	cal := impl.Cal{Off: weekend, Holidays: []int{3, 9, 10}}
	for day, want := range []int{2, 2, 2, 4, 4, 5, 6, 11, 11, 11, 11, 11, 12, 13} {
		checkDueDay(t, payOf(0, 0), cal, day, want)
		for from := range day {
			checkDueDay(t, payOf(0, day-from), cal, from, want) // a free day on the way does not matter
		}
	}
	checkDueDay(t, payAtEnd(0, 0), impl.Cal{Off: 126}, 0, 30) // a Monday
	checkDueDay(t, payAtEnd(0, 1), impl.Cal{Off: 126}, 0, 37)
	checkDueDay(t, payOf(1, 0), impl.Cal{Holidays: daysFrom(31, 28)}, 0, 59) // out of the month, if need be
	checkDueDay(t, payOf(0, 0), impl.Cal{Holidays: daysFrom(0, impl.MaxHolidays)}, 0, impl.MaxHolidays)
	checkDueDay(t, payOf(0, 0), impl.Cal{Off: 127 - 1<<6}, 2, 8)
	// A free day ahead of which there is a working one: it is put off, not brought forward.
	checkDueDay(t, payOf(0, 1), impl.Cal{Off: weekend}, 6, 9)
}

func TestDuesOfCalendars(t *testing.T) {
	for _, cal := range testedCals() {
		for _, day := range []int{0, 1, 5, 58, 59, 366, 20000, 39000} {
			checkDues(t, handParts(), cal, day, 1000, wantDues(handParts(), cal, day, 1000)...)
		}
	}
	for _, cal := range wrongCals() {
		for _, day := range []int{0, 20000, impl.MaxDay} {
			noDues(t, handParts(), cal, day, 1000)
			noDues(t, []impl.PayPart{payOf(0, 0)}, cal, day, 1000)
		}
	}
}

func TestDuesAtTheLastDay(t *testing.T) {
	last := dateAt(impl.MaxDay)
	ahead := dayAt(impl.Date{Year: last.Year, Month: last.Month, Day: 1}) - 1 // the last day of the last whole month
	checkDueDay(t, payOf(0, 0), impl.Cal{}, impl.MaxDay, impl.MaxDay)
	checkDueDay(t, payOf(0, 1), impl.Cal{}, impl.MaxDay, -1)
	checkDueDay(t, payOf(0, 1), impl.Cal{}, impl.MaxDay-1, impl.MaxDay)
	checkDueDay(t, payOf(0, mostPayDays), impl.Cal{}, impl.MaxDay-mostPayDays, impl.MaxDay)
	checkDueDay(t, payOf(0, mostPayDays), impl.Cal{}, impl.MaxDay-mostPayDays+1, -1)
	checkDueDay(t, payAtEnd(0, 0), impl.Cal{}, ahead, ahead)
	checkDueDay(t, payAtEnd(0, impl.MaxDay-ahead), impl.Cal{}, ahead, impl.MaxDay)
	checkDueDay(t, payAtEnd(0, impl.MaxDay-ahead+1), impl.Cal{}, ahead, -1)
	checkDueDay(t, payAtEnd(0, 0), impl.Cal{}, ahead+1, -1)
	checkDueDay(t, payAtEnd(0, 0), impl.Cal{}, impl.MaxDay, -1)
	for months := 1; months <= mostPayMonths; months++ {
		for _, days := range []int{0, 1, 2, 500, mostPayDays} { // from no day on, days would come to one again
			checkDueDay(t, payOf(months, days), impl.Cal{}, impl.MaxDay, -1)
			checkDueDay(t, payAtEnd(months, days), impl.Cal{}, impl.MaxDay, -1)
			checkDueDay(t, payAtEnd(months-1, days), impl.Cal{}, impl.MaxDay, -1)
		}
	}
	before := impl.AddMonths(impl.MaxDay, -1)
	checkDueDay(t, payOf(1, 0), impl.Cal{}, before, impl.MaxDay)
	checkDueDay(t, payOf(1, 0), impl.Cal{}, before+1, -1)
	checkDueDay(t, payAtEnd(1, 0), impl.Cal{}, before, -1)
	// No working day is left.
	checkDueDay(t, payOf(0, 0), impl.Cal{Holidays: []int{impl.MaxDay}}, impl.MaxDay, -1)
	checkDueDay(t, payOf(0, 0), impl.Cal{Holidays: []int{impl.MaxDay}}, impl.MaxDay-1, impl.MaxDay-1)
	checkDueDay(t, payOf(0, 1), impl.Cal{Holidays: []int{impl.MaxDay}}, impl.MaxDay-1, -1)
	sundays := impl.Cal{Off: 63}
	checkDueDay(t, payOf(0, 0), sundays, 39999, 39999)
	checkDueDay(t, payOf(0, 0), sundays, impl.MaxDay, -1)
	for _, day := range noDays {
		for _, p := range []impl.PayPart{payOf(0, 0), payOf(0, 5), payAtEnd(0, 5), payOf(2, mostPayDays), payAtEnd(1, 2)} {
			checkDueDay(t, p, impl.Cal{}, day, -1)
		}
	}
}

func TestAmountsOfDues(t *testing.T) {
	for _, a := range []int{-impl.MaxMoney, -impl.MaxMoney + 1, -100, -1, 0, 1, 100, impl.MaxMoney - 1, impl.MaxMoney} {
		checkDues(t, []impl.PayPart{payOf(0, 2)}, impl.Cal{}, 5, a, duesOf(7, a)...)
		checkDues(t, handParts(), impl.Cal{}, 5, a, wantDues(handParts(), impl.Cal{}, 5, a)...)
	}
	checkDues(t, handParts(), impl.Cal{}, 5, 0, duesOf(15, 0, 59, 0, 105, 0)...)
	for _, a := range noAmounts {
		noDues(t, []impl.PayPart{payOf(0, 2)}, impl.Cal{}, 5, a)
		noDues(t, handParts(), impl.Cal{}, 5, a)
	}
}

func someParts(chance *rand.Rand, count int) []impl.PayPart {
	parts := make([]impl.PayPart, count)
	for i := range parts {
		parts[i] = impl.PayPart{Weight: chance.Intn(4), Months: chance.Intn(4), End: chance.Intn(2) == 0, Days: chance.Intn(40)}
		if chance.Intn(4) == 0 {
			parts[i] = impl.PayPart{Weight: chance.Intn(impl.MaxFactor + 1), Months: chance.Intn(mostPayMonths + 1), Days: chance.Intn(mostPayDays + 1)}
		}
	}
	return parts
}

func TestSomeDues(t *testing.T) {
	chance := rand.New(rand.NewSource(126))
	cals := testedCals()
	told, none := 0, 0
	for range 6000 {
		parts := someParts(chance, chance.Intn(7))
		day := chance.Intn(impl.MaxDay + 1)
		if chance.Intn(3) == 0 {
			day = impl.MaxDay - chance.Intn(150)
		}
		if chance.Intn(10) == 0 && len(parts) > 0 {
			parts[chance.Intn(len(parts))].Months--
		}
		a := chance.Intn(2*impl.MaxMoney+1) - impl.MaxMoney
		if chance.Intn(2) == 0 {
			a %= 1000
		}
		cal := cals[chance.Intn(len(cals))]
		want := wantDues(parts, cal, day, a)
		if len(want) == 0 {
			noDues(t, parts, cal, day, a)
			none++
			continue
		}
		checkDues(t, parts, cal, day, a, want...)
		told++
	}
	if told < 2000 || none < 1000 {
		t.Errorf("%d told, %d not", told, none)
	}
}

// Behind the lists stands more, which is neither read nor written; what is answered is new each time.
func TestDuesLeaveTheirLists(t *testing.T) {
	parts := append(handParts(), impl.PayPart{Weight: -1}, impl.PayPart{Days: -1})
	holidays := []int{15, 59, 2, 2}
	keptParts, keptHolidays := slices.Clone(parts), slices.Clone(holidays)
	cal := impl.Cal{Holidays: holidays[:2]}
	want := duesOf(16, 43, 60, 29, 105, 29)
	checkDues(t, parts[:3], cal, 5, 101, want...)
	first := impl.Dues(parts[:3], cal, 5, 101)
	for i := range first[:cap(first)] {
		first[:cap(first)][i] = impl.Due{Day: -7, Amount: -7}
	}
	checkDues(t, parts[:3], cal, 5, 101, want...)
	checkDues(t, parts[:1], cal, 5, 101, duesOf(16, 101)...)
	if !slices.Equal(parts, keptParts) || !slices.Equal(holidays, keptHolidays) {
		t.Error("parts or holidays were written into")
	}
}
