package tests

import (
	"math"
	"math/rand"
	"testing"

	"loop.example/g00040/impl"
)

const mostWork = 1000

var noWorks = []int{math.MinInt, -mostWork, -2, -1, mostWork + 1, mostWork + 2, impl.MaxHours, math.MaxInt}

// How many hours the machine is open ahead of that hour.
func openAhead(m impl.Machine, hour int) int {
	each := m.Shut - m.Open
	return hour/dayHours*each + min(max(hour%dayHours-m.Open, 0), each)
}

// The hour at which the machine is open when it was open for so many ahead.
func openAfter(m impl.Machine, count int) int {
	each := m.Shut - m.Open
	return count/each*dayHours + m.Open + count%each
}

// wantOccupy reckons with whole days: no hour is gone through.
func wantOccupy(m impl.Machine, from, hours int) (int, int) {
	if !wantMachineOk(m) || !upTo(from, impl.MaxHours) || !upTo(hours, mostWork) {
		return -1, -1
	}
	ahead := openAhead(m, from)
	begin := openAfter(m, ahead)
	end := begin
	if hours > 0 {
		end = openAfter(m, ahead+hours-1) + 1
	}
	if end > impl.MaxHours {
		return -1, -1
	}
	return begin, end
}

func checkOccupy(t *testing.T, m impl.Machine, from, hours, begin, end int) {
	t.Helper()
	if b, e := impl.Occupy(m, from, hours); b != begin || e != end {
		t.Errorf("Occupy(%v, %d, %d) = %d, %d; want %d, %d", m, from, hours, b, e, begin, end)
	}
	if b, e := wantOccupy(m, from, hours); b != begin || e != end {
		t.Errorf("the other way Occupy(%v, %d, %d) = %d, %d; want %d, %d", m, from, hours, b, e, begin, end)
	}
}

func refuseOccupy(t *testing.T, m impl.Machine, from, hours int) {
	t.Helper()
	checkOccupy(t, m, from, hours, -1, -1)
}

func occupyAsWanted(t *testing.T, m impl.Machine, from, hours int) bool {
	t.Helper()
	begin, end := wantOccupy(m, from, hours)
	checkOccupy(t, m, from, hours, begin, end)
	return begin >= 0
}

func TestOccupyByHand(t *testing.T) {
	m := shopOf(8, 16, 1)
	rows := []struct{ from, hours, begin, end int }{
		// From an hour that is open, just at Open, ahead of it, just at Shut, behind it and over midnight.
		{9, 1, 9, 10}, {15, 1, 15, 16}, {8, 1, 8, 9}, {7, 1, 8, 9}, {0, 1, 8, 9}, {16, 1, 32, 33}, {17, 1, 32, 33}, {23, 1, 32, 33}, {24, 1, 32, 33}, {31, 1, 32, 33}, {32, 1, 32, 33},
		// No hours.
		{9, 0, 9, 9}, {8, 0, 8, 8}, {0, 0, 8, 8}, {15, 0, 15, 15}, {16, 0, 32, 32}, {23, 0, 32, 32}, {24, 0, 32, 32},
		// Just what is left of the day, one less and one more.
		{8, 8, 8, 16}, {8, 7, 8, 15}, {8, 9, 8, 33}, {11, 5, 11, 16}, {11, 4, 11, 15}, {11, 6, 11, 33}, {15, 2, 15, 33}, {16, 8, 32, 40}, {16, 9, 32, 57},
		// Over several days.
		{9, 15, 9, 40}, {9, 16, 9, 57}, {9, 23, 9, 64}, {9, 24, 9, 81}, {20, 16, 32, 64}, {20, 17, 32, 81}, {8, 80, 8, 232},
	}
	for _, r := range rows {
		checkOccupy(t, m, r.from, r.hours, r.begin, r.end)
		// The same a week on, and with whatever Setup, which is none of what is asked here.
		checkOccupy(t, m, r.from+168, r.hours, r.begin+168, r.end+168)
		for _, setup := range []int{0, mostSetup} {
			checkOccupy(t, shopOf(8, 16, setup), r.from, r.hours, r.begin, r.end)
		}
	}
}

func TestOccupyOfMachinesThatAreNeverShut(t *testing.T) {
	for _, from := range []int{0, 1, 22, 23, 24, 25, 47, 100, 2000, 3999, 4000} {
		for _, hours := range []int{0, 1, 2, 23, 24, 25, 600, 999, 1000} {
			checkOccupy(t, openAlways(0), from, hours, from, from+hours)
		}
	}
}

func TestOccupyOfMachinesOpenOneHour(t *testing.T) {
	for open := range dayHours {
		m := shopOf(open, open+1, 0)
		checkOccupy(t, m, 0, 0, open, open)
		checkOccupy(t, m, open, 1, open, open+1)
		checkOccupy(t, m, open, 2, open, open+25)
		checkOccupy(t, m, open+1, 0, open+24, open+24)
		checkOccupy(t, m, open+1, 1, open+24, open+25)
		checkOccupy(t, m, open+24, 100, open+24, open+24+99*24+1)
		checkOccupy(t, m, 0, 200, open, open+199*24+1)
	}
	refuseOccupy(t, shopOf(7, 8, 0), 0, 1000)
	refuseOccupy(t, shopOf(7, 8, 0), 0, 210)
	checkOccupy(t, shopOf(7, 8, 0), 0, 209, 7, 5000)
	refuseOccupy(t, shopOf(8, 9, 0), 0, 209)
	checkOccupy(t, shopOf(8, 9, 0), 0, 208, 8, 4977)
}

// The hour MaxHours is the ninth of its day.
func TestOccupyAtTheEndOfTime(t *testing.T) {
	last := impl.MaxHours
	always := openAlways(0)
	checkOccupy(t, always, last, 0, last, last)
	refuseOccupy(t, always, last, 1)
	checkOccupy(t, always, last-1, 1, last-1, last)
	refuseOccupy(t, always, last-1, 2)
	checkOccupy(t, always, last-1000, 1000, last-1000, last)
	refuseOccupy(t, always, last-999, 1000)
	refuseOccupy(t, always, last, 1000)
	for open := range dayHours {
		for shut := open + 1; shut <= dayHours; shut++ {
			m := shopOf(open, shut, 0)
			if open <= 8 && shut > 8 {
				checkOccupy(t, m, last, 0, last, last)
			} else {
				refuseOccupy(t, m, last, 0)
			}
			refuseOccupy(t, m, last, 1)
			if open <= 7 && shut > 7 {
				checkOccupy(t, m, last-1, 1, last-1, last)
			} else if open == 8 {
				checkOccupy(t, m, last-1, 0, last, last)
			} else {
				refuseOccupy(t, m, last-1, 0)
				refuseOccupy(t, m, last-1, 1)
			}
		}
	}
	// The work would end in time but for the hours at which the machine is shut.
	checkOccupy(t, shopOf(0, 8, 0), last-8, 8, last-8, last)
	checkOccupy(t, shopOf(0, 8, 0), last-32, 16, last-32, last)
	refuseOccupy(t, shopOf(0, 8, 0), last-32, 17)
	checkOccupy(t, shopOf(0, 7, 0), last-32, 14, last-32, last-1)
	refuseOccupy(t, shopOf(0, 7, 0), last-32, 15)
	refuseOccupy(t, shopOf(9, 24, 0), last-8, 0)
	checkOccupy(t, shopOf(9, 24, 0), last-9, 0, last-9, last-9)
	checkOccupy(t, shopOf(9, 24, 0), last-9, 1, last-9, last-8)
	refuseOccupy(t, shopOf(9, 24, 0), last-9, 2)
}

func TestNumbersThatOccupyRefuses(t *testing.T) {
	for _, hours := range []int{0, 1, 9} {
		for _, from := range noHours {
			refuseOccupy(t, openAlways(0), from, hours)
			refuseOccupy(t, shopOf(8, 16, 1), from, hours)
		}
		for _, none := range noSetups {
			refuseOccupy(t, shopOf(8, 16, none), 9, hours)
			refuseOccupy(t, openAlways(none), 0, hours)
		}
		for _, no := range noOpens {
			refuseOccupy(t, shopOf(no[0], no[1], 0), 0, hours)
			refuseOccupy(t, shopOf(no[0], no[1], 0), 9, hours)
		}
	}
	for _, none := range noWorks {
		for _, from := range []int{0, 9, 16, impl.MaxHours} {
			refuseOccupy(t, openAlways(0), from, none)
			refuseOccupy(t, shopOf(8, 16, 1), from, none)
		}
	}
	for _, hours := range []int{0, 1, 999, 1000} {
		checkOccupy(t, openAlways(0), 0, hours, 0, hours)
	}
	for _, setup := range []int{0, 1, mostSetup - 1, mostSetup} {
		checkOccupy(t, openAlways(setup), 5, 3, 5, 8)
	}
	checkOccupy(t, openAlways(0), impl.MaxHours, 0, impl.MaxHours, impl.MaxHours)
	checkOccupy(t, openAlways(0), 0, 0, 0, 0)
	for open := -2; open <= 26; open++ {
		for shut := -2; shut <= 26; shut++ {
			if isOpen := open >= 0 && shut <= 24 && open < shut; isOpen != occupyAsWanted(t, shopOf(open, shut, 0), 0, 5) {
				t.Errorf("the machine open from %d to %d", open, shut)
			}
		}
	}
}

func TestOccupyOfEachMachine(t *testing.T) {
	for open := range dayHours {
		for shut := open + 1; shut <= dayHours; shut++ {
			m := shopOf(open, shut, 3)
			for from := range 3 * dayHours {
				for _, hours := range []int{0, 1, 2, shut - open - 1, shut - open, shut - open + 1, 2*(shut-open) + 1} {
					if !occupyAsWanted(t, m, from, hours) {
						t.Errorf("Occupy(%v, %d, %d) is refused", m, from, hours)
					}
				}
			}
		}
	}
}

// What is told is looked at hour by hour: it begins at the first open one, and holds just as many as were asked for.
func checkHoursOf(t *testing.T, m impl.Machine, from, hours, begin, end int) {
	t.Helper()
	isOpen := func(hour int) bool { return hour%dayHours >= m.Open && hour%dayHours < m.Shut }
	for hour := from; hour < begin; hour++ {
		if isOpen(hour) {
			t.Errorf("Occupy(%v, %d, %d) = %d, %d: it is open at %d", m, from, hours, begin, end, hour)
		}
	}
	open := 0
	for hour := begin; hour < end; hour++ {
		if isOpen(hour) {
			open++
		}
	}
	if open != hours || begin < from || !isOpen(begin) || hours > 0 && !isOpen(end-1) || hours == 0 && begin != end {
		t.Errorf("Occupy(%v, %d, %d) = %d, %d: it is open for %d", m, from, hours, begin, end, open)
	}
}

func TestSomeOccupied(t *testing.T) {
	chance := rand.New(rand.NewSource(192))
	told, none := 0, 0
	for range 6000 {
		m := someShops(chance)[0]
		from := chance.Intn(impl.MaxHours + 1)
		hours := chance.Intn([]int{3, 30, mostWork + 1}[chance.Intn(3)])
		if !occupyAsWanted(t, m, from, hours) {
			none++
			continue
		}
		told++
		begin, end := impl.Occupy(m, from, hours)
		checkHoursOf(t, m, from, hours, begin, end)
	}
	if told < 3000 || none < 500 {
		t.Errorf("%d told, %d not", told, none)
	}
}
