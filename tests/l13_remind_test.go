package tests

import (
	"math"
	"math/rand"
	"slices"
	"testing"

	"loop.example/g00040/impl"
)

const mostDunDays = 1000

var noDunDays = []int{math.MinInt, -mostDunDays, -2, -1, mostDunDays + 1, mostDunDays + 2, math.MaxInt}

var noFees = append([]int{-1, -2, -impl.MaxMoney}, noAmounts...)

// Days, Fee, Rate and so on.
func dunsOf(triples ...int) []impl.Dun {
	list := []impl.Dun{}
	for i := 0; i < len(triples); i += 3 {
		list = append(list, impl.Dun{Days: triples[i], Fee: triples[i+1], Rate: triples[i+2]})
	}
	return list
}

func handDuns() []impl.Dun { return dunsOf(5, 100, 1000, 9, 200, 0, 10, 0, 3000, 40, 0, 0) }

// From day 0 on, each 10 further, with Fees of 1, 2 and so on.
func manyDuns(count int) []impl.Dun {
	list := make([]impl.Dun, count)
	for i := range list {
		list[i] = impl.Dun{Days: 10 * i, Fee: i + 1}
	}
	return list
}

// Every two are held against each other, not only neighbours.
func wantDunsOk(levels []impl.Dun) bool {
	for i, d := range levels {
		if d.Days < 0 || d.Days > mostDunDays || d.Fee < 0 || !amount(d.Fee) || !isSaleRate(d.Rate) {
			return false
		}
		for _, later := range levels[i+1:] {
			if later.Days <= d.Days {
				return false
			}
		}
	}
	return len(levels) <= impl.MaxLadder
}

func claimOf(d impl.Dun, a int) int { return d.Fee + wantMulDiv(a, d.Rate, wholeSale, impl.Half) }

func wantRemind(levels []impl.Dun, due, today, level, a int) (int, int) {
	right := wantDunsOk(levels) && isDay(due) && isDay(today) && a >= 0 && amount(a)
	if !right || level < 0 || level >= len(levels) || due+levels[level].Days > today {
		return level, 0
	}
	return level + 1, claimOf(levels[level], a)
}

func checkRemind(t *testing.T, levels []impl.Dun, due, today, level, a, want, wantClaim int) {
	t.Helper()
	ownWant, ownClaim := wantRemind(levels, due, today, level, a)
	got, claim := impl.Remind(levels, due, today, level, a)
	if got != want || claim != wantClaim || ownWant != want || ownClaim != wantClaim {
		t.Errorf("Remind(%v, %d, %d, %d, %d) = %d, %d; want %d, %d", levels[:min(4, len(levels))], due, today, level, a, got, claim, want, wantClaim)
	}
}

// The bill stays where it was, and nothing is claimed.
func noRemind(t *testing.T, levels []impl.Dun, due, today, level, a int) {
	t.Helper()
	checkRemind(t, levels, due, today, level, a, level, 0)
}

// Each of them alone is wrong: asked for level 0 on a day far behind, something would be claimed.
func wrongDuns() [][]impl.Dun {
	list := [][]impl.Dun{
		manyDuns(impl.MaxLadder + 1),
		manyDuns(impl.MaxLadder + 2),
		dunsOf(5, 1, 0, 5, 2, 0),
		dunsOf(5, 1, 0, 5, 1, 0),
		dunsOf(0, 1, 0, 0, 2, 0),
		dunsOf(mostDunDays, 1, 0, mostDunDays, 2, 0),
		dunsOf(5, 1, 0, 4, 2, 0),
		dunsOf(5, 1, 0, 9, 2, 0, 8, 3, 0),
		dunsOf(5, 1, 0, 9, 2, 0, 9, 3, 0),
		dunsOf(5, 1, 0, 9, 2, 0, 5, 3, 0),
		dunsOf(5, 1, 0, 6, 2, 0, 0, 3, 0),
	}
	for _, none := range noDunDays {
		list = append(list, dunsOf(none, 7, 7), dunsOf(none, 7, 7, 5, 7, 7), dunsOf(5, 7, 7, none, 7, 7))
	}
	for _, none := range noFees {
		list = append(list, dunsOf(5, none, 7), dunsOf(5, none, 7, 9, 7, 7), dunsOf(5, 7, 7, 9, none, 7))
	}
	for _, none := range noSaleRates {
		list = append(list, dunsOf(5, 7, none), dunsOf(5, 7, none, 9, 7, 7), dunsOf(5, 7, 7, 9, 7, none))
	}
	return list
}

func TestRemindByHand(t *testing.T) {
	noRemind(t, handDuns(), 10, 14, 0, 5000)
	checkRemind(t, handDuns(), 10, 15, 0, 5000, 1, 150)
	noRemind(t, handDuns(), 10, 18, 1, 5000)
	checkRemind(t, handDuns(), 10, 19, 1, 5000, 2, 200)
	noRemind(t, handDuns(), 10, 19, 2, 5000)
	checkRemind(t, handDuns(), 10, 20, 2, 5000, 3, 150)
	noRemind(t, handDuns(), 10, 49, 3, 5000)
	checkRemind(t, handDuns(), 10, 50, 3, 5000, 4, 0) // a level for which nothing is claimed
	noRemind(t, handDuns(), 10, 50, 4, 5000)
}

func TestRemindOneLevelAtATime(t *testing.T) {
	for level, claim := range []int{150, 200, 150, 0} {
		checkRemind(t, handDuns(), 10, 60, level, 5000, level+1, claim)
		checkRemind(t, handDuns(), 0, impl.MaxDay, level, 5000, level+1, claim)
	}
	noRemind(t, handDuns(), 10, 60, 4, 5000)
	noRemind(t, handDuns(), 0, impl.MaxDay, 4, 5000)
}

func TestRemindByDays(t *testing.T) {
	for _, days := range []int{0, 1, 2, 30, mostDunDays - 1, mostDunDays} {
		levels := dunsOf(days, 8, 0)
		for _, due := range []int{0, 5, 3000, impl.MaxDay - days} {
			for off := -3; off <= 3; off++ {
				today := due + days + off
				switch {
				case off < 0 || !isDay(today):
					noRemind(t, levels, due, today, 0, 5000)
				default:
					checkRemind(t, levels, due, today, 0, 5000, 1, 8)
				}
			}
		}
		noRemind(t, levels, 5000, 4999, 0, 5000) // ahead of due
		noRemind(t, levels, 5000, 0, 0, 5000)
		noRemind(t, levels, impl.MaxDay, 0, 0, 5000)
	}
	for _, none := range noDays {
		for _, day := range []int{0, 50, impl.MaxDay} {
			noRemind(t, handDuns(), none, day, 0, 5000)
			noRemind(t, handDuns(), day, none, 0, 5000)
		}
		noRemind(t, handDuns(), none, none, 0, 5000)
		noRemind(t, dunsOf(0, 8, 0), none, none, 0, 5000)
	}
}

func TestHowManyLevelsThereMayBe(t *testing.T) {
	for _, level := range []int{math.MinInt, -1, 0, 1, math.MaxInt} {
		noRemind(t, nil, 10, 3000, level, 5000)
		noRemind(t, []impl.Dun{}, 10, 3000, level, 5000)
	}
	for count := 1; count <= impl.MaxLadder; count++ {
		for level := range count {
			checkRemind(t, manyDuns(count), 10, 3000, level, 5000, level+1, level+1)
		}
		noRemind(t, manyDuns(count), 10, 3000, count, 5000)
		noRemind(t, manyDuns(count), 10, 3000, count+1, 5000)
	}
	for _, count := range []int{impl.MaxLadder + 1, impl.MaxLadder + 2} {
		for level := range count + 2 {
			noRemind(t, manyDuns(count), 10, 3000, level, 5000)
		}
	}
}

func TestRemindOfLevelsThatAreNone(t *testing.T) {
	for _, level := range []int{math.MinInt, -5, -1, 4, 5, 6, impl.MaxLadder, impl.MaxLadder + 1, math.MaxInt - 1, math.MaxInt} {
		noRemind(t, handDuns(), 10, 3000, level, 5000)
		noRemind(t, handDuns(), 10, 0, level, 5000)
	}
}

func TestRemindOfWrongLevels(t *testing.T) {
	for _, levels := range wrongDuns() {
		for level := -1; level <= len(levels)+1; level++ { // also where the wrong one is not the next
			noRemind(t, levels, 10, 3000, level, 5000)
		}
	}
}

func TestFeesAndRatesOfLevels(t *testing.T) {
	for _, fee := range []int{0, 1, impl.MaxMoney - 1, impl.MaxMoney} {
		for _, rate := range []int{0, 1, wholeSale - 1, wholeSale} {
			for _, a := range []int{0, 1, 100000, impl.MaxMoney - 1, impl.MaxMoney} {
				d := dunsOf(5, fee, rate)
				checkRemind(t, d, 10, 15, 0, a, 1, claimOf(d[0], a))
			}
		}
	}
	checkRemind(t, dunsOf(5, 0, wholeSale), 10, 15, 0, 777, 1, 777)
	// Both are amounts, what they come to together need be none.
	checkRemind(t, dunsOf(5, impl.MaxMoney, wholeSale), 10, 15, 0, impl.MaxMoney, 1, 2*impl.MaxMoney)
}

func TestRemindRoundsTheHalfUp(t *testing.T) {
	rows := [][3]int{ // amount, rate, what is claimed above the Fee
		{25, 2000, 1}, {24, 2000, 0}, {26, 2000, 1}, {75, 2000, 2}, {74, 2000, 1}, {125, 2000, 3}, {1, 50000, 1}, {1, 49999, 0}, {3, 50000, 2}, {5, 50000, 3},
	}
	for _, r := range rows {
		checkRemind(t, dunsOf(5, 0, r[1]), 10, 15, 0, r[0], 1, r[2])
		checkRemind(t, dunsOf(5, 90, r[1]), 10, 15, 0, r[0], 1, 90+r[2])
	}
}

func TestRemindOfAmounts(t *testing.T) {
	checkRemind(t, handDuns(), 10, 15, 0, 0, 1, 100)
	checkRemind(t, handDuns(), 10, 15, 0, 1, 1, 100)
	checkRemind(t, handDuns(), 10, 15, 0, impl.MaxMoney, 1, 100+impl.MaxMoney/100)
	for _, none := range noFees {
		for level := range 5 {
			noRemind(t, handDuns(), 10, 3000, level, none)
		}
	}
}

// How many levels' days have come.
func comeBy(levels []impl.Dun, due, today int) int {
	count := 0
	for _, d := range levels {
		if due+d.Days <= today {
			count++
		}
	}
	return count
}

// P36: a bill that is reminded every day from start on; level by level, until just those are reached whose days have come.
func checkReminders(t *testing.T, levels []impl.Dun, due, start, end, a int) {
	t.Helper()
	level, claimed := 0, 0
	for today := start; today <= end; today++ {
		next, claim := impl.Remind(levels, due, today, level, a)
		if next != level && next != level+1 {
			t.Errorf("Remind(%v, %d, %d, %d, %d) = %d: not one level at a time", levels, due, today, level, a, next)
		}
		level, claimed = next, claimed+claim
		// Begun late, it has been reminded too few times to be up already.
		if want := min(comeBy(levels, due, today), today-start+1); level != want {
			t.Errorf("reminded from %d to %d of what was due on %d, by %v: level %d; want %d", start, today, due, levels, level, want)
			return
		}
	}
	all := 0
	for _, d := range levels[:level] {
		all += claimOf(d, a)
	}
	if claimed != all {
		t.Errorf("reminded from %d to %d of what was due on %d, by %v: %d are claimed; want %d", start, end, due, levels, claimed, all)
	}
}

func someDuns(chance *rand.Rand) []impl.Dun {
	levels := make([]impl.Dun, chance.Intn(7))
	days := chance.Intn(4)
	for i := range levels {
		levels[i] = impl.Dun{Days: days, Fee: chance.Intn(500), Rate: chance.Intn(wholeSale + 1)}
		days += 1 + chance.Intn(8)
		if chance.Intn(3) == 0 {
			days = levels[i].Days + 1
		}
	}
	return levels
}

func TestRemindedEveryDay(t *testing.T) {
	checkReminders(t, handDuns(), 10, 0, 60, 5000)
	checkReminders(t, handDuns(), 10, 10, 60, 5000)
	checkReminders(t, handDuns(), 10, 55, 70, 5000) // when all have come already
	checkReminders(t, manyDuns(impl.MaxLadder), 300, 290, 600, 77)
	checkReminders(t, manyDuns(impl.MaxLadder), 300, 420, 600, 77)
	checkReminders(t, dunsOf(0, 1, 1, 1, 2, 2, 2, 3, 3, mostDunDays, 4, 4), 100, 90, 1200, 5000)
	checkReminders(t, handDuns(), impl.MaxDay-9, impl.MaxDay-20, impl.MaxDay, 5000)
	chance := rand.New(rand.NewSource(138))
	for range 2000 {
		due := 50 + chance.Intn(300)
		start := due - 5 + chance.Intn(30)
		checkReminders(t, someDuns(chance), due, start, start+chance.Intn(60), chance.Intn(10000))
	}
}

func TestSomeReminders(t *testing.T) {
	chance := rand.New(rand.NewSource(139))
	up, stayed := 0, 0
	for range 20000 {
		levels := someDuns(chance)
		if chance.Intn(5) == 0 && len(levels) > 0 {
			d := &levels[chance.Intn(len(levels))]
			switch chance.Intn(4) {
			case 0:
				d.Days = chance.Intn(30) - 5
			case 1:
				d.Days = noDunDays[chance.Intn(len(noDunDays))]
			case 2:
				d.Fee = noFees[chance.Intn(len(noFees))]
			case 3:
				d.Rate = noSaleRates[chance.Intn(len(noSaleRates))]
			}
		}
		due, level, a := chance.Intn(impl.MaxDay+1), chance.Intn(8)-1, chance.Intn(impl.MaxMoney+1)
		today := due - 5 + chance.Intn(50)
		want, claim := wantRemind(levels, due, today, level, a)
		checkRemind(t, levels, due, today, level, a, want, claim)
		if want > level {
			up++
		} else {
			stayed++
		}
	}
	if up < 3000 || stayed < 5000 {
		t.Errorf("%d went up, %d stayed", up, stayed)
	}
}

// Behind the levels stands more, which is neither read nor written.
func TestRemindLeavesItsLevels(t *testing.T) {
	whole := append(handDuns(), impl.Dun{Days: 50, Fee: 7}, impl.Dun{Days: -1})
	kept := slices.Clone(whole)
	noRemind(t, whole[:4], 10, 3000, 4, 5000)
	checkRemind(t, whole[:5], 10, 3000, 4, 5000, 5, 7)
	checkRemind(t, whole[:1], 10, 3000, 0, 5000, 1, 150)
	noRemind(t, whole[:1], 10, 3000, 1, 5000)
	noRemind(t, whole[:0], 10, 3000, 0, 5000)
	noRemind(t, whole[:6], 10, 3000, 0, 5000)
	if !slices.Equal(whole, kept) {
		t.Error("the levels were written into")
	}
}
