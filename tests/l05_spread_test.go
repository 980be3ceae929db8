package tests

import (
	"math"
	"math/rand"
	"slices"
	"testing"

	"loop.example/g00040/impl"
)

// Periods of so many days each, one behind the other from day 0 on.
func periodsOf(days ...int) []impl.Period {
	list, first := []impl.Period{}, 0
	for _, count := range days {
		list = append(list, impl.Period{First: first, Last: first + count - 1})
		first += count
	}
	return list
}

func wantSpread(total, from, to, dim int, list []impl.Period) []impl.Entry {
	days := []int{}
	for _, p := range list {
		days = append(days, p.Last-p.First+1)
	}
	entries := []impl.Entry{}
	for i, share := range wantShares(total, days) {
		entries = append(entries, entryOf(list[i].Last, "spread", own(to, dim, share), own(from, dim, -share)))
	}
	return entries
}

// P15: what is spread is the total, in entries that are right, each on its period's last day.
func checkSpread(t *testing.T, f impl.Frame, total, from, to, dim int, list []impl.Period) {
	t.Helper()
	got := impl.Spread(f, total, from, to, dim, list)
	if len(got) != len(list) || !sameEntries(got, wantSpread(total, from, to, dim, list)) {
		t.Errorf("Spread(%d, from %d to %d in %d, %v) = %+v", total, from, to, dim, list, got)
		return
	}
	moved := 0
	for i, e := range got {
		moved += e.Lines[0].Base
		if e.Day != list[i].Last || e.Lines[0].Account != to || e.Lines[1].Account != from || e.Lines[1].Base != -e.Lines[0].Base {
			t.Errorf("Spread(%d, from %d to %d in %d, %v) has the entry %+v", total, from, to, dim, list, e)
		}
		checkEntryOk(t, f, e, true)
	}
	if moved != total {
		t.Errorf("Spread(%d, %v) moves %d", total, list, moved)
	}
}

func refuseSpread(t *testing.T, f impl.Frame, total, from, to, dim int, list []impl.Period) {
	t.Helper()
	if got := impl.Spread(f, total, from, to, dim, list); len(got) != 0 {
		t.Errorf("Spread(%d, from %d to %d in %d, %v) = %+v; want nothing", total, from, to, dim, list[:min(5, len(list))], got)
	}
}

func TestSpreadByHand(t *testing.T) {
	f := handFrame()
	got := impl.Spread(f, 100, 7, 12, 2, []impl.Period{{First: 0, Last: 30}, {First: 31, Last: 58}, {First: 70, Last: 70}})
	want := []impl.Entry{
		entryOf(30, "spread", own(12, 2, 52), own(7, 2, -52)),
		entryOf(58, "spread", own(12, 2, 47), own(7, 2, -47)),
		entryOf(70, "spread", own(12, 2, 1), own(7, 2, -1)),
	}
	if !sameEntries(got, want) {
		t.Errorf("Spread of 100 = %+v", got)
	}
	got = impl.Spread(f, -1, 7, 12, 0, periodsOf(1, 1))
	want = []impl.Entry{entryOf(0, "spread", own(12, 0, -1), own(7, 0, 1)), entryOf(1, "spread", own(12, 0, 0), own(7, 0, 0))}
	if !sameEntries(got, want) {
		t.Errorf("Spread of -1 = %+v", got)
	}
}

func TestSpreadOverPeriods(t *testing.T) {
	f := handFrame()
	for _, total := range []int{0, 1, -1, 7, 100, -100, 9999999, impl.MaxMoney, -impl.MaxMoney, impl.MaxMoney - 1} {
		checkSpread(t, f, total, 7, 12, 1, periodsOf(1))
		checkSpread(t, f, total, 7, 12, 1, periodsOf(1, 1, 1))
		checkSpread(t, f, total, 7, 12, 1, periodsOf(31, 28, 31, 30))
		checkSpread(t, f, total, 7, 12, 1, periodsOf(impl.MaxDay+1))
		for _, kind := range periodKinds {
			checkSpread(t, f, total, 7, 12, 1, impl.Periods(kind, 366, impl.MaxPeriods))
		}
	}
	for _, total := range noAmounts {
		refuseSpread(t, f, total, 7, 12, 1, periodsOf(1))
		refuseSpread(t, f, total, 7, 12, 1, periodsOf(31, 28))
	}
}

// In the order of the list, whatever that is; periods may lie over one another.
func TestSpreadKeepsTheOrder(t *testing.T) {
	f := handFrame()
	checkSpread(t, f, 1000, 2, 3, 0, []impl.Period{{First: 50, Last: 59}, {First: 0, Last: 6}, {First: 20, Last: 22}})
	checkSpread(t, f, 1000, 2, 3, 0, []impl.Period{{First: 0, Last: 9}, {First: 0, Last: 9}, {First: 5, Last: 14}})
}

func TestSpreadManyPeriods(t *testing.T) {
	f := handFrame()
	days := repeated(1, impl.MaxParts+1)
	checkSpread(t, f, 1000003, 7, 12, 1, periodsOf(days[:impl.MaxParts-1]...))
	checkSpread(t, f, 1000003, 7, 12, 1, periodsOf(days[:impl.MaxParts]...))
	refuseSpread(t, f, 1000003, 7, 12, 1, periodsOf(days...))
	refuseSpread(t, f, 1000003, 7, 12, 1, periodsOf(repeated(1, 3*impl.MaxParts)...))
	refuseSpread(t, f, 1000003, 7, 12, 1, nil)
	refuseSpread(t, f, 0, 7, 12, 1, []impl.Period{})
}

func periodUpTo(last, days int) impl.Period { return impl.Period{First: last - days + 1, Last: last} }

// Of a period only its Last must be a day, so one may have more days than there are.
func TestSpreadLongPeriods(t *testing.T) {
	f := handFrame()
	for _, last := range []int{0, 1, impl.MaxDay} {
		for _, days := range []int{1, 2, last + 1, last + 2, impl.MaxFactor - 1, impl.MaxFactor} {
			one := periodUpTo(last, days)
			checkSpread(t, f, impl.MaxMoney, 7, 12, 1, []impl.Period{one})
			checkSpread(t, f, 12345, 7, 12, 1, []impl.Period{one, periodUpTo(9, 10), one})
		}
		for _, days := range []int{impl.MaxFactor + 1, impl.MaxFactor + 2, math.MaxInt} {
			refuseSpreadAmong(t, periodUpTo(last, days))
		}
		refuseSpreadAmong(t, impl.Period{First: math.MinInt, Last: last})
	}
}

// Alone, and first, second and last among others.
func refuseSpreadAmong(t *testing.T, p impl.Period) {
	t.Helper()
	f, a, b := handFrame(), periodUpTo(9, 10), periodUpTo(30, 20)
	for _, list := range [][]impl.Period{{p}, {p, p}, {p, a, b}, {a, p, b}, {a, b, p}} {
		refuseSpread(t, f, 1000, 7, 12, 1, list)
		refuseSpread(t, f, 0, 7, 12, 1, list)
	}
}

func TestSpreadPeriodsWithoutDays(t *testing.T) {
	for _, last := range []int{0, 5, impl.MaxDay} {
		for _, days := range []int{0, -1, -2, -10, -impl.MaxFactor} {
			refuseSpreadAmong(t, periodUpTo(last, days))
		}
		refuseSpreadAmong(t, impl.Period{First: math.MaxInt, Last: last})
	}
}

func TestSpreadLastIsADay(t *testing.T) {
	for _, last := range noDays {
		refuseSpreadAmong(t, impl.Period{First: last, Last: last})
		refuseSpreadAmong(t, periodUpTo(last, 30))
	}
	refuseSpreadAmong(t, impl.Period{First: impl.MaxDay, Last: impl.MaxDay + 1})
	refuseSpreadAmong(t, impl.Period{First: math.MinInt, Last: math.MaxInt})
	refuseSpreadAmong(t, impl.Period{First: math.MaxInt, Last: math.MinInt})
	checkSpread(t, handFrame(), 10, 7, 12, 1, []impl.Period{{First: impl.MaxDay, Last: impl.MaxDay}, {First: -1, Last: 0}})
}

func TestSpreadSharesOf0(t *testing.T) {
	f := handFrame()
	checkSpread(t, f, 0, 7, 12, 1, periodsOf(10, 20, 30))
	checkSpread(t, f, 1, 7, 12, 1, periodsOf(10, 20, 30))
	checkSpread(t, f, 2, 7, 12, 1, periodsOf(1, 365, 1))
	checkSpread(t, f, -2, 7, 12, 1, periodsOf(1, 365, 1))
}

func TestSpreadAccounts(t *testing.T) {
	f := handFrame()
	for from := -2; from <= len(f.Chart)+1; from++ {
		for to := -2; to <= len(f.Chart)+1; to++ {
			if slices.Contains(handLeaves, from) && slices.Contains(handLeaves, to) {
				checkSpread(t, f, 77, from, to, 1, periodsOf(31, 28))
			} else {
				refuseSpread(t, f, 77, from, to, 1, periodsOf(31, 28))
			}
		}
	}
	for _, no := range noSpots {
		refuseSpread(t, f, 77, no, 12, 1, periodsOf(31, 28))
		refuseSpread(t, f, 77, 7, no, 1, periodsOf(31, 28))
		refuseSpread(t, f, 77, 7, 12, no, periodsOf(31, 28))
	}
	for dim := range f.Dims {
		checkSpread(t, f, 77, 7, 12, dim, periodsOf(31, 28))
	}
	refuseSpread(t, f, 77, 7, 12, f.Dims, periodsOf(31, 28))
	refuseSpread(t, f, 0, 7, 12, f.Dims, periodsOf(31, 28))
}

func TestSpreadInWrongFrames(t *testing.T) {
	for _, f := range wrongFrames() {
		refuseSpread(t, f, 77, 7, 12, 0, periodsOf(31, 28))
		refuseSpread(t, f, 77, 0, 0, 0, periodsOf(31))
	}
}

func TestSomeSpreads(t *testing.T) {
	chance := rand.New(rand.NewSource(57))
	for range 400 {
		f := someFrame(chance)
		leaves := leavesOf(f.Chart)
		days := make([]int, 1+chance.Intn(20))
		for i := range days {
			days[i] = 1 + chance.Intn(100)
		}
		from, to := leaves[chance.Intn(len(leaves))], leaves[chance.Intn(len(leaves))]
		checkSpread(t, f, chance.Intn(200001)-100000, from, to, chance.Intn(f.Dims), periodsOf(days...))
	}
}

// All that is spread can be posted, and moves just the total.
func TestSpreadCanBePosted(t *testing.T) {
	f, l := handFrame(), impl.Ledger{Head: 1}
	for _, e := range impl.Spread(f, 1000, 7, 12, 1, impl.Periods(impl.Months, 0, 12)) {
		l = checkPost(t, f, l, e)
	}
	checkLedgerOk(t, f, l, true)
	checkBalance(t, l, asked{12, 1, 0, 0, 365}, 1000, 1000)
	checkBalance(t, l, asked{7, 1, 0, 0, 365}, -1000, -1000)
	checkBalance(t, l, asked{12, -1, -1, 0, 30}, 85, 85)
}

func TestSpreadLeavesItsArguments(t *testing.T) {
	f, list := handFrame(), periodsOf(31, 28, 0)
	kept := slices.Clone(list)
	got := impl.Spread(f, 1000, 7, 12, 1, list[:2])
	if !slices.Equal(list, kept) || !slices.Equal(f.Chart, handChart()) {
		t.Errorf("Spread wrote into what it was given: %v, %v", list, f)
	}
	if len(got) != 2 {
		t.Fatalf("Spread over two of three periods = %v", got)
	}
	checkApart(t, got)
}
