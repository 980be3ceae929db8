package tests

import (
	"math"
	"math/rand"
	"slices"
	"testing"

	"loop.example/g00040/impl"
)

// What Balance is asked for, by its numbers.
type asked struct{ account, dim, cur, from, to int }

func checkBalance(t *testing.T, l impl.Ledger, q asked, wantAmount, wantBase int) {
	t.Helper()
	if a, b := impl.Balance(l, q.account, q.dim, q.cur, q.from, q.to); a != wantAmount || b != wantBase {
		t.Errorf("Balance(%d entries, %+v) = %d, %d; want %d, %d", len(l.Entries), q, a, b, wantAmount, wantBase)
	}
}

func wantBalance(l impl.Ledger, q asked) (amounts, bases int) {
	for _, e := range l.Entries {
		for _, n := range e.Lines {
			got := [3]int{n.Account, n.Dim, n.Cur}
			for i, one := range [3]int{q.account, q.dim, q.cur} {
				if one == -1 {
					got[i] = -1
				}
			}
			if got == [3]int{q.account, q.dim, q.cur} && !(e.Day < q.from) && !(q.to < e.Day) {
				amounts, bases = amounts+n.Amount, bases+n.Base
			}
		}
	}
	return amounts, bases
}

func checkTrial(t *testing.T, f impl.Frame, l impl.Ledger, to int, want ...int) {
	t.Helper()
	if got := impl.Trial(f, l, to); !slices.Equal(got, want) {
		t.Errorf("Trial(%d entries, %d) = %v; want %v", len(l.Entries), to, got, want)
	}
}

func TestBalanceByHand(t *testing.T) {
	l := handLedger()
	for _, row := range []struct {
		q            asked
		amount, base int
	}{
		{asked{-1, -1, -1, 0, impl.MaxDay}, 0, 0},
		{asked{2, -1, -1, 0, impl.MaxDay}, 1025, 1040},
		{asked{2, 0, -1, 0, impl.MaxDay}, 1085, 1100},
		{asked{2, 1, -1, 0, impl.MaxDay}, -60, -60},
		{asked{2, 2, -1, 0, impl.MaxDay}, 0, 0},
		{asked{2, -1, 0, 0, impl.MaxDay}, 995, 995},
		{asked{2, -1, 1, 0, impl.MaxDay}, 30, 45},
		{asked{2, 0, 1, 0, impl.MaxDay}, 30, 45},
		{asked{2, 1, 1, 0, impl.MaxDay}, 0, 0},
		{asked{2, -1, -1, 0, impl.MaxDay - 1}, 1030, 1045},
		{asked{2, -1, -1, 0, 0}, 1000, 1000},
		{asked{2, -1, -1, 1, 4}, 0, 0},
		{asked{2, -1, -1, 1, 5}, 30, 45},
		{asked{2, -1, -1, 5, 5}, 30, 45},
		{asked{2, -1, -1, 6, 30}, 0, 0},
		{asked{2, 1, -1, 6, 31}, -60, -60},
		{asked{2, 1, -1, 31, 31}, -60, -60},
		{asked{2, -1, -1, impl.MaxDay, impl.MaxDay}, -5, -5},
		{asked{6, 2, 3, 5, 5}, -7, -69},
		{asked{12, 2, 2, 5, 5}, 0, -1},
		{asked{12, 2, 3, 5, 5}, 0, 0},
		{asked{-1, 2, -1, 0, impl.MaxDay}, 0, 0},
		{asked{-1, 2, 3, 0, impl.MaxDay}, 0, 1},
		{asked{-1, -1, 2, 0, impl.MaxDay}, 0, -1},
		{asked{7, 1, 0, 0, impl.MaxDay}, -500, -500},
		{asked{0, -1, -1, 0, impl.MaxDay}, 0, 0},
		{asked{2, -1, -1, math.MinInt, math.MaxInt}, 1025, 1040},
		{asked{2, -1, -1, -1, -1}, 0, 0},
		{asked{2, -1, -1, 5, 4}, 0, 0},
		{asked{2, -1, -1, impl.MaxDay, 0}, 0, 0},
		{asked{2, -1, -1, math.MaxInt, math.MinInt}, 0, 0},
		{asked{-2, -1, -1, 0, impl.MaxDay}, 0, 0},
		{asked{2, -2, -1, 0, impl.MaxDay}, 0, 0},
		{asked{2, -1, -2, 0, impl.MaxDay}, 0, 0},
		{asked{13, 3, 4, 0, impl.MaxDay}, 0, 0},
		{asked{math.MinInt, math.MaxInt, math.MinInt, 0, impl.MaxDay}, 0, 0},
	} {
		checkBalance(t, l, row.q, row.amount, row.base)
	}
}

func TestBalanceOfEachQuestion(t *testing.T) {
	l := handLedger()
	days := []int{-1, 0, 1, 4, 5, 6, 31, impl.MaxDay, impl.MaxDay + 1}
	for account := -2; account <= 13; account++ {
		for dim := -2; dim <= 3; dim++ {
			for cur := -2; cur <= 4; cur++ {
				for i, from := range days {
					q := asked{account, dim, cur, from, days[(i*5+3)%len(days)]}
					a, b := wantBalance(l, q)
					checkBalance(t, l, q, a, b)
				}
			}
		}
	}
}

// Balance asks for no frame and no head, so it counts in ledgers that are not right.
func TestBalanceOfWrongLedgers(t *testing.T) {
	checkBalance(t, impl.Ledger{}, asked{-1, -1, -1, 0, 9}, 0, 0)
	l := impl.Ledger{Head: -4, Entries: []impl.Entry{
		{Day: -7, Ref: -1, Text: "\n", Lines: []impl.Line{{Account: -2, Dim: 99, Cur: -1, Amount: 5, Base: 6}}},
		{Day: math.MaxInt, Lines: []impl.Line{{Account: -1, Dim: -1, Cur: 0, Amount: 1, Base: 2}}},
		{Day: 3},
	}}
	checkBalance(t, l, asked{-1, -1, -1, math.MinInt, math.MaxInt}, 6, 8)
	checkBalance(t, l, asked{-1, -1, -1, -7, math.MaxInt - 1}, 5, 6)
	checkBalance(t, l, asked{-2, -1, -1, -7, -7}, 5, 6)
	checkBalance(t, l, asked{-2, 99, -1, -7, -7}, 5, 6)
	checkBalance(t, l, asked{-2, 98, -1, -7, -7}, 0, 0)
	checkBalance(t, l, asked{-1, -1, 0, -7, math.MaxInt}, 1, 2)
}

func TestBalanceLimits(t *testing.T) {
	all := asked{2, -1, -1, 0, impl.MaxDay}
	l := impl.Ledger{Entries: slices.Repeat([]impl.Entry{saleOf(1, 7)}, impl.MaxEntries)}
	checkBalance(t, l, all, 7*impl.MaxEntries, 7*impl.MaxEntries)
	l.Entries = append(l.Entries, impl.Entry{})
	checkBalance(t, l, all, 0, 0)

	long := impl.Entry{Lines: slices.Repeat([]impl.Line{own(2, 0, 7)}, impl.MaxLines)}
	checkBalance(t, ledgerOf(saleOf(1, 1), long), all, 7*impl.MaxLines+1, 7*impl.MaxLines+1)
	long.Lines = append(long.Lines, own(3, 0, 0))
	checkBalance(t, ledgerOf(long, saleOf(1, 1)), all, 0, 0)
	long.Day = impl.MaxDay + 1
	checkBalance(t, ledgerOf(saleOf(1, 1), long), all, 0, 0)
}

// The greatest sums that can be: all lines of all entries at the greatest amount.
func TestGreatestBalance(t *testing.T) {
	for _, sign := range []int{1, -1} {
		e := impl.Entry{Lines: slices.Repeat([]impl.Line{own(2, 0, sign*impl.MaxMoney)}, impl.MaxLines)}
		l := impl.Ledger{Entries: slices.Repeat([]impl.Entry{e}, impl.MaxEntries)}
		want := sign * impl.MaxMoney * impl.MaxLines * impl.MaxEntries
		checkBalance(t, l, asked{-1, -1, -1, 0, 0}, want, want)
	}
}

// A number that is no amount is refused wherever it stands, asked for or not.
func TestBalanceWithNoAmount(t *testing.T) {
	all := asked{2, -1, -1, 0, impl.MaxDay}
	for _, a := range noAmounts {
		for at := range handLedger().Entries {
			for i := range handLedger().Entries[at].Lines {
				l := handLedger()
				l.Entries[at].Lines[i].Amount = a
				checkBalance(t, l, all, 0, 0)
				checkBalance(t, l, asked{11, 1, 0, 30, 32}, 0, 0)
				l = handLedger()
				l.Entries[at].Lines[i].Base = a
				checkBalance(t, l, all, 0, 0)
				checkBalance(t, l, asked{11, 1, 0, 30, 32}, 0, 0)
			}
		}
	}
	for _, a := range []int{-impl.MaxMoney, impl.MaxMoney} {
		checkBalance(t, ledgerOf(entryOf(1, "", foreign(2, 0, 1, a, 1))), all, a, 1)
		checkBalance(t, ledgerOf(entryOf(1, "", foreign(2, 0, 1, 1, a))), all, 1, a)
	}
}

func TestSomeBalances(t *testing.T) {
	chance := rand.New(rand.NewSource(56))
	for range 60 {
		f := someFrame(chance)
		entries := []impl.Entry{}
		for range chance.Intn(15) {
			entries = append(entries, someEntry(chance, f))
		}
		l := ledgerOf(entries...)
		for range 60 {
			q := asked{chance.Intn(len(f.Chart)+2) - 1, chance.Intn(f.Dims+2) - 1, chance.Intn(f.Curs+2) - 1, chance.Intn(210) - 5, chance.Intn(210) - 5}
			a, b := wantBalance(l, q)
			checkBalance(t, l, q, a, b)
		}
		checkTrialPromise(t, f, l, chance.Intn(210)-5)
	}
}

// What each account has is its Balance; all have together 0.
func checkTrialPromise(t *testing.T, f impl.Frame, l impl.Ledger, to int) {
	t.Helper()
	want := make([]int, len(f.Chart))
	for at := range want {
		_, want[at] = wantBalance(l, asked{at, -1, -1, math.MinInt, to})
	}
	checkTrial(t, f, l, to, want...)
	if sumOf(want) != 0 {
		t.Errorf("the accounts are together %d", sumOf(want))
	}
}

func TestTrialByHand(t *testing.T) {
	f, l := handFrame(), handLedger()
	checkTrial(t, f, impl.Ledger{Head: 1}, impl.MaxDay, make([]int, 13)...)
	checkTrial(t, f, l, impl.MaxDay, 0, 0, 1040, 480, 70, 0, -69, -1495, -45, 0, 0, 20, -1)
	checkTrial(t, f, l, math.MaxInt, 0, 0, 1040, 480, 70, 0, -69, -1495, -45, 0, 0, 20, -1)
	checkTrial(t, f, l, impl.MaxDay-1, 0, 0, 1045, 480, 70, 0, -69, -1500, -45, 0, 0, 20, -1)
	checkTrial(t, f, l, 31, 0, 0, 1045, 480, 70, 0, -69, -1500, -45, 0, 0, 20, -1)
	checkTrial(t, f, l, 30, 0, 0, 1045, 500, 70, 0, -69, -1500, -45, 0, 0, 0, -1)
	checkTrial(t, f, l, 4, 0, 0, 1000, 500, 0, 0, 0, -1500, 0, 0, 0, 0, 0)
	checkTrial(t, f, l, 0, 0, 0, 1000, 500, 0, 0, 0, -1500, 0, 0, 0, 0, 0)
	checkTrial(t, f, l, -1, make([]int, 13)...)
	checkTrial(t, f, l, math.MinInt, make([]int, 13)...)
}

func TestTrialOfWrongLedgers(t *testing.T) {
	for _, l := range wrongLedgers() {
		for _, to := range []int{-1, 0, 31, impl.MaxDay, math.MaxInt} {
			checkTrial(t, handFrame(), l, to)
		}
	}
}

func TestTrialOfAFullLedger(t *testing.T) {
	f := handFrame()
	l := fullLedger(impl.MaxEntries)
	checkTrialPromise(t, f, l, impl.MaxDay)
	checkTrialPromise(t, f, l, 500)
}

func TestBalanceAndTrialLeaveTheirArguments(t *testing.T) {
	f := handFrame()
	full, wide := roomyLedger()
	l, _ := shortened(full, wide)
	kept, before := copyLedger(full), copyLedger(l)
	q := asked{7, -1, -1, 0, impl.MaxDay}
	checkBalance(t, l, q, -1500, -1500)
	_ = append(impl.Trial(f, l, impl.MaxDay), 1)
	if !sameEntries(full.Entries, kept.Entries) || !sameLedger(l, before) || !slices.Equal(f.Chart, handChart()) {
		t.Errorf("Balance or Trial wrote into what it was given: %+v", full)
	}
	one, other := impl.Trial(f, l, impl.MaxDay), impl.Trial(f, l, impl.MaxDay)
	one[0]++
	if other[0] != 0 {
		t.Error("two answers of Trial share memory")
	}
}
