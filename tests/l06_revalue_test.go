package tests

import (
	"math"
	"math/rand"
	"slices"
	"testing"

	"loop.example/g00040/impl"
)

func isHeld(f impl.Frame, account int) bool {
	return f.Chart[account].Kind == impl.Asset || f.Chart[account].Kind == impl.Liability
}

// What one account has in one part and currency is brought to its rate; false when there is none.
func wantRevalueLines(b impl.Books, list []impl.Rate, day, gain int, q asked) ([]impl.Line, bool) {
	amount, base := wantBalance(b.Ledger, q)
	if amount == 0 && base == 0 {
		return nil, true
	}
	want, ok := wantConvert(list, b.Frame.Curs, amount, q.cur, 0, day)
	if want == base || !ok {
		return nil, ok
	}
	return []impl.Line{foreign(q.account, q.dim, q.cur, 0, want-base), foreign(gain, q.dim, q.cur, 0, base-want)}, true
}

func wantRevalue(b impl.Books, list []impl.Rate, day, gain int) (impl.Entry, bool) {
	e := entryOf(day, "revalue")
	for _, account := range leavesOf(b.Frame.Chart) {
		for dim := range b.Frame.Dims {
			for cur := 1; cur < b.Frame.Curs && isHeld(b.Frame, account); cur++ {
				lines, ok := wantRevalueLines(b, list, day, gain, asked{account, dim, cur, math.MinInt, day})
				if !ok {
					return impl.Entry{}, false
				}
				e.Lines = append(e.Lines, lines...)
			}
		}
	}
	if !wantBooksOk(b) || !wantEntryOk(b.Frame, e) || isHeld(b.Frame, gain) {
		return impl.Entry{}, false
	}
	return e, true
}

func refuseRevalue(t *testing.T, b impl.Books, list []impl.Rate, day, gain int) {
	t.Helper()
	if got, ok := impl.Revalue(b, list, day, gain); ok || !isZeroEntry(got) {
		t.Errorf("Revalue(%d entries, %v, %d, %d) = %+v, %v; want none", len(b.Ledger.Entries), list, day, gain, got, ok)
	}
}

// P17: the entry, posted, leaves nothing to revalue; all that is foreign stands at its rate.
func checkRevalue(t *testing.T, b impl.Books, list []impl.Rate, day, gain int, want ...impl.Line) {
	t.Helper()
	got, ok := impl.Revalue(b, list, day, gain)
	if !ok || !sameEntry(got, entryOf(day, "revalue", want...)) {
		t.Errorf("Revalue(%d entries, %v, %d, %d) = %+v, %v; want %+v", len(b.Ledger.Entries), list, day, gain, got, ok, want)
		return
	}
	if len(b.Ledger.Entries) == impl.MaxEntries {
		return
	}
	b.Ledger = checkPost(t, b.Frame, b.Ledger, got)
	refuseRevalue(t, b, list, day, gain)
	checkAtRates(t, b, list, day)
}

func checkAtRates(t *testing.T, b impl.Books, list []impl.Rate, day int) {
	t.Helper()
	for account := range b.Frame.Chart {
		for dim := range b.Frame.Dims {
			for cur := 1; cur < b.Frame.Curs && isHeld(b.Frame, account); cur++ {
				amount, base := wantBalance(b.Ledger, asked{account, dim, cur, 0, day})
				if want, _ := wantConvert(list, b.Frame.Curs, amount, cur, 0, day); base != want {
					t.Errorf("account %d in part %d has %d of currency %d at %d; want %d", account, dim, amount, cur, base, want)
				}
			}
		}
	}
}

func revalueAsWanted(t *testing.T, b impl.Books, list []impl.Rate, day, gain int) bool {
	t.Helper()
	want, ok := wantRevalue(b, list, day, gain)
	if ok {
		checkRevalue(t, b, list, day, gain, want.Lines...)
	} else {
		refuseRevalue(t, b, list, day, gain)
	}
	return ok
}

// So much of a foreign currency came into an account, earned as sales of its part.
func foreignSale(day, account, dim, cur, a, base int) impl.Entry {
	return entryOf(day, "foreign", foreign(account, dim, cur, a, base), foreign(8, dim, cur, -a, -base))
}

func TestRevalueByHand(t *testing.T) {
	b := booksOf(foreignSale(1, 2, 0, 1, 100, 150))
	refuseRevalue(t, b, handRates(), 1, 8)
	refuseRevalue(t, b, handRates(), 9, 8)
	checkRevalue(t, b, handRates(), 10, 8, foreign(2, 0, 1, 0, 50), foreign(8, 0, 1, 0, -50))
	checkRevalue(t, b, handRates(), 20, 12, foreign(2, 0, 1, 0, 17), foreign(12, 0, 1, 0, -17))
	checkRevalue(t, b, handRates(), impl.MaxDay, 7, foreign(2, 0, 1, 0, 17), foreign(7, 0, 1, 0, -17))
	refuseRevalue(t, b, handRates(), 0, 8)
}

func TestRevalueOwedAndBelow0(t *testing.T) {
	b := booksOf(foreignSale(1, 6, 1, 1, -100, -150))
	checkRevalue(t, b, handRates(), 10, 12, foreign(6, 1, 1, 0, -50), foreign(12, 1, 1, 0, 50))
	b = booksOf(foreignSale(1, 6, 1, 1, 100, 300))
	checkRevalue(t, b, handRates(), 10, 12, foreign(6, 1, 1, 0, -100), foreign(12, 1, 1, 0, 100))
	b = booksOf(foreignSale(1, 3, 2, 1, -1, -1))
	checkRevalue(t, b, handRates(), 1, 12, foreign(3, 2, 1, 0, -1), foreign(12, 2, 1, 0, 1))
	b = booksOf(foreignSale(1, 3, 2, 1, -100, -150), foreignSale(2, 2, 2, 1, 100, -7))
	checkRevalue(t, b, handRates(), 10, 8, foreign(2, 2, 1, 0, 207), foreign(8, 2, 1, 0, -207), foreign(3, 2, 1, 0, -50), foreign(8, 2, 1, 0, 50))
}

// By account, then by part, then by currency, in whatever order they were earned.
func TestOrderOfARevaluation(t *testing.T) {
	b := booksOf(
		foreignSale(9, 6, 0, 1, -10, 0),
		foreignSale(8, 4, 2, 2, 8, 0),
		foreignSale(7, 4, 2, 1, 10, 0),
		foreignSale(6, 4, 0, 3, 9, 0),
		foreignSale(5, 2, 1, 1, 10, 0),
		foreignSale(4, 2, 0, 2, 4, 0),
		saleOf(3, 1000),
	)
	want := []impl.Line{}
	for _, n := range []impl.Line{
		foreign(2, 0, 2, 0, 1), foreign(2, 1, 1, 0, 17),
		foreign(4, 0, 3, 0, 7), foreign(4, 2, 1, 0, 17), foreign(4, 2, 2, 0, 2),
		foreign(6, 0, 1, 0, -17),
	} {
		want = append(want, n, foreign(11, n.Dim, n.Cur, 0, -n.Base))
	}
	checkRevalue(t, b, handRates(), 20, 11, want...)
}

// Each part and each currency by itself: what two of them have is not summed.
func TestPartsAndCurrenciesStandApart(t *testing.T) {
	b := booksOf(foreignSale(1, 2, 0, 1, 1, 2), foreignSale(1, 2, 1, 1, 1, 1), foreignSale(1, 2, 1, 2, 2, 2))
	checkRevalue(t, b, handRates(), 1, 8, foreign(2, 1, 1, 0, 1), foreign(8, 1, 1, 0, -1), foreign(2, 1, 2, 0, -1), foreign(8, 1, 2, 0, 1))
}

// No amount is left, but a worth; nothing is worth nothing.
func TestRevalueABaseAlone(t *testing.T) {
	b := booksOf(foreignSale(1, 4, 0, 1, 0, 7))
	checkRevalue(t, b, handRates(), 1, 8, foreign(4, 0, 1, 0, -7), foreign(8, 0, 1, 0, 7))
	b = booksOf(foreignSale(1, 4, 0, 1, 30, 45), foreignSale(2, 4, 0, 1, -30, -60))
	checkRevalue(t, b, handRates(), 3, 8, foreign(4, 0, 1, 0, 15), foreign(8, 0, 1, 0, -15))
	b = booksOf(foreignSale(1, 4, 0, 3, 0, 7))
	refuseRevalue(t, b, handRates(), 19, 8)
	checkRevalue(t, b, handRates(), 20, 8, foreign(4, 0, 3, 0, -7), foreign(8, 0, 3, 0, 7))
	b = booksOf(foreignSale(1, 4, 0, 1, 30, 0))
	checkRevalue(t, b, handRates(), 3, 8, foreign(4, 0, 1, 0, 45), foreign(8, 0, 1, 0, -45))
}

func TestRevalueWhatStandsAtItsRate(t *testing.T) {
	b := booksOf(foreignSale(1, 2, 0, 1, 3, 5), foreignSale(1, 3, 0, 1, 3, 4), foreignSale(1, 4, 1, 2, 4, 1))
	checkRevalue(t, b, handRates(), 1, 8, foreign(3, 0, 1, 0, 1), foreign(8, 0, 1, 0, -1))
	b = booksOf(foreignSale(1, 2, 0, 1, 3, 5), foreignSale(1, 4, 1, 2, 4, 1))
	refuseRevalue(t, b, handRates(), 1, 8)
}

func TestRevalueUpToTheDay(t *testing.T) {
	b := booksOf(foreignSale(12, 2, 0, 1, 100, 0), foreignSale(11, 2, 0, 1, 10, 0), foreignSale(13, 2, 0, 1, 1000, 0))
	refuseRevalue(t, b, handRates(), 10, 8)
	checkRevalue(t, b, handRates(), 11, 8, foreign(2, 0, 1, 0, 20), foreign(8, 0, 1, 0, -20))
	checkRevalue(t, b, handRates(), 12, 8, foreign(2, 0, 1, 0, 220), foreign(8, 0, 1, 0, -220))
	checkRevalue(t, b, handRates(), 13, 8, foreign(2, 0, 1, 0, 2220), foreign(8, 0, 1, 0, -2220))
	b = booksOf(foreignSale(0, 2, 0, 1, 1, 0), foreignSale(impl.MaxDay, 2, 0, 1, 2, 0))
	checkRevalue(t, b, handRates(), 0, 8, foreign(2, 0, 1, 0, 2), foreign(8, 0, 1, 0, -2))
	checkRevalue(t, b, handRates(), impl.MaxDay, 8, foreign(2, 0, 1, 0, 5), foreign(8, 0, 1, 0, -5))
}

func TestRevalueOnNoDay(t *testing.T) {
	b := booksOf(foreignSale(1, 2, 0, 1, 100, 0))
	for _, day := range noDays {
		refuseRevalue(t, b, handRates(), day, 8)
	}
}

// The day need not stand in a period that is open, nor in any: that is Record's to ask.
func TestRevalueAsksForNoPeriod(t *testing.T) {
	b := booksOf(foreignSale(1, 2, 0, 1, 100, 0))
	b.Closed = 3
	for _, day := range []int{10, 30, 31, 60, 61, impl.MaxDay} {
		want, ok := wantRevalue(b, handRates(), day, 8)
		if !ok {
			t.Fatalf("nothing to revalue on day %d", day)
		}
		checkRevalue(t, b, handRates(), day, 8, want.Lines...)
	}
}

func TestWhereAGainStands(t *testing.T) {
	b := booksOf(foreignSale(1, 2, 0, 1, 100, 0))
	for gain := -3; gain <= 15; gain++ {
		if slices.Contains([]int{7, 8, 11, 12}, gain) {
			checkRevalue(t, b, handRates(), 10, gain, foreign(2, 0, 1, 0, 200), foreign(gain, 0, 1, 0, -200))
		} else {
			refuseRevalue(t, b, handRates(), 10, gain)
		}
	}
	for _, gain := range noSpots {
		refuseRevalue(t, b, handRates(), 10, gain)
	}
}

// What is asked for has no rate: one such balance refuses all. Where none is asked for none need be.
func TestRevalueWithoutARate(t *testing.T) {
	sale, late := foreignSale(1, 2, 0, 1, 100, 0), foreignSale(1, 6, 2, 3, 5, 5)
	refuseRevalue(t, booksOf(sale, late), handRates(), 19, 8)
	refuseRevalue(t, booksOf(late, sale), handRates(), 19, 8)
	refuseRevalue(t, booksOf(late), handRates(), 19, 8)
	refuseRevalue(t, booksOf(sale), nil, 19, 8)
	back := foreignSale(2, 6, 2, 3, -5, -5)
	lines := []impl.Line{foreign(2, 0, 1, 0, 200), foreign(8, 0, 1, 0, -200)}
	checkRevalue(t, booksOf(sale, late, back), handRates(), 19, 8, lines...)
	refuseRevalue(t, booksOf(sale, late, back), handRates(), 1, 2)
	refuseRevalue(t, booksOf(sale, late, foreignSale(2, 6, 2, 3, -5, -4)), handRates(), 19, 8)
	refuseRevalue(t, booksOf(sale, late, foreignSale(2, 6, 2, 3, -4, -5)), handRates(), 19, 8)
	elsewhere := entryOf(3, "", foreign(7, 0, 3, 5, 5), foreign(8, 0, 3, -5, -5), foreign(11, 1, 3, 0, 4), foreign(12, 1, 3, 0, -4))
	checkRevalue(t, booksOf(sale, elsewhere), handRates(), 19, 8, lines...)
	checkRevalue(t, booksOf(sale, foreignSale(20, 6, 2, 3, 5, 5)), handRates(), 19, 8, lines...)
}

// Of equity, incomes and expenses, and of the house's own, nothing is revalued.
func TestWhatIsNotRevalued(t *testing.T) {
	refuseRevalue(t, booksOf(saleOf(1, 100)), handRates(), 20, 8)
	refuseRevalue(t, booksOf(entryOf(1, "", foreign(7, 0, 1, 5, 0), foreign(8, 0, 1, -3, 0), foreign(11, 0, 1, -2, 9), foreign(12, 0, 2, 0, -9))), handRates(), 20, 8)
	refuseRevalue(t, booksOf(), handRates(), 20, 8)
	one := booksOf(saleOf(1, 5))
	one.Frame.Curs = 1
	refuseRevalue(t, one, nil, 20, 8)
	rich := booksOf(saleOf(1, impl.MaxMoney), saleOf(1, impl.MaxMoney), foreignSale(1, 2, 0, 1, 2, 0))
	checkRevalue(t, rich, handRates(), 1, 8, foreign(2, 0, 1, 0, 3), foreign(8, 0, 1, 0, -3))
}

func TestRevalueByWrongRates(t *testing.T) {
	b := booksOf(foreignSale(1, 2, 0, 1, 100, 0))
	for _, list := range wrongRates() {
		if !wantRatesOk(list, 4) {
			refuseRevalue(t, b, list, 10, 8)
		}
	}
	refuseRevalue(t, b, append(handRates(), impl.Rate{Day: impl.MaxDay, From: 4, Num: 1, Den: 1}), 10, 8)
	b.Frame.Curs = 5
	list := append(handRates(), impl.Rate{Day: impl.MaxDay, From: 4, Num: 1, Den: 1})
	checkRevalue(t, b, list, 10, 8, foreign(2, 0, 1, 0, 200), foreign(8, 0, 1, 0, -200))
}

func TestRevalueOfWrongBooks(t *testing.T) {
	for _, b := range wrongBooks() {
		refuseRevalue(t, b, handRates(), 10, 8)
		refuseRevalue(t, b, handRates(), impl.MaxDay, 12)
	}
}

// Books with that many balances that stand off their rate, over two accounts and all parts.
func booksOff(count int) impl.Books {
	b := booksOf()
	b.Frame.Dims = impl.MaxDims
	for i := range count {
		e := foreignSale(1, 2+i/impl.MaxDims, i%impl.MaxDims, 1, 2, 1)
		b.Ledger.Entries = append(b.Ledger.Entries, e)
	}
	b.Ledger.Head = impl.HeadOf(b.Ledger.Entries)
	return b
}

func TestHowManyDifferencesThereMayBe(t *testing.T) {
	for _, count := range []int{1, 20, 21, 29, 30} {
		want := []impl.Line{}
		for i := range count {
			want = append(want, foreign(2+i/20, i%20, 1, 0, 2), foreign(8, i%20, 1, 0, -2))
		}
		checkRevalue(t, booksOff(count), handRates(), 1, 8, want...)
	}
	for _, count := range []int{0, 31, 40, 60} {
		refuseRevalue(t, booksOff(count), handRates(), 1, 8)
	}
}

// What differs is an amount, what is converted is one, and what that comes to is one.
func TestGreatestRevaluations(t *testing.T) {
	greatest := impl.MaxMoney
	b := booksOf(foreignSale(6, 2, 0, 1, greatest, 0))
	checkRevalue(t, b, oneRate(1, 1), 6, 8, foreign(2, 0, 1, 0, greatest), foreign(8, 0, 1, 0, -greatest))
	refuseRevalue(t, b, oneRate(impl.MaxFactor, impl.MaxFactor-1), 6, 8)
	b = booksOf(foreignSale(6, 2, 0, 1, greatest, -1))
	refuseRevalue(t, b, oneRate(1, 1), 6, 8)
	b = booksOf(foreignSale(6, 2, 0, 1, greatest, 0), foreignSale(6, 2, 0, 1, 1, 0))
	refuseRevalue(t, b, oneRate(1, 2), 6, 8)
	b = booksOf(foreignSale(6, 2, 0, 1, 0, greatest), foreignSale(6, 2, 0, 1, 0, 1))
	refuseRevalue(t, b, oneRate(1, 1), 6, 8)
	b = booksOf(foreignSale(6, 2, 0, 1, 1, greatest), foreignSale(6, 2, 0, 1, 0, 1))
	checkRevalue(t, b, oneRate(1, 1), 6, 8, foreign(2, 0, 1, 0, -greatest), foreign(8, 0, 1, 0, greatest))
	b = booksOf(foreignSale(6, 2, 0, 1, -greatest, 0))
	checkRevalue(t, b, oneRate(1, impl.MaxFactor), 6, 8, foreign(2, 0, 1, 0, -10000), foreign(8, 0, 1, 0, 10000))
}

func TestRevalueFullBooks(t *testing.T) {
	b := handBooks()
	b.Ledger = fullLedger(impl.MaxEntries)
	b.Ledger.Entries[0] = foreignSale(1, 2, 0, 1, 100, 0)
	b.Ledger.Head = impl.HeadOf(b.Ledger.Entries)
	checkRevalue(t, b, handRates(), 1, 8, foreign(2, 0, 1, 0, 150), foreign(8, 0, 1, 0, -150))
	refuseRevalue(t, b, handRates(), 0, 8)
}

func TestSomeRevaluations(t *testing.T) {
	chance := rand.New(rand.NewSource(62))
	taken, left := 0, 0
	for range 300 {
		b := someBooks(chance)
		for range 1 + chance.Intn(3) {
			b.Ledger = checkPost(t, b.Frame, b.Ledger, someEntry(chance, b.Frame))
		}
		list := []impl.Rate{}
		for cur := 1; cur < b.Frame.Curs; cur++ {
			list = append(list, impl.Rate{Day: 90, From: cur, Num: 1 + chance.Intn(20), Den: 1 + chance.Intn(20)})
		}
		for range 4 {
			if revalueAsWanted(t, b, list, chance.Intn(220), chance.Intn(len(b.Frame.Chart))) {
				taken++
			} else {
				left++
			}
		}
	}
	if taken < 100 || left < 100 {
		t.Errorf("%d revaluations, %d refused", taken, left)
	}
}

// Day by day, one revaluation behind the other: each leaves all at the day's rates.
func TestRevaluationsBehindOneAnother(t *testing.T) {
	b := booksOf(foreignSale(1, 2, 0, 1, 100, 0), foreignSale(1, 6, 1, 1, -77, -5), foreignSale(3, 4, 2, 2, 50, 50))
	for _, day := range []int{5, 10, 20, 30} {
		if e, ok := wantRevalue(b, handRates(), day, 12); ok {
			checkRevalue(t, b, handRates(), day, 12, e.Lines...)
			b = checkRecord(t, b, e)
		}
		refuseRevalue(t, b, handRates(), day, 12)
	}
	if len(b.Ledger.Entries) != 6 {
		t.Errorf("%d entries behind three rates; want 6", len(b.Ledger.Entries))
	}
}

func TestRevalueLeavesItsArguments(t *testing.T) {
	whole, told, _, _ := roomyBooks()
	kept, keptTold := copyBooks(whole), copyBooks(told)
	list := append(handRates(), impl.Rate{Day: -4})
	rates := slices.Clone(list)
	one, ok := impl.Revalue(told, list[:6], 25, 12)
	other, _ := impl.Revalue(told, list[:6], 25, 12)
	scribble([]impl.Entry{one})
	if !ok || sameEntry(one, other) || len(other.Lines) == 0 {
		t.Errorf("two answers of Revalue: %+v, %+v", one, other)
	}
	if !sameBooks(whole, kept) || !sameBooks(told, keptTold) || !slices.Equal(list, rates) {
		t.Error("Revalue wrote into what it was given")
	}
}
