package tests

import (
	"math"
	"math/rand"
	"testing"

	"loop.example/g00040/impl"
)

func isEarned(f impl.Frame, account int) bool {
	return f.Chart[account].Kind == impl.Income || f.Chart[account].Kind == impl.Expense
}

func wantCloseLines(b impl.Books, dim, day int) []impl.Line {
	lines, kept := []impl.Line{}, 0
	for account := range b.Frame.Chart {
		if _, base := wantBalance(b.Ledger, asked{account, dim, -1, math.MinInt, day}); base != 0 && isEarned(b.Frame, account) {
			lines = append(lines, own(account, dim, -base))
			kept += base
		}
	}
	if len(lines) > 0 {
		lines = append(lines, own(b.Kept, dim, kept))
	}
	return lines
}

func wantCloseYear(b impl.Books, day int) (impl.Entry, bool) {
	e := entryOf(day, "close")
	for dim := range b.Frame.Dims {
		e.Lines = append(e.Lines, wantCloseLines(b, dim, day)...)
	}
	if !wantBooksOk(b) || !wantEntryOk(b.Frame, e) {
		return impl.Entry{}, false
	}
	return e, true
}

func refuseClose(t *testing.T, b impl.Books, day int) {
	t.Helper()
	if got, ok := impl.CloseYear(b, day); ok || !isZeroEntry(got) {
		t.Errorf("CloseYear(%d entries, %d) = %+v, %v; want none", len(b.Ledger.Entries), day, got, ok)
	}
}

// P18: behind the entry, posted, every income and expense is 0 up to that day, in each part.
func checkClose(t *testing.T, b impl.Books, day int, want ...impl.Line) {
	t.Helper()
	got, ok := impl.CloseYear(b, day)
	if !ok || !sameEntry(got, entryOf(day, "close", want...)) {
		t.Errorf("CloseYear(%d entries, %d) = %+v, %v; want %+v", len(b.Ledger.Entries), day, got, ok, want)
		return
	}
	if len(b.Ledger.Entries) == impl.MaxEntries {
		return
	}
	after := b
	after.Ledger = checkPost(t, b.Frame, b.Ledger, got)
	checkClosed(t, b, after, day)
	refuseClose(t, after, day)
}

func checkClosed(t *testing.T, before, after impl.Books, day int) {
	t.Helper()
	for dim := range after.Frame.Dims {
		earned := 0
		for account := range after.Frame.Chart {
			_, had := wantBalance(before.Ledger, asked{account, dim, -1, 0, day})
			_, has := wantBalance(after.Ledger, asked{account, dim, -1, 0, day})
			switch {
			case isEarned(after.Frame, account):
				earned += had
				if has != 0 {
					t.Errorf("account %d in part %d has %d behind the close", account, dim, has)
				}
			case account != after.Kept && has != had:
				t.Errorf("account %d in part %d had %d, has %d behind the close", account, dim, had, has)
			}
		}
		_, had := wantBalance(before.Ledger, asked{before.Kept, dim, -1, 0, day})
		if _, has := wantBalance(after.Ledger, asked{after.Kept, dim, -1, 0, day}); has != had+earned {
			t.Errorf("kept in part %d: %d and %d earned are %d", dim, had, earned, has)
		}
	}
}

func closeAsWanted(t *testing.T, b impl.Books, day int) bool {
	t.Helper()
	want, ok := wantCloseYear(b, day)
	if ok {
		checkClose(t, b, day, want.Lines...)
	} else {
		refuseClose(t, b, day)
	}
	return ok
}

func TestCloseByHand(t *testing.T) {
	b := handBooks()
	checkClose(t, b, 30, own(8, 0, 45), own(7, 0, -45), own(12, 2, 1), own(7, 2, -1))
	checkClose(t, b, impl.MaxDay,
		own(8, 0, 105), own(7, 0, -105),
		own(8, 1, -60), own(11, 1, -20), own(7, 1, 80),
		own(12, 2, 1), own(7, 2, -1))
	refuseClose(t, b, 4)
	checkClose(t, booksOf(saleOf(3, 70)), 3, own(8, 0, 70), own(7, 0, -70))
	checkClose(t, booksOf(saleOf(3, -70)), 3, own(8, 0, -70), own(7, 0, 70))
}

func TestCloseIncomesAndExpensesTogether(t *testing.T) {
	b := booksOf(saleOf(1, 100), entryOf(2, "", own(12, 0, 30), own(2, 0, -30)), entryOf(3, "", own(11, 0, 20), own(2, 0, -20)))
	checkClose(t, b, 3, own(8, 0, 100), own(11, 0, -20), own(12, 0, -30), own(7, 0, -50))
	checkClose(t, b, 2, own(8, 0, 100), own(12, 0, -30), own(7, 0, -70))
	b = booksOf(entryOf(2, "a loss", own(12, 0, 30), own(2, 0, -30)))
	checkClose(t, b, 3, own(12, 0, -30), own(7, 0, 30))
}

// Incomes and expenses of as much: nothing is kept, and its line says so.
func TestCloseKeepingNothing(t *testing.T) {
	b := booksOf(saleOf(1, 30), entryOf(2, "", own(12, 0, 30), own(2, 0, -30)), entryOf(2, "", own(11, 2, 9), own(12, 2, -9)))
	checkClose(t, b, 3, own(8, 0, 30), own(12, 0, -30), own(7, 0, 0), own(11, 2, -9), own(12, 2, 9), own(7, 2, 0))
}

// An account that came back to 0 has no line, nor has a part in which there is nothing.
func TestCloseWhatIsNot0(t *testing.T) {
	b := booksOf(saleOf(1, 30), saleOf(2, -30), entryOf(2, "", own(12, 1, 30), own(2, 1, -30)))
	checkClose(t, b, 3, own(12, 1, -30), own(7, 1, 30))
	refuseClose(t, booksOf(saleOf(1, 30), saleOf(2, -30)), 3)
	checkClose(t, booksOf(saleOf(1, 30), saleOf(2, -30)), 1, own(8, 0, 30), own(7, 0, -30))
	refuseClose(t, booksOf(), 3)
	refuseClose(t, booksOf(saleOf(1, 0)), 3)
	refuseClose(t, booksOf(entryOf(1, "", own(2, 0, 5), own(7, 0, -5)), entryOf(1, "", own(4, 1, 5), own(6, 1, -5))), 3)
	across := entryOf(1, "", own(8, 0, 5), own(2, 0, -5), own(8, 1, -5), own(2, 1, 5))
	checkClose(t, booksOf(across), 1, own(8, 0, -5), own(7, 0, 5), own(8, 1, 5), own(7, 1, -5))
}

func TestCloseUpToTheDay(t *testing.T) {
	b := booksOf(saleOf(12, 100), saleOf(11, 10), saleOf(13, 1000), saleOf(0, 1), saleOf(impl.MaxDay, 10000))
	checkClose(t, b, 0, own(8, 0, 1), own(7, 0, -1))
	checkClose(t, b, 10, own(8, 0, 1), own(7, 0, -1))
	checkClose(t, b, 11, own(8, 0, 11), own(7, 0, -11))
	checkClose(t, b, 12, own(8, 0, 111), own(7, 0, -111))
	checkClose(t, b, impl.MaxDay-1, own(8, 0, 1111), own(7, 0, -1111))
	checkClose(t, b, impl.MaxDay, own(8, 0, 11111), own(7, 0, -11111))
	for _, day := range noDays {
		refuseClose(t, b, day)
	}
	b.Closed = 3
	checkClose(t, b, 12, own(8, 0, 111), own(7, 0, -111))
}

// The close is in the house's own, whatever the currencies were; amounts without a Base are nothing to close.
func TestCloseForeignBases(t *testing.T) {
	b := booksOf(foreignSale(1, 2, 0, 1, 10, 15), foreignSale(1, 2, 0, 2, 40, 9), foreignSale(1, 2, 1, 3, 6, 0), saleOf(2, 100))
	checkClose(t, b, 2, own(8, 0, 124), own(7, 0, -124))
	b = booksOf(foreignSale(1, 2, 0, 1, 10, 15), saleOf(2, -15))
	refuseClose(t, b, 2)
	b = booksOf(foreignSale(1, 2, 0, 1, 0, 15))
	checkClose(t, b, 2, own(8, 0, 15), own(7, 0, -15))
}

func TestCloseOfWrongBooks(t *testing.T) {
	for _, b := range wrongBooks() {
		refuseClose(t, b, 31)
		refuseClose(t, b, impl.MaxDay)
		refuseClose(t, b, -1)
	}
}

// Books of all the parts there may be, in each of which an income and an expense, or less, is to be closed.
func earnedBooks(incomes, expenses, others int) impl.Books {
	b := booksOf()
	b.Frame.Dims = impl.MaxDims
	for i, count := range []int{incomes, expenses, others} {
		for dim := range count {
			account := []int{8, 11, 12}[i]
			b.Ledger.Entries = append(b.Ledger.Entries, entryOf(1, "", own(account, dim, 5), own(2, dim, -5)))
		}
	}
	b.Ledger.Head = impl.HeadOf(b.Ledger.Entries)
	return b
}

func TestHowManyLinesCloseAYear(t *testing.T) {
	for _, counts := range [][3]int{{20, 0, 0}, {20, 19, 0}, {20, 20, 0}, {15, 15, 15}} {
		b := earnedBooks(counts[0], counts[1], counts[2])
		if !closeAsWanted(t, b, 1) {
			t.Errorf("a year of %v should be closed", counts)
		}
	}
	for _, counts := range [][3]int{{20, 20, 1}, {16, 16, 16}, {20, 20, 20}} {
		b := earnedBooks(counts[0], counts[1], counts[2])
		refuseClose(t, b, 1)
		refuseClose(t, b, 0)
	}
}

func TestGreatestClose(t *testing.T) {
	greatest := impl.MaxMoney
	checkClose(t, booksOf(saleOf(1, greatest)), 1, own(8, 0, greatest), own(7, 0, -greatest))
	refuseClose(t, booksOf(saleOf(1, greatest), saleOf(1, 1)), 1)
	cost := entryOf(1, "", own(12, 0, -greatest), own(2, 0, greatest))
	refuseClose(t, booksOf(saleOf(1, greatest), cost), 1)
	cost = entryOf(1, "", own(12, 0, greatest), own(2, 0, -greatest))
	checkClose(t, booksOf(saleOf(1, greatest), cost), 1, own(8, 0, greatest), own(12, 0, -greatest), own(7, 0, 0))
	full := handBooks()
	full.Ledger = fullLedger(impl.MaxEntries)
	closeAsWanted(t, full, impl.MaxDay)
}

func TestSomeCloses(t *testing.T) {
	chance := rand.New(rand.NewSource(63))
	taken, left := 0, 0
	for range 300 {
		b := someBooks(chance)
		for range 1 + chance.Intn(4) {
			b.Ledger = checkPost(t, b.Frame, b.Ledger, someEntry(chance, b.Frame))
		}
		for range 3 {
			if closeAsWanted(t, b, chance.Intn(220)) {
				taken++
			} else {
				left++
			}
		}
	}
	if taken < 100 || left < 100 {
		t.Errorf("%d years closed, %d refused", taken, left)
	}
}

func TestCloseLeavesItsArguments(t *testing.T) {
	whole, told, _, _ := roomyBooks()
	kept, keptTold := copyBooks(whole), copyBooks(told)
	one, ok := impl.CloseYear(told, 50)
	other, _ := impl.CloseYear(told, 50)
	scribble([]impl.Entry{one})
	if !ok || sameEntry(one, other) || len(other.Lines) == 0 {
		t.Errorf("two answers of CloseYear: %+v, %+v", one, other)
	}
	if !sameBooks(whole, kept) || !sameBooks(told, keptTold) {
		t.Error("CloseYear wrote into what it was given")
	}
}
