package tests

import (
	"math"
	"slices"
	"testing"

	"loop.example/g00040/impl"
)

// Books of three periods, the second of one day; two entries lie ahead of and behind all of them.
func handBooks() impl.Books {
	periods := []impl.Period{{First: 5, Last: 30}, {First: 31, Last: 31}, {First: 32, Last: 60}}
	return impl.Books{Frame: handFrame(), Ledger: handLedger(), Periods: periods, Kept: 7}
}

func booksOf(entries ...impl.Entry) impl.Books {
	b := handBooks()
	b.Ledger = ledgerOf(entries...)
	return b
}

func copyBooks(b impl.Books) impl.Books {
	b.Frame.Chart = slices.Clone(b.Frame.Chart)
	b.Ledger = copyLedger(b.Ledger)
	b.Periods = slices.Clone(b.Periods)
	return b
}

func sameFrame(f, g impl.Frame) bool {
	return slices.Equal(f.Chart, g.Chart) && f.Dims == g.Dims && f.Curs == g.Curs
}

func sameBooks(a, b impl.Books) bool {
	return sameFrame(a.Frame, b.Frame) && sameLedger(a.Ledger, b.Ledger) &&
		slices.Equal(a.Periods, b.Periods) && a.Closed == b.Closed && a.Kept == b.Kept
}

func isZeroBooks(b impl.Books) bool { return sameBooks(b, impl.Books{}) }

func wantLedgerOk(f impl.Frame, l impl.Ledger) bool {
	for _, e := range l.Entries {
		if !wantEntryOk(f, e) {
			return false
		}
	}
	return wantFrameOk(f) && len(l.Entries) <= impl.MaxEntries && l.Head == wantHead(l.Entries)
}

// Every day from the first to the last has just one period.
func wantPeriodsOk(list []impl.Period) bool {
	if len(list) == 0 || len(list) > impl.MaxPeriods {
		return false
	}
	next := list[0].First
	for _, p := range list {
		if !isDay(p.First) || !isDay(p.Last) || p.First != next || p.Last < p.First {
			return false
		}
		next = p.Last + 1
	}
	return true
}

func wantBooksOk(b impl.Books) bool {
	return wantLedgerOk(b.Frame, b.Ledger) && wantPeriodsOk(b.Periods) &&
		b.Closed >= 0 && b.Closed <= len(b.Periods) &&
		slices.Contains(leavesOf(b.Frame.Chart), b.Kept) && b.Frame.Chart[b.Kept].Kind == impl.Equity
}

func checkBooksOk(t *testing.T, b impl.Books, want bool) {
	t.Helper()
	if got := impl.BooksOk(b); got != want {
		t.Errorf("BooksOk(%d accounts, %d entries, %v, %d closed, kept in %d) = %v; want %v", len(b.Frame.Chart), len(b.Ledger.Entries), b.Periods, b.Closed, b.Kept, got, want)
	}
}

func withPeriods(list ...impl.Period) impl.Books {
	b := handBooks()
	b.Periods = list
	return b
}

// Three periods one behind the other, of which one is spoilt at each place.
func spoiltPeriods() []impl.Books {
	list := []impl.Books{}
	for at := range handBooks().Periods {
		for _, spoil := range []func(p *impl.Period){
			func(p *impl.Period) { p.First, p.Last = p.Last+1, p.First-1 },
			func(p *impl.Period) { p.Last = p.First - 1 },
			func(p *impl.Period) { p.First = p.Last + 1 },
			func(p *impl.Period) { p.First, p.Last = p.First+100, p.Last+100 },
			func(p *impl.Period) { *p = impl.Period{} },
		} {
			b := handBooks()
			spoil(&b.Periods[at])
			list = append(list, b)
		}
		for _, day := range noDays {
			first, last := handBooks(), handBooks()
			first.Periods[at].First = day
			last.Periods[at].Last = day
			list = append(list, first, last)
		}
	}
	return list
}

// Books that are not right, each by one of their parts.
func wrongBooks() []impl.Books {
	list := []impl.Books{{}}
	for _, f := range wrongFrames() {
		b, empty := handBooks(), booksOf()
		b.Frame, empty.Frame = f, f
		list = append(list, b, empty)
	}
	for _, l := range wrongLedgers() {
		b := handBooks()
		b.Ledger = l
		list = append(list, b)
	}
	list = append(list, spoiltPeriods()...)
	for _, closed := range []int{math.MinInt, -2, -1, 4, 5, impl.MaxPeriods, math.MaxInt} {
		b := handBooks()
		b.Closed = closed
		list = append(list, b)
	}
	for _, kept := range append([]int{0, 1, 2, 5, 6, 8, 9, 10, 11, 12, 13}, noSpots...) {
		b := handBooks()
		b.Kept = kept
		list = append(list, b)
	}
	return append(list, withPeriods(), withPeriods(periodsOf(repeated(1, impl.MaxPeriods+1)...)...))
}

func TestBookCodes(t *testing.T) {
	got := [6]int{impl.BookOk, impl.BookBad, impl.BookEntry, impl.BookNone, impl.BookShut, impl.BookFull}
	if got != [6]int{0, 1, 2, 3, 4, 5} {
		t.Errorf("the books' codes are %v", got)
	}
}

func TestBooksOk(t *testing.T) {
	checkBooksOk(t, handBooks(), true)
	checkBooksOk(t, booksOf(), true)
	full := handBooks()
	full.Ledger = fullLedger(impl.MaxEntries)
	checkBooksOk(t, full, true)
	full.Ledger = fullLedger(impl.MaxEntries + 1)
	checkBooksOk(t, full, false)
	for _, b := range wrongBooks() {
		checkBooksOk(t, b, false)
	}
}

// What the tests call wrong is so by their own reckoning too.
func TestWrongBooksAreWrong(t *testing.T) {
	if !wantBooksOk(handBooks()) {
		t.Error("the books by hand are wrong")
	}
	for i, b := range wrongBooks() {
		if wantBooksOk(b) {
			t.Errorf("wrong books %d are right", i)
		}
	}
}

func TestLedgerOfOtherBooks(t *testing.T) {
	b := handBooks()
	for _, lesser := range []impl.Frame{{Chart: handChart()[:12], Dims: 3, Curs: 4}, {Chart: handChart(), Dims: 2, Curs: 4}, {Chart: handChart(), Dims: 3, Curs: 3}} {
		b.Frame = lesser
		b.Ledger = handLedger()
		checkBooksOk(t, b, false)
		b.Ledger = impl.Ledger{Head: 1}
		checkBooksOk(t, b, true)
	}
}

func TestHowManyPeriodsBooksHave(t *testing.T) {
	for count := range impl.MaxPeriods + 3 {
		checkBooksOk(t, withPeriods(periodsOf(repeated(1, count)...)...), 1 <= count && count <= impl.MaxPeriods)
		checkBooksOk(t, withPeriods(periodsOf(repeated(30, count)...)...), 1 <= count && count <= impl.MaxPeriods)
	}
	for _, kind := range periodKinds {
		checkBooksOk(t, withPeriods(impl.Periods(kind, 366, impl.MaxPeriods)...), true)
	}
}

func TestDaysOfPeriods(t *testing.T) {
	checkBooksOk(t, withPeriods(impl.Period{}), true)
	checkBooksOk(t, withPeriods(impl.Period{First: 0, Last: impl.MaxDay}), true)
	checkBooksOk(t, withPeriods(impl.Period{First: impl.MaxDay, Last: impl.MaxDay}), true)
	checkBooksOk(t, withPeriods(impl.Period{First: 0, Last: impl.MaxDay + 1}), false)
	checkBooksOk(t, withPeriods(impl.Period{First: -1, Last: impl.MaxDay}), false)
	checkBooksOk(t, withPeriods(impl.Period{First: 8, Last: 7}), false)
	checkBooksOk(t, withPeriods(impl.Period{First: 7, Last: 7}), true)
	checkBooksOk(t, withPeriods(impl.Period{First: impl.MaxDay, Last: 0}), false)
	checkBooksOk(t, withPeriods(impl.Period{First: 0, Last: impl.MaxDay}, impl.Period{First: impl.MaxDay + 1, Last: impl.MaxDay + 1}), false)
}

func TestGapsAndOverlaps(t *testing.T) {
	for first := range 40 {
		b := withPeriods(impl.Period{First: 0, Last: 9}, impl.Period{First: 10, Last: 19}, impl.Period{First: first, Last: 39})
		checkBooksOk(t, b, first == 20)
		b = withPeriods(impl.Period{First: 0, Last: 9}, impl.Period{First: first, Last: 39}, impl.Period{First: 40, Last: 49})
		checkBooksOk(t, b, first == 10)
	}
	checkBooksOk(t, withPeriods(impl.Period{First: 10, Last: 19}, impl.Period{First: 0, Last: 9}), false)
	checkBooksOk(t, withPeriods(impl.Period{First: 10, Last: 19}, impl.Period{First: 10, Last: 19}), false)
}

func TestHowManyPeriodsAreClosed(t *testing.T) {
	for closed := -2; closed <= 5; closed++ {
		b := handBooks()
		b.Closed = closed
		checkBooksOk(t, b, 0 <= closed && closed <= 3)
	}
	b := withPeriods(periodsOf(repeated(2, impl.MaxPeriods)...)...)
	b.Closed = impl.MaxPeriods
	checkBooksOk(t, b, true)
	b.Closed++
	checkBooksOk(t, b, false)
}

// In handChart the equity alone is a leaf without parts; here it has one, which is the leaf in its place.
func TestWhereWhatIsKeptStands(t *testing.T) {
	b := handBooks()
	for kept := -2; kept <= 14; kept++ {
		b.Kept = kept
		checkBooksOk(t, b, kept == 7)
	}
	b = booksOf()
	b.Frame.Chart = slices.Insert(b.Frame.Chart[:8:8], 8, impl.Account{Code: "kept", Parent: 7, Kind: impl.Equity}, impl.Account{Code: "second", Parent: -1, Kind: impl.Equity})
	for kept := -2; kept <= 11; kept++ {
		b.Kept = kept
		checkBooksOk(t, b, kept == 8 || kept == 9)
	}
}
