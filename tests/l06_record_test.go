package tests

import (
	"math/rand"
	"slices"
	"testing"

	"loop.example/g00040/impl"
)

// What is taken stands behind the other entries, and the books are right.
func checkRecord(t *testing.T, b impl.Books, e impl.Entry) impl.Books {
	t.Helper()
	want := copyBooks(b)
	want.Ledger.Entries = append(want.Ledger.Entries, copyEntry(e))
	want.Ledger.Head = wantHead(want.Ledger.Entries)
	got, told := impl.Record(b, e)
	if told != impl.BookOk || !sameBooks(got, want) {
		t.Fatalf("Record(%d entries, %v, %d closed; %+v) = %d entries, %d; want it taken", len(b.Ledger.Entries), b.Periods, b.Closed, e, len(got.Ledger.Entries), told)
	}
	checkBooksOk(t, got, true)
	return got
}

// What is refused leaves the books; of books that are not right there are none.
func refuseRecord(t *testing.T, b impl.Books, e impl.Entry, want int) {
	t.Helper()
	left := b
	if want == impl.BookBad {
		left = impl.Books{}
	}
	if got, told := impl.Record(b, e); told != want || !sameBooks(got, left) {
		t.Errorf("Record(%d entries, %v, %d closed; %+v) = %d entries, %d; want %d", len(b.Ledger.Entries), b.Periods, b.Closed, e, len(got.Ledger.Entries), told, want)
	}
}

func checkShut(t *testing.T, b impl.Books) impl.Books {
	t.Helper()
	want := copyBooks(b)
	want.Closed++
	got, told := impl.Shut(b)
	if told != impl.BookOk || !sameBooks(got, want) {
		t.Fatalf("Shut(%v, %d closed) = %d closed, %d", b.Periods, b.Closed, got.Closed, told)
	}
	checkBooksOk(t, got, true)
	return got
}

func refuseShut(t *testing.T, b impl.Books, want int) {
	t.Helper()
	left := b
	if want == impl.BookBad {
		left = impl.Books{}
	}
	if got, told := impl.Shut(b); told != want || !sameBooks(got, left) {
		t.Errorf("Shut(%v, %d closed) = %d closed, %d; want %d", b.Periods, b.Closed, got.Closed, told, want)
	}
}

func TestRecordByHand(t *testing.T) {
	b := booksOf()
	b = checkRecord(t, b, saleOf(5, 70))
	b = checkRecord(t, b, entryOf(60, "", foreign(2, 1, 1, 5, 50), foreign(8, 1, 1, -5, -50)))
	b = checkRecord(t, b, saleOf(31, -7))
	checkBalance(t, b.Ledger, asked{8, -1, -1, 0, impl.MaxDay}, -68, -113)
	refuseRecord(t, b, saleOf(4, 1), impl.BookNone)
	refuseRecord(t, b, saleOf(61, 1), impl.BookNone)
	refuseRecord(t, b, entryOf(5, "", own(2, 0, 1), own(8, 1, -1)), impl.BookEntry)
	b.Closed = 1
	refuseRecord(t, b, saleOf(30, 1), impl.BookShut)
	checkRecord(t, b, saleOf(31, 1))
}

// Of three periods from day 5 to day 60, which begin with these days.
func wantDayTold(closed, day int) int {
	starts := []int{5, 31, 32, 61}
	switch {
	case day < starts[0] || day > 60:
		return impl.BookNone
	case day < starts[closed]:
		return impl.BookShut
	}
	return impl.BookOk
}

func TestRecordOnEachDay(t *testing.T) {
	b := handBooks()
	for b.Closed = range 4 {
		for day := range 70 {
			if want := wantDayTold(b.Closed, day); want == impl.BookOk {
				checkRecord(t, b, saleOf(day, 5))
			} else {
				refuseRecord(t, b, saleOf(day, 5), want)
			}
		}
		refuseRecord(t, b, saleOf(impl.MaxDay, 5), impl.BookNone)
	}
}

func TestRecordInWrongBooks(t *testing.T) {
	for _, b := range wrongBooks() {
		refuseRecord(t, b, saleOf(31, 5), impl.BookBad)
		refuseRecord(t, b, saleOf(-1, 5), impl.BookBad)
		refuseRecord(t, b, saleOf(400, 5), impl.BookBad)
		refuseRecord(t, b, impl.Entry{}, impl.BookBad)
	}
}

// Entries that are not EntryOk on any of the days given.
func wrongEntries(day int) []impl.Entry {
	return []impl.Entry{
		{Day: day},
		entryOf(day, "", own(2, 0, 5)),
		entryOf(day, "", own(2, 0, 5), own(8, 0, -4)),
		entryOf(day, "", own(2, 0, 5), own(8, 1, -5)),
		entryOf(day, "", own(0, 0, 5), own(8, 0, -5)),
		entryOf(day, "", own(2, 0, impl.MaxMoney+1), own(8, 0, -impl.MaxMoney-1)),
		entryOf(day, "\x1f", own(2, 0, 5), own(8, 0, -5)),
		{Day: day, Ref: -1, Lines: saleOf(day, 5).Lines},
	}
}

// The entry is asked first, then its day, then whether that is closed, and last whether there is room.
func TestWhichRefusalComesFirst(t *testing.T) {
	for _, count := range []int{3, impl.MaxEntries} {
		b := handBooks()
		b.Ledger = fullLedger(count)
		b.Closed = 2
		for _, day := range []int{0, 4, 5, 31, 32, 60, 61, impl.MaxDay} {
			for _, e := range wrongEntries(day) {
				refuseRecord(t, b, e, impl.BookEntry)
			}
		}
		for _, day := range noDays {
			refuseRecord(t, b, saleOf(day, 5), impl.BookEntry)
		}
		refuseRecord(t, b, saleOf(4, 5), impl.BookNone)
		refuseRecord(t, b, saleOf(61, 5), impl.BookNone)
		refuseRecord(t, b, saleOf(5, 5), impl.BookShut)
		refuseRecord(t, b, saleOf(31, 5), impl.BookShut)
	}
}

func TestRecordTheLastEntry(t *testing.T) {
	b := handBooks()
	b.Ledger = fullLedger(impl.MaxEntries - 1)
	b = checkRecord(t, b, saleOf(32, 5))
	refuseRecord(t, b, saleOf(32, 5), impl.BookFull)
	refuseRecord(t, b, saleOf(60, 5), impl.BookFull)
	checkBooksOk(t, b, true)
}

func TestRecordInTheLongestYears(t *testing.T) {
	b := booksOf()
	b.Periods = periodsOf(repeated(3, impl.MaxPeriods)...)
	b.Closed = impl.MaxPeriods - 1
	last := 3*impl.MaxPeriods - 1
	refuseRecord(t, b, saleOf(0, 5), impl.BookShut)
	refuseRecord(t, b, saleOf(last-3, 5), impl.BookShut)
	checkRecord(t, b, saleOf(last-2, 5))
	checkRecord(t, b, saleOf(last, 5))
	refuseRecord(t, b, saleOf(last+1, 5), impl.BookNone)
	b.Periods = []impl.Period{{First: 0, Last: impl.MaxDay}}
	b.Closed = 0
	checkRecord(t, checkRecord(t, b, saleOf(0, 5)), saleOf(impl.MaxDay, 5))
}

func TestShutFromNoneToAll(t *testing.T) {
	b := handBooks()
	for range 3 {
		b = checkShut(t, b)
	}
	if b.Closed != 3 {
		t.Errorf("three periods shut are %d", b.Closed)
	}
	refuseShut(t, b, impl.BookNone)
	refuseShut(t, b, impl.BookNone)
	for _, wrong := range wrongBooks() {
		refuseShut(t, wrong, impl.BookBad)
	}
	many := withPeriods(periodsOf(repeated(9, impl.MaxPeriods)...)...)
	for range impl.MaxPeriods {
		many = checkShut(t, many)
	}
	refuseShut(t, many, impl.BookNone)
	full := handBooks()
	full.Ledger = fullLedger(impl.MaxEntries)
	checkShut(t, full)
}

// A chart with a leaf to keep in, and an income to gain in; some periods, some of them closed.
func someBooks(chance *rand.Rand) impl.Books {
	chart := someChart(chance, 1+chance.Intn(12))
	chart = append(chart, impl.Account{Code: "kept", Parent: -1, Kind: impl.Equity}, impl.Account{Code: "gain", Parent: -1, Kind: impl.Income})
	b := impl.Books{Frame: impl.Frame{Chart: chart, Dims: 1 + chance.Intn(4), Curs: 1 + chance.Intn(4)}, Ledger: impl.Ledger{Head: 1}, Kept: len(chart) - 2}
	first := chance.Intn(60)
	for range 1 + chance.Intn(6) {
		last := first + chance.Intn(40)
		b.Periods = append(b.Periods, impl.Period{First: first, Last: last})
		first = last + 1
	}
	return b
}

func wantRecordTold(b impl.Books, e impl.Entry) int {
	if !wantEntryOk(b.Frame, e) {
		return impl.BookEntry
	}
	for i, p := range b.Periods {
		switch {
		case e.Day < p.First || e.Day > p.Last:
			continue
		case i < b.Closed:
			return impl.BookShut
		}
		return impl.BookOk
	}
	return impl.BookNone
}

// P16: whatever is asked for in whatever order, the books stay right.
func TestSomeBooks(t *testing.T) {
	chance := rand.New(rand.NewSource(61))
	told := [6]int{}
	for range 40 {
		b := someBooks(chance)
		checkBooksOk(t, b, true)
		for range 30 {
			e := someEntry(chance, b.Frame)
			if chance.Intn(4) == 0 {
				changeLine(chance, &e.Lines[0])
			}
			want := wantRecordTold(b, e)
			told[want]++
			if want == impl.BookOk {
				b = checkRecord(t, b, e)
			} else {
				refuseRecord(t, b, e, want)
			}
			if chance.Intn(12) == 0 && b.Closed < len(b.Periods) {
				b = checkShut(t, b)
			}
		}
	}
	if slices.Contains([]int{told[impl.BookOk], told[impl.BookEntry], told[impl.BookNone], told[impl.BookShut]}, 0) {
		t.Errorf("not every answer came: %v", told)
	}
}

// Books in which every list has more behind its end than it tells of.
func roomyBooks() (whole, told impl.Books, wide, e impl.Entry) {
	whole = handBooks()
	whole.Ledger, wide = roomyLedger()
	wide.Day = 31
	told = whole
	told.Ledger, e = shortened(whole.Ledger, wide)
	told.Frame.Chart = append(whole.Frame.Chart, impl.Account{Code: "behind"})[:13]
	whole.Frame.Chart = told.Frame.Chart[:14]
	told.Periods = whole.Periods[:2]
	return whole, told, wide, e
}

func scribbleBooks(b impl.Books) {
	scribble(b.Ledger.Entries[:cap(b.Ledger.Entries)])
	chart, periods := b.Frame.Chart[:cap(b.Frame.Chart)], b.Periods[:cap(b.Periods)]
	for i := range chart {
		chart[i] = impl.Account{Code: "scribbled"}
	}
	for i := range periods {
		periods[i] = impl.Period{First: -9, Last: -9}
	}
}

func TestRecordAndShutLeaveTheirArguments(t *testing.T) {
	whole, told, wide, e := roomyBooks()
	keptWhole, keptTold, keptWide := copyBooks(whole), copyBooks(told), copyEntry(wide)
	check := func(name string, got impl.Books) {
		t.Helper()
		scribbleBooks(got)
		if !sameBooks(whole, keptWhole) || !sameBooks(told, keptTold) || !sameEntry(wide, keptWide) {
			t.Fatalf("%s wrote into what it was given, or handed it out", name)
		}
	}
	for _, one := range []impl.Entry{e, {}, saleOf(4, 1)} {
		got, _ := impl.Record(told, one)
		check("Record", got)
	}
	got, _ := impl.Shut(told)
	check("Shut", got)
	told.Closed, keptTold.Closed = 2, 2
	got, _ = impl.Record(told, e)
	check("Record in a closed period", got)
	got, _ = impl.Shut(told)
	check("Shut behind all", got)
	full := handBooks()
	full.Ledger = fullLedger(impl.MaxEntries)
	got, _ = impl.Record(full, saleOf(32, 5))
	scribbleBooks(got)
	checkLedgerOk(t, full.Frame, full.Ledger, true)
}

func TestListsOfBooksStandApart(t *testing.T) {
	got, _ := impl.Record(handBooks(), saleOf(31, 5))
	checkApart(t, got.Ledger.Entries)
	got, _ = impl.Record(handBooks(), saleOf(4, 5))
	checkApart(t, got.Ledger.Entries)
	got, _ = impl.Shut(handBooks())
	checkApart(t, got.Ledger.Entries)
	same := saleOf(31, 5)
	got, _ = impl.Record(booksOf(same, same), same)
	checkApart(t, got.Ledger.Entries)
}
