package tests

import (
	"math"
	"math/rand"
	"slices"
	"strconv"
	"testing"

	"loop.example/g00040/impl"
)

func ledgerOf(entries ...impl.Entry) impl.Ledger {
	return impl.Ledger{Entries: entries, Head: impl.HeadOf(entries)}
}

func copyLedger(l impl.Ledger) impl.Ledger {
	l.Entries = copyEntries(l.Entries)
	return l
}

func sameLedger(a, b impl.Ledger) bool { return a.Head == b.Head && sameEntries(a.Entries, b.Entries) }

// A right ledger of handFrame with three parts and four currencies in its entries.
func handLedger() impl.Ledger {
	return ledgerOf(
		entryOf(0, "opening", own(2, 0, 1000), own(3, 1, 500), own(7, 0, -1000), own(7, 1, -500)),
		entryOf(5, "sale", foreign(2, 0, 1, 30, 45), foreign(8, 0, 1, -30, -45)),
		impl.Entry{Day: 5, Ref: 2, Text: "goods", Lines: []impl.Line{foreign(4, 2, 3, 7, 70), foreign(6, 2, 3, -7, -69), foreign(12, 2, 2, 0, -1)}},
		entryOf(31, "", own(11, 1, 20), own(3, 1, -20)),
		entryOf(31, "sale", own(2, 0, 60), own(8, 0, -60), own(2, 1, -60), own(8, 1, 60)),
		entryOf(impl.MaxDay, "last", own(2, 0, -5), own(7, 0, 5)),
	)
}

func fullLedger(count int) impl.Ledger {
	entries := make([]impl.Entry, count)
	for i := range entries {
		entries[i] = saleOf(i, i-7)
	}
	return ledgerOf(entries...)
}

// Ledgers that are not right in handFrame.
func wrongLedgers() []impl.Ledger {
	list := []impl.Ledger{{}, {Head: -1}, {Head: 2}, {Head: math.MinInt}, {Head: math.MaxInt}, fullLedger(impl.MaxEntries + 1)}
	list[5].Head = 0
	for _, head := range []int{0, 1, handLedger().Head + 1, handLedger().Head - 1, handLedger().Head + 1099511627791, -handLedger().Head} {
		l := handLedger()
		l.Head = head
		list = append(list, l)
	}
	return append(list, withWrongEntries()...)
}

// Their heads are as they should be: of these only an entry is wrong.
func withWrongEntries() []impl.Ledger {
	list := []impl.Ledger{}
	for at := range handLedger().Entries {
		for _, wrong := range []impl.Entry{{}, saleOf(-1, 5), entryOf(1, "\n", own(2, 0, 5), own(8, 0, -5)), entryOf(1, "", own(2, 0, 5), own(8, 1, -5)), entryOf(1, "", own(0, 0, 5), own(8, 0, -5))} {
			entries := handLedger().Entries
			entries[at] = wrong
			list = append(list, ledgerOf(entries...))
		}
	}
	return list
}

func checkLedgerOk(t *testing.T, f impl.Frame, l impl.Ledger, want bool) {
	t.Helper()
	if got := impl.LedgerOk(f, l); got != want {
		t.Errorf("LedgerOk(%d entries, head %d) = %v; want %v: %+v", len(l.Entries), l.Head, got, want, l.Entries[:min(6, len(l.Entries))])
	}
}

func checkPost(t *testing.T, f impl.Frame, l impl.Ledger, e impl.Entry) impl.Ledger {
	t.Helper()
	got, told := impl.Post(f, l, e)
	entries := append(copyEntries(l.Entries), e)
	if told != impl.PostOk || !sameLedger(got, impl.Ledger{Entries: entries, Head: wantHead(entries)}) {
		t.Fatalf("Post(%d entries, %+v) = %+v, %d", len(l.Entries), e, got, told)
	}
	return got
}

func refusePost(t *testing.T, f impl.Frame, l impl.Ledger, e impl.Entry, want int) {
	t.Helper()
	left := l
	if want == impl.PostLedger {
		left = impl.Ledger{}
	}
	if got, told := impl.Post(f, l, e); told != want || !sameLedger(got, left) {
		t.Errorf("Post(%d entries, %+v) = %d entries, head %d, %d; want %d", len(l.Entries), e, len(got.Entries), got.Head, told, want)
	}
}

func refuseReverse(t *testing.T, f impl.Frame, l impl.Ledger, at, day int) {
	t.Helper()
	if got, ok := impl.Reverse(f, l, at, day); ok || !isZeroEntry(got) {
		t.Errorf("Reverse(%d entries, %d, %d) = %+v, %v; want none", len(l.Entries), at, day, got, ok)
	}
}

func TestPostCodes(t *testing.T) {
	if got := [4]int{impl.PostOk, impl.PostLedger, impl.PostEntry, impl.PostFull}; got != [4]int{0, 1, 2, 3} {
		t.Errorf("Post's codes are %v", got)
	}
}

func TestLedgerOk(t *testing.T) {
	f := handFrame()
	checkLedgerOk(t, f, impl.Ledger{Head: 1}, true)
	checkLedgerOk(t, f, impl.Ledger{Entries: []impl.Entry{}, Head: 1}, true)
	checkLedgerOk(t, f, handLedger(), true)
	checkLedgerOk(t, f, fullLedger(impl.MaxEntries-1), true)
	checkLedgerOk(t, f, fullLedger(impl.MaxEntries), true)
	for _, l := range wrongLedgers() {
		checkLedgerOk(t, f, l, false)
	}
}

// The chain of this entry comes to 0, which is its head, and no sign of a mistake.
func TestLedgerWithAHeadOf0(t *testing.T) {
	f := handFrame()
	l := impl.Ledger{Entries: []impl.Entry{entryOf(7, "nought", own(2, 0, 27576711990), own(8, 0, -27576711990))}}
	checkLedgerOk(t, f, l, true)
	if got, told := impl.Post(f, impl.Ledger{Head: 1}, l.Entries[0]); told != impl.PostOk || !sameLedger(got, l) {
		t.Errorf("Post of an entry with the head 0 = %+v, %d", got, told)
	}
	checkLedgerOk(t, f, checkPost(t, f, l, saleOf(8, 3)), true)
	l.Head = 1
	checkLedgerOk(t, f, l, false)
}

func TestLedgerInWrongFrames(t *testing.T) {
	for _, f := range wrongFrames() {
		for _, l := range []impl.Ledger{{}, {Head: 1}, handLedger()} {
			checkLedgerOk(t, f, l, false)
			refusePost(t, f, l, saleOf(1, 5), impl.PostLedger)
			refuseReverse(t, f, l, 0, 1)
			checkTrial(t, f, l, 99)
		}
	}
}

// What is right in one frame is not in one that lacks an account, a part or a currency.
func TestLedgerInLesserFrames(t *testing.T) {
	f := handFrame()
	for _, lesser := range []impl.Frame{{Chart: f.Chart[:12], Dims: 3, Curs: 4}, {Chart: f.Chart, Dims: 2, Curs: 4}, {Chart: f.Chart, Dims: 3, Curs: 3}} {
		checkFrameOk(t, lesser, true)
		checkLedgerOk(t, lesser, handLedger(), false)
	}
	f.Chart = append(f.Chart, impl.Account{Code: "part-of-the-leaf", Parent: 12, Kind: impl.Expense})
	checkFrameOk(t, f, true)
	checkLedgerOk(t, f, handLedger(), false)
}

func TestPostRefusals(t *testing.T) {
	f := handFrame()
	right, wrong := saleOf(1, 5), entryOf(1, "", own(2, 0, 5), own(8, 1, -5))
	for _, l := range wrongLedgers() {
		refusePost(t, f, l, right, impl.PostLedger)
		refusePost(t, f, l, wrong, impl.PostLedger)
	}
	for _, l := range []impl.Ledger{{Head: 1}, handLedger(), fullLedger(impl.MaxEntries - 1), fullLedger(impl.MaxEntries)} {
		refusePost(t, f, l, wrong, impl.PostEntry)
		refusePost(t, f, l, impl.Entry{}, impl.PostEntry)
		refusePost(t, f, l, saleOf(impl.MaxDay+1, 5), impl.PostEntry)
	}
	refusePost(t, f, fullLedger(impl.MaxEntries), right, impl.PostFull)
}

func TestPostTheLastEntry(t *testing.T) {
	f := handFrame()
	l := checkPost(t, f, fullLedger(impl.MaxEntries-1), saleOf(2, 5))
	checkLedgerOk(t, f, l, true)
	refusePost(t, f, l, saleOf(3, 5), impl.PostFull)
}

func TestPostLongEntries(t *testing.T) {
	f := impl.Frame{Chart: wideChart(impl.MaxAccounts), Dims: impl.MaxDims, Curs: impl.MaxCurs}
	e := impl.Entry{Day: impl.MaxDay, Ref: impl.MaxEntries, Text: string(slices.Repeat([]byte{255}, impl.MaxText))}
	for i := range impl.MaxLines / 2 {
		e.Lines = append(e.Lines, foreign(impl.MaxAccounts-1, impl.MaxDims-1, impl.MaxCurs-1, impl.MaxMoney, -impl.MaxMoney))
		e.Lines = append(e.Lines, foreign(i/10*6+2, impl.MaxDims-1, impl.MaxCurs-1, -impl.MaxMoney, impl.MaxMoney))
	}
	l := impl.Ledger{Head: 1}
	for range 3 {
		l = checkPost(t, f, l, e)
	}
	checkLedgerOk(t, f, l, true)
}

// P12: behind every Post, taken or refused, of each currency and each part all is even, over any span of days.
func TestPostLeavesLedgersEven(t *testing.T) {
	chance := rand.New(rand.NewSource(54))
	for range 25 {
		f := someFrame(chance)
		l := impl.Ledger{Head: 1}
		for range 12 {
			e := someEntry(chance, f)
			l = checkPost(t, f, l, e)
			changeLine(chance, &e.Lines[0])
			if !wantEntryOk(f, e) {
				refusePost(t, f, l, e, impl.PostEntry)
			}
			checkLedgerOk(t, f, l, true)
			from := chance.Intn(250) - 20
			checkEven(t, f, l, from, from+chance.Intn(200))
		}
		checkEven(t, f, l, 0, impl.MaxDay)
	}
}

func checkEven(t *testing.T, f impl.Frame, l impl.Ledger, from, to int) {
	t.Helper()
	for cur := range f.Curs {
		if a, _ := impl.Balance(l, -1, -1, cur, from, to); a != 0 {
			t.Errorf("currency %d from %d to %d is together %d", cur, from, to, a)
		}
	}
	for dim := range f.Dims {
		if _, b := impl.Balance(l, -1, dim, -1, from, to); b != 0 {
			t.Errorf("part %d from %d to %d is together %d", dim, from, to, b)
		}
	}
}

// A ledger and an entry with more behind their ends than they tell of.
func roomyLedger() (impl.Ledger, impl.Entry) {
	l := handLedger()
	e := entryOf(8, "e", own(2, 0, 4), own(8, 0, -4), own(7, 2, 77))
	for i := range l.Entries {
		l.Entries[i].Lines = append(l.Entries[i].Lines, own(7, 2, 77))
	}
	return l, e
}

// The same with the spare room out of sight.
func shortened(l impl.Ledger, e impl.Entry) (impl.Ledger, impl.Entry) {
	entries := slices.Clone(l.Entries)
	for i, one := range entries {
		entries[i].Lines = one.Lines[:len(one.Lines)-1]
	}
	entries = entries[:len(entries)-1]
	e.Lines = e.Lines[:len(e.Lines)-1]
	return ledgerOf(entries...), e
}

func scribble(list []impl.Entry) {
	for i := range list {
		lines := list[i].Lines[:cap(list[i].Lines)]
		for k := range lines {
			lines[k] = impl.Line{Account: -9, Dim: -9, Cur: -9, Amount: -9, Base: -9}
		}
		list[i] = impl.Entry{Day: -9}
	}
}

func TestPostLeavesItsArguments(t *testing.T) {
	f := handFrame()
	full, wide := roomyLedger()
	l, e := shortened(full, wide)
	kept, keptEntry, keptChart := copyLedger(full), copyEntry(wide), handChart()
	beyond := impl.Entry{Day: impl.MaxDay + 1}
	roomy := l.Entries[:len(l.Entries)+1]
	before := copyEntries(roomy)
	for _, posted := range []impl.Entry{e, beyond} {
		got, _ := impl.Post(f, l, posted)
		scribble(got.Entries[:cap(got.Entries)])
		if !sameEntries(roomy, before) || !sameEntries(full.Entries, kept.Entries) || !sameEntry(wide, keptEntry) || !slices.Equal(f.Chart, keptChart) {
			t.Errorf("Post wrote into what it was given, or handed it out: %+v, %+v", full, wide)
		}
	}
	last := fullLedger(impl.MaxEntries)
	got, told := impl.Post(f, last, e)
	scribble(got.Entries)
	if told != impl.PostFull || !sameLedger(last, fullLedger(impl.MaxEntries)) {
		t.Error("Post to a full ledger hands out its memory")
	}
}

// The lists of an answer stand apart: what is put behind one of them changes no other.
func checkApart(t *testing.T, list []impl.Entry) {
	t.Helper()
	kept := copyEntries(list)
	for i := range list {
		_ = append(list[i].Lines, own(9, 9, 999))
		for k := range list[i].Lines {
			list[i].Lines[k].Amount++
		}
		for k := range list {
			if k != i && !sameEntry(list[k], kept[k]) {
				t.Errorf("entries %d and %d of an answer share memory", i, k)
			}
		}
		copy(list[i].Lines, kept[i].Lines)
	}
}

func TestPostsListsStandApart(t *testing.T) {
	f := handFrame()
	got, _ := impl.Post(f, handLedger(), saleOf(3, 5))
	checkApart(t, got.Entries)
	got, _ = impl.Post(f, handLedger(), saleOf(-3, 5))
	checkApart(t, got.Entries)
	l := handLedger()
	same := impl.Ledger{Entries: []impl.Entry{l.Entries[0], l.Entries[0]}}
	same.Head = impl.HeadOf(same.Entries)
	got, _ = impl.Post(f, same, l.Entries[0])
	checkApart(t, got.Entries)
}

func TestReverseByHand(t *testing.T) {
	f, l := handFrame(), handLedger()
	got, ok := impl.Reverse(f, l, 2, 40)
	want := impl.Entry{Day: 40, Ref: 3, Text: "reverse 3", Lines: []impl.Line{foreign(4, 2, 3, -7, -70), foreign(6, 2, 3, 7, 69), foreign(12, 2, 2, 0, 1)}}
	if !ok || !sameEntry(got, want) {
		t.Errorf("Reverse of the third entry = %+v, %v", got, ok)
	}
}

func checkReverse(t *testing.T, f impl.Frame, l impl.Ledger, at, day int) impl.Entry {
	t.Helper()
	want := impl.Entry{Day: day, Ref: at + 1, Text: "reverse " + strconv.Itoa(at+1)}
	for _, n := range l.Entries[at].Lines {
		want.Lines = append(want.Lines, impl.Line{Account: n.Account, Dim: n.Dim, Cur: n.Cur, Amount: 0 - n.Amount, Base: 0 - n.Base})
	}
	got, ok := impl.Reverse(f, l, at, day)
	if !ok || !sameEntry(got, want) || !impl.EntryOk(f, got) {
		t.Errorf("Reverse(%d entries, %d, %d) = %+v, %v; want %+v", len(l.Entries), at, day, got, ok, want)
	}
	return got
}

func TestReverseAtEachPlace(t *testing.T) {
	f, l := handFrame(), handLedger()
	for at := range l.Entries {
		for _, day := range []int{0, 1, 4000, impl.MaxDay} {
			checkReverse(t, f, l, at, day)
		}
		for _, day := range noDays {
			refuseReverse(t, f, l, at, day)
		}
	}
	for _, at := range []int{math.MinInt, -2, -1, len(l.Entries), len(l.Entries) + 1, impl.MaxEntries, math.MaxInt} {
		refuseReverse(t, f, l, at, 5)
	}
	refuseReverse(t, f, impl.Ledger{Head: 1}, 0, 5)
	refuseReverse(t, f, impl.Ledger{Head: 1}, -1, 5)
	full := fullLedger(impl.MaxEntries)
	checkReverse(t, f, full, 0, 3)
	checkReverse(t, f, full, impl.MaxEntries-1, 3)
	refuseReverse(t, f, full, impl.MaxEntries, 3)
}

func TestReverseInWrongLedgers(t *testing.T) {
	for _, l := range wrongLedgers() {
		for at := -1; at <= min(6, len(l.Entries)); at++ {
			refuseReverse(t, handFrame(), l, at, 5)
		}
	}
}

// P13: an entry and its reverse together change no balance.
func TestReverseTakesBack(t *testing.T) {
	chance := rand.New(rand.NewSource(55))
	for range 30 {
		f := someFrame(chance)
		l := impl.Ledger{Head: 1}
		for range 1 + chance.Intn(6) {
			l = checkPost(t, f, l, someEntry(chance, f))
		}
		e := someEntry(chance, f)
		with := checkPost(t, f, l, e)
		day := chance.Intn(impl.MaxDay + 1)
		both := checkPost(t, f, with, checkReverse(t, f, with, len(l.Entries), day))
		checkSameBalances(t, f, l, both, 0, impl.MaxDay)
		checkSameBalances(t, f, l, both, min(e.Day, day), max(e.Day, day))
		checkSameBalances(t, f, l, both, max(e.Day, day)+1, impl.MaxDay)
		checkSameBalances(t, f, l, both, 0, min(e.Day, day)-1)
	}
}

func checkSameBalances(t *testing.T, f impl.Frame, l, other impl.Ledger, from, to int) {
	t.Helper()
	for account := -1; account < len(f.Chart); account++ {
		for dim := -1; dim < f.Dims; dim++ {
			for cur := -1; cur < f.Curs; cur += 3 {
				a, b := impl.Balance(l, account, dim, cur, from, to)
				if a2, b2 := impl.Balance(other, account, dim, cur, from, to); a != a2 || b != b2 {
					t.Fatalf("account %d, part %d, currency %d from %d to %d: %d, %d became %d, %d", account, dim, cur, from, to, a, b, a2, b2)
				}
			}
		}
	}
}

func TestReverseOfAReverse(t *testing.T) {
	f, l := handFrame(), handLedger()
	l = checkPost(t, f, l, checkReverse(t, f, l, 1, 6))
	twice := checkReverse(t, f, l, 6, l.Entries[1].Day)
	if !slices.Equal(twice.Lines, l.Entries[1].Lines) || twice.Ref != 7 || twice.Text != "reverse 7" {
		t.Errorf("the reverse of a reverse is %+v", twice)
	}
}

func TestReverseLeavesItsArguments(t *testing.T) {
	f := handFrame()
	full, wide := roomyLedger()
	l, _ := shortened(full, wide)
	kept, before := copyLedger(full), copyLedger(l)
	for at := range l.Entries {
		got, _ := impl.Reverse(f, l, at, 50)
		scribble([]impl.Entry{got})
	}
	if !sameEntries(full.Entries, kept.Entries) || !sameLedger(l, before) {
		t.Errorf("Reverse wrote into what it was given, or handed it out: %+v", full)
	}
}
