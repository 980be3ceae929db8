package tests

import (
	"math"
	"math/rand"
	"slices"
	"testing"

	"loop.example/g00040/impl"
)

func wantMoves(b impl.Books, at int) (ahead, moved, behind []int) {
	p := b.Periods[at]
	for account, a := range b.Frame.Chart {
		from := math.MinInt
		if a.Kind == impl.Income || a.Kind == impl.Expense {
			from = b.Periods[0].First
		}
		_, stood := wantBalance(b.Ledger, asked{account, -1, -1, from, p.First - 1})
		_, in := wantBalance(b.Ledger, asked{account, -1, -1, p.First, p.Last})
		_, stands := wantBalance(b.Ledger, asked{account, -1, -1, from, p.Last})
		ahead, moved, behind = append(ahead, stood), append(moved, in), append(behind, stands)
	}
	return ahead, moved, behind
}

func checkMoves(t *testing.T, b impl.Books, at int, ahead, moved, behind []int) {
	t.Helper()
	a, m, z := impl.Moves(b, at)
	if !slices.Equal(a, ahead) || !slices.Equal(m, moved) || !slices.Equal(z, behind) {
		t.Errorf("Moves(%d entries, %v, %d) = %v, %v, %v; want %v, %v, %v", len(b.Ledger.Entries), b.Periods, at, a, m, z, ahead, moved, behind)
	}
}

func refuseMoves(t *testing.T, b impl.Books, at int) {
	t.Helper()
	checkMoves(t, b, at, nil, nil, nil)
}

// P19: each period begins with what the one ahead left, and ends with that and what moved.
func checkAllMoves(t *testing.T, b impl.Books) {
	t.Helper()
	left := []int{}
	for at := range b.Periods {
		ahead, moved, behind := wantMoves(b, at)
		checkMoves(t, b, at, ahead, moved, behind)
		a, m, z := impl.Moves(b, at)
		if at > 0 && !slices.Equal(a, left) {
			t.Errorf("period %d of %v begins with %v; the one ahead left %v", at, b.Periods, a, left)
		}
		for i := range z {
			if a[i]+m[i] != z[i] {
				t.Errorf("account %d in period %d: %d and %d are %d", i, at, a[i], m[i], z[i])
			}
		}
		left = z
	}
	for _, at := range []int{math.MinInt, -2, -1, len(b.Periods), len(b.Periods) + 1, impl.MaxPeriods, math.MaxInt} {
		refuseMoves(t, b, at)
	}
}

func TestMovesByHand(t *testing.T) {
	b := handBooks()
	none := make([]int, 13)
	first := []int{0, 0, 1045, 500, 70, 0, -69, -1500, -45, 0, 0, 0, -1}
	second := []int{0, 0, 1045, 480, 70, 0, -69, -1500, -45, 0, 0, 20, -1}
	checkMoves(t, b, 0, []int{0, 0, 1000, 500, 0, 0, 0, -1500, 0, 0, 0, 0, 0}, []int{0, 0, 45, 0, 70, 0, -69, 0, -45, 0, 0, 0, -1}, first)
	checkMoves(t, b, 1, first, []int{0, 0, 0, -20, 0, 0, 0, 0, 0, 0, 0, 20, 0}, second)
	checkMoves(t, b, 2, second, none, second)
	checkAllMoves(t, b)
	checkMoves(t, booksOf(), 1, none, none, none)
	checkAllMoves(t, booksOf())
}

// Ahead of the year something stood in accounts of each kind; only three of the kinds are carried into it.
func TestWhatStoodAheadOfTheYear(t *testing.T) {
	b := booksOf(
		entryOf(4, "", own(2, 0, 1), own(3, 1, 20), own(4, 2, 300), own(8, 0, -1), own(8, 1, -20), own(12, 2, -300)),
		entryOf(0, "", own(6, 0, -5), own(11, 0, 5)),
		entryOf(3, "", own(7, 1, -70), own(12, 1, 70)),
		saleOf(5, 1000),
		saleOf(61, 9999),
	)
	stood := []int{0, 0, 1, 20, 300, 0, -5, -70, 0, 0, 0, 0, 0}
	moved := []int{0, 0, 1000, 0, 0, 0, 0, 0, -1000, 0, 0, 0, 0}
	stands := []int{0, 0, 1001, 20, 300, 0, -5, -70, -1000, 0, 0, 0, 0}
	checkMoves(t, b, 0, stood, moved, stands)
	checkMoves(t, b, 1, stands, make([]int, 13), stands)
	checkMoves(t, b, 2, stands, make([]int, 13), stands)
	checkAllMoves(t, b)
}

// Each sale is known by its amount: what the till has tells which of them were counted.
func TestMovesOnFirstsAndLasts(t *testing.T) {
	b := booksOf(saleOf(4, 1), saleOf(5, 10), saleOf(30, 100), saleOf(31, 1000), saleOf(32, 10000), saleOf(60, 100000), saleOf(61, 1000000))
	for at, want := range [3][3]int{{1, 110, 111}, {111, 1000, 1111}, {1111, 110000, 111111}} {
		a, m, z := impl.Moves(b, at)
		if [3]int{a[2], m[2], z[2]} != want {
			t.Errorf("the till in period %d: %d, %d, %d; want %v", at, a[2], m[2], z[2], want)
		}
		if [3]int{a[8], m[8], z[8]} != [3]int{1 - want[0], -want[1], 1 - want[2]} {
			t.Errorf("sales in period %d: %d, %d, %d", at, a[8], m[8], z[8])
		}
	}
	checkAllMoves(t, b)
}

func TestMovesCountBasesOfAllParts(t *testing.T) {
	b := booksOf(foreignSale(5, 2, 0, 1, 10, 15), foreignSale(5, 2, 2, 3, 7, 100), foreignSale(40, 2, 1, 2, 0, -4), foreignSale(40, 2, 1, 2, 9, 0))
	a, m, z := impl.Moves(b, 2)
	if a[2] != 115 || m[2] != -4 || z[2] != 111 || a[8] != -115 || m[8] != 4 || z[8] != -111 {
		t.Errorf("foreign moves are %v, %v, %v", a, m, z)
	}
	checkAllMoves(t, b)
}

// How many periods are closed changes nothing of what moved in them.
func TestMovesOfClosedPeriods(t *testing.T) {
	b := handBooks()
	for b.Closed = range 4 {
		checkAllMoves(t, b)
	}
}

func TestMovesOfManyPeriods(t *testing.T) {
	b := handBooks()
	b.Ledger = fullLedger(impl.MaxEntries)
	for _, days := range []int{1, 7, 30} {
		b.Periods = periodsOf(repeated(days, impl.MaxPeriods)...)
		checkAllMoves(t, b)
	}
	b.Periods = []impl.Period{{First: 0, Last: impl.MaxDay}}
	checkAllMoves(t, b)
	b.Periods = []impl.Period{{First: impl.MaxDay, Last: impl.MaxDay}}
	checkAllMoves(t, b)
}

func TestMovesOfWrongBooks(t *testing.T) {
	for _, b := range wrongBooks() {
		for at := -1; at <= 3; at++ {
			refuseMoves(t, b, at)
		}
	}
}

// The greatest that an account can have behind all entries there may be.
func TestGreatestMoves(t *testing.T) {
	lines := slices.Repeat([]impl.Line{own(2, 0, impl.MaxMoney), own(8, 0, -impl.MaxMoney)}, impl.MaxLines/2)
	b := booksOf(slices.Repeat([]impl.Entry{entryOf(31, "", lines...)}, impl.MaxEntries)...)
	all := impl.MaxMoney * impl.MaxLines / 2 * impl.MaxEntries
	for at, want := range [3][3]int{{0, 0, 0}, {0, all, all}, {all, 0, all}} {
		a, m, z := impl.Moves(b, at)
		if [3]int{a[2], m[2], z[2]} != want || a[8] != -a[2] || m[8] != -m[2] || z[8] != -z[2] {
			t.Errorf("the greatest moves in period %d are %v, %v, %v", at, a, m, z)
		}
	}
}

func TestSomeMoves(t *testing.T) {
	chance := rand.New(rand.NewSource(64))
	for range 150 {
		b := someBooks(chance)
		for range 1 + chance.Intn(12) {
			b.Ledger = checkPost(t, b.Frame, b.Ledger, someEntry(chance, b.Frame))
		}
		checkAllMoves(t, b)
	}
}

// Behind a close on a period's last day the next one begins with no income and no expense.
func TestMovesBehindAClose(t *testing.T) {
	b := handBooks()
	e, ok := impl.CloseYear(b, 31)
	if !ok {
		t.Fatal("there is nothing to close")
	}
	b = checkRecord(t, b, e)
	a, _, _ := impl.Moves(b, 2)
	for _, account := range []int{8, 11, 12} {
		if a[account] != 0 {
			t.Errorf("account %d begins with %d behind the close", account, a[account])
		}
	}
	checkAllMoves(t, b)
}

func TestMovesLeaveTheirArguments(t *testing.T) {
	whole, told, _, _ := roomyBooks()
	kept, keptTold := copyBooks(whole), copyBooks(told)
	for at := range told.Periods {
		a, m, z := impl.Moves(told, at)
		ahead, moved, behind := wantMoves(told, at)
		for i, one := range [][]int{a, m, z} {
			one[2]++
			_ = append(one, 99)
			want := [][]int{slices.Clone(ahead), slices.Clone(moved), slices.Clone(behind)}
			want[i][2]++
			if !slices.Equal(a, want[0]) || !slices.Equal(m, want[1]) || !slices.Equal(z, want[2]) {
				t.Errorf("lists of one answer of Moves share memory")
			}
			one[2]--
		}
	}
	if !sameBooks(whole, kept) || !sameBooks(told, keptTold) {
		t.Error("Moves wrote into what it was given")
	}
}
