package tests

import (
	"math"
	"math/big"
	"math/rand"
	"slices"
	"strings"
	"testing"

	"loop.example/g00040/impl"
)

const leastLinked = -549755813888
const mostLinked = 549755813887

func checkHead(t *testing.T, list []impl.Entry, want int) {
	t.Helper()
	if got := impl.HeadOf(list); got != want {
		t.Errorf("HeadOf(%d entries) = %d; want %d: %+v", len(list), got, want, list[:min(3, len(list))])
	}
}

// All numbers of an entry in the order in which they are linked.
func numbersOf(e impl.Entry) []int {
	list := []int{e.Day, e.Ref, len(e.Text)}
	for _, b := range []byte(e.Text) {
		list = append(list, int(b))
	}
	list = append(list, len(e.Lines))
	for _, n := range e.Lines {
		list = append(list, n.Account, n.Dim, n.Cur, n.Amount, n.Base)
	}
	return list
}

// The head without a bound on any number, in numbers without an end.
func wantHead(list []impl.Entry) int {
	head := big.NewInt(1)
	for _, e := range list {
		for _, n := range numbersOf(e) {
			head.Mul(head, big.NewInt(1000003))
			head.Add(head, big.NewInt(int64(n)))
			head.Add(head, big.NewInt(1<<39))
			head.Mod(head, big.NewInt(1099511627791))
		}
	}
	return int(head.Int64())
}

func copyEntries(list []impl.Entry) []impl.Entry {
	copied := make([]impl.Entry, len(list))
	for i, e := range list {
		copied[i] = copyEntry(e)
	}
	return copied
}

func sameEntries(a, b []impl.Entry) bool { return slices.EqualFunc(a, b, sameEntry) }

func TestHeadByHand(t *testing.T) {
	one := impl.Line{Account: 1, Dim: 2, Cur: 3, Amount: 4, Base: 5}
	two := impl.Line{Account: 6, Dim: 7, Cur: 8, Amount: -9, Base: -10}
	seven := impl.Entry{Day: 7, Ref: 3, Text: "x", Lines: []impl.Line{one}}
	for _, row := range []struct {
		list []impl.Entry
		want int
	}{
		{nil, 1},
		{[]impl.Entry{}, 1},
		{[]impl.Entry{{}}, 636538767384},
		{[]impl.Entry{{}, {}}, 313283479981},
		{[]impl.Entry{{Day: 1}}, 512554969538},
		{[]impl.Entry{{Ref: 1}}, 537033139602},
		{[]impl.Entry{{Text: "ab"}}, 1039332995486},
		{[]impl.Entry{{Text: "ba"}}, 939826367701},
		{[]impl.Entry{seven}, 117281265844},
		{[]impl.Entry{{Day: 7, Ref: 3, Text: "x", Lines: []impl.Line{one, two}}}, 345098536081},
		{[]impl.Entry{seven, {Day: 8, Text: "y z"}}, 142207385858},
		{[]impl.Entry{entryOf(3, "t", own(0, 0, 10), own(2, 0, -10))}, 722053483603},
		{[]impl.Entry{entryOf(7, "nought", own(2, 0, 27576711990), own(8, 0, -27576711990))}, 0},
	} {
		checkHead(t, row.list, row.want)
	}
}

func TestSomeHeads(t *testing.T) {
	chance := rand.New(rand.NewSource(52))
	for range 300 {
		list := []impl.Entry{}
		for range chance.Intn(6) {
			list = append(list, anyEntry(chance))
		}
		checkHead(t, list, wantHead(list))
	}
}

// An entry of any numbers that can be linked, right or not.
func anyEntry(chance *rand.Rand) impl.Entry {
	number := func() int {
		near := [4]int{leastLinked, 0, mostLinked - 4, chance.Intn(mostLinked)}[chance.Intn(4)]
		return near + chance.Intn(5)
	}
	text := make([]byte, chance.Intn(impl.MaxText+1))
	for i := range text {
		text[i] = byte(chance.Intn(256))
	}
	e := impl.Entry{Day: number(), Ref: number(), Text: string(text)}
	for range chance.Intn(5) {
		e.Lines = append(e.Lines, impl.Line{Account: number(), Dim: number(), Cur: number(), Amount: number(), Base: number()})
	}
	return e
}

func TestHeadOfManyEntries(t *testing.T) {
	list := slices.Repeat([]impl.Entry{saleOf(3, 5), {}}, impl.MaxEntries/2)
	checkHead(t, list[:impl.MaxEntries-1], wantHead(list[:impl.MaxEntries-1]))
	checkHead(t, list, wantHead(list))
	checkHead(t, append(list, impl.Entry{}), 0)
	checkHead(t, append(list, saleOf(3, 5), saleOf(4, 6)), 0)
	checkHead(t, make([]impl.Entry, impl.MaxEntries+1), 0)
}

// The entry stands alone, and first, second and last among others.
func checkHeadAmong(t *testing.T, e impl.Entry, linked bool) {
	t.Helper()
	a, b := saleOf(3, 5), saleOf(4, 6)
	for _, list := range [][]impl.Entry{{e}, {e, a, b}, {a, e, b}, {a, b, e}} {
		want := 0
		if linked {
			want = wantHead(list)
		}
		checkHead(t, list, want)
	}
}

func TestHeadOfManyLines(t *testing.T) {
	for count := range impl.MaxLines + 3 {
		checkHeadAmong(t, impl.Entry{Lines: slices.Repeat([]impl.Line{own(2, 1, 5)}, count)}, count <= impl.MaxLines)
	}
}

func TestHeadOfLongTexts(t *testing.T) {
	for count := range impl.MaxText + 3 {
		for _, b := range []string{"\x00", "m", "\xff"} {
			checkHeadAmong(t, impl.Entry{Text: strings.Repeat(b, count)}, count <= impl.MaxText)
		}
	}
}

// Pointers to all numbers of an entry that are fields.
func fieldsOf(e *impl.Entry) []*int {
	list := []*int{&e.Day, &e.Ref}
	for i := range e.Lines {
		n := &e.Lines[i]
		list = append(list, &n.Account, &n.Dim, &n.Cur, &n.Amount, &n.Base)
	}
	return list
}

func TestHeadNumbersAtTheEdge(t *testing.T) {
	e := entryOf(1, "edge", own(2, 1, 5), own(8, 1, -5))
	for _, field := range fieldsOf(&e) {
		kept := *field
		for _, *field = range []int{leastLinked, leastLinked + 1, -1, mostLinked - 1, mostLinked} {
			checkHeadAmong(t, e, true)
		}
		for _, *field = range []int{leastLinked - 1, math.MinInt, math.MinInt + 1, mostLinked + 1, math.MaxInt - 1, math.MaxInt} {
			checkHeadAmong(t, e, false)
		}
		*field = kept
	}
}

// What changes one number must change the head, and what changes it back must bring it back.
func checkChanges(t *testing.T, list []impl.Entry, field *int, values []int) {
	t.Helper()
	head, kept := impl.HeadOf(list), *field
	for _, *field = range values {
		if got := impl.HeadOf(list); *field != kept && got == head {
			t.Errorf("HeadOf is %d with a %d that was a %d too: %+v", got, *field, kept, list)
		}
	}
	*field = kept
	checkHead(t, list, head)
}

func TestEachNumberChangesTheHead(t *testing.T) {
	chance := rand.New(rand.NewSource(53))
	list := []impl.Entry{saleOf(3, 5), entryOf(9, "bought", foreign(4, 1, 2, 5, 50), foreign(6, 1, 2, -5, -50)), saleOf(9, 27)}
	for i := range list {
		for _, field := range fieldsOf(&list[i]) {
			values := []int{*field - 1, *field + 1, -*field, 0, leastLinked, mostLinked, leastLinked - 1, mostLinked + 1}
			for range 50 {
				values = append(values, leastLinked+chance.Intn(mostLinked)+chance.Intn(mostLinked))
			}
			checkChanges(t, list, field, values)
		}
	}
}

func TestEachByteChangesTheHead(t *testing.T) {
	list := []impl.Entry{saleOf(3, 5), entryOf(4, "some text\xff", own(2, 0, 1), own(8, 0, -1)), saleOf(9, 27)}
	head, kept := impl.HeadOf(list), list[1].Text
	for place := range len(kept) {
		for b := range 256 {
			text := []byte(kept)
			text[place] = byte(b)
			list[1].Text = string(text)
			if got := impl.HeadOf(list); (got == head) != (list[1].Text == kept) {
				t.Errorf("HeadOf is %d with the text %q, and %d with %q", got, text, head, kept)
			}
		}
	}
}

// The same numbers at other places make another head.
func TestOrderChangesTheHead(t *testing.T) {
	line := impl.Line{Account: 1, Dim: 2, Cur: 3, Amount: 4, Base: 5}
	e := impl.Entry{Day: 6, Ref: 7, Text: "89", Lines: []impl.Line{line, {Account: 10, Dim: 11, Cur: 12, Amount: 13, Base: 14}}}
	head := impl.HeadOf([]impl.Entry{e})
	fields := fieldsOf(&e)
	for i, a := range fields {
		for _, b := range fields[:i] {
			*a, *b = *b, *a
			if got := impl.HeadOf([]impl.Entry{e}); got == head {
				t.Errorf("HeadOf is %d with %d and %d in each other's place", got, *a, *b)
			}
			*a, *b = *b, *a
		}
	}
	checkHead(t, []impl.Entry{e}, head)
	if other := impl.HeadOf([]impl.Entry{saleOf(1, 1), e}); other == impl.HeadOf([]impl.Entry{e, saleOf(1, 1)}) {
		t.Errorf("HeadOf of two entries and of the two the other way round is %d", other)
	}
}

func TestHeadLeavesItsArgument(t *testing.T) {
	list := []impl.Entry{saleOf(3, 5), entryOf(4, "some", own(2, 0, 1), own(8, 0, -1), own(8, 0, 9)), saleOf(9, 27)}
	kept := copyEntries(list)
	list[1].Lines = list[1].Lines[:2]
	checkHead(t, list[:2], wantHead(list[:2]))
	list[1].Lines = list[1].Lines[:3]
	if !sameEntries(list, kept) {
		t.Errorf("HeadOf wrote into what it was given: %v", list)
	}
}
