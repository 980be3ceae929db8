package tests

import (
	"math"
	"math/rand"
	"slices"
	"testing"

	"loop.example/g00040/impl"
)

var noOpenAmounts = append([]int{0, -1, -impl.MaxMoney}, noAmounts...)

// Day, Amount and so on.
func openOf(pairs ...int) []impl.OpenItem {
	list := []impl.OpenItem{}
	for i := 0; i < len(pairs); i += 2 {
		list = append(list, impl.OpenItem{Day: pairs[i], Amount: pairs[i+1]})
	}
	return list
}

// Left, Right, Amount and so on.
func pairsOf(triples ...int) []impl.Pair {
	list := []impl.Pair{}
	for i := 0; i < len(triples); i += 3 {
		list = append(list, impl.Pair{Left: triples[i], Right: triples[i+1], Amount: triples[i+2]})
	}
	return list
}

func wantOpenOk(list []impl.OpenItem) bool {
	for _, o := range list {
		if !isDay(o.Day) || o.Amount <= 0 || !amount(o.Amount) {
			return false
		}
	}
	return len(list) <= impl.MaxOpen
}

func openTotal(list []impl.OpenItem) int {
	all := 0
	for _, o := range list {
		all += o.Amount
	}
	return all
}

// An item at its place, from where to where it reaches when all are laid end to end.
type stretch struct{ place, from, to int }

// The first of the least Day, then the first of those left, and so on: nothing is sorted.
func laidOut(list []impl.OpenItem) []stretch {
	row, end := []stretch{}, 0
	left := slices.Clone(list)
	for range list {
		oldest := 0
		for i, o := range left {
			if o.Day < left[oldest].Day {
				oldest = i
			}
		}
		row = append(row, stretch{place: oldest, from: end, to: end + left[oldest].Amount})
		end += left[oldest].Amount
		left[oldest].Day = math.MaxInt
	}
	return row
}

// As much is settled as a stretch of one side has in common with one of the other: nothing is taken off.
func wantSettle(paid, owed []impl.OpenItem) []impl.Pair {
	pairs := []impl.Pair{}
	if !wantOpenOk(paid) || !wantOpenOk(owed) {
		return pairs
	}
	for _, l := range laidOut(paid) {
		for _, r := range laidOut(owed) {
			if common := min(l.to, r.to) - max(l.from, r.from); common > 0 {
				pairs = append(pairs, impl.Pair{Left: l.place, Right: r.place, Amount: common})
			}
		}
	}
	return pairs
}

// Of each item what pairs took; an item is touched only when all that are older, or of its Day and ahead of it, are used up.
func checkTaken(t *testing.T, side string, list []impl.OpenItem, taken []int) {
	t.Helper()
	for i, o := range list {
		if taken[i] < 0 || taken[i] > o.Amount {
			t.Errorf("%s %v: %d is taken of place %d", side, list, taken[i], i)
		}
		for k, older := range list {
			if (older.Day < o.Day || older.Day == o.Day && k < i) && taken[i] > 0 && taken[k] != older.Amount {
				t.Errorf("%s %v: %d is taken of place %d, while place %d has something left", side, list, taken[i], i, k)
			}
		}
	}
}

// P34: no more of either side than there was, the oldest first, and one side is used up.
func checkSettlePromise(t *testing.T, paid, owed []impl.OpenItem, pairs []impl.Pair) {
	t.Helper()
	left, right, all := make([]int, len(paid)), make([]int, len(owed)), 0
	for _, p := range pairs {
		if p.Amount <= 0 {
			t.Errorf("Settle(%v, %v) = %v: a pair of %d", paid, owed, pairs, p.Amount)
		}
		left[p.Left] += p.Amount
		right[p.Right] += p.Amount
		all += p.Amount
	}
	checkTaken(t, "paid", paid, left)
	checkTaken(t, "owed", owed, right)
	if all != min(openTotal(paid), openTotal(owed)) {
		t.Errorf("Settle(%v, %v) = %v: together %d", paid, owed, pairs, all)
	}
}

func checkSettle(t *testing.T, paid, owed []impl.OpenItem, want ...impl.Pair) {
	t.Helper()
	got := impl.Settle(paid, owed)
	if !slices.Equal(got, want) || !slices.Equal(wantSettle(paid, owed), want) {
		t.Errorf("Settle(%v, %v) = %v; want %v", paid, owed, got, want)
		return
	}
	checkSettlePromise(t, paid, owed, got)
}

func refuseSettle(t *testing.T, paid, owed []impl.OpenItem) {
	t.Helper()
	if got := impl.Settle(paid, owed); len(got) != 0 || wantOpenOk(paid) && wantOpenOk(owed) {
		t.Errorf("Settle(%v, %v) = %v; want nothing", paid[:min(4, len(paid))], owed[:min(4, len(owed))], got)
	}
}

func TestSettleByHand(t *testing.T) {
	checkSettle(t, openOf(5, 10), openOf(7, 10), pairsOf(0, 0, 10)...)
	checkSettle(t, openOf(5, 10), openOf(7, 9), pairsOf(0, 0, 9)...)
	checkSettle(t, openOf(5, 9), openOf(7, 10), pairsOf(0, 0, 9)...)
	checkSettle(t, openOf(5, 10), openOf(1, 3, 2, 3, 3, 3, 4, 3), pairsOf(0, 0, 3, 0, 1, 3, 0, 2, 3, 0, 3, 1)...)
	checkSettle(t, openOf(1, 3, 2, 3, 3, 3, 4, 3), openOf(5, 10), pairsOf(0, 0, 3, 1, 0, 3, 2, 0, 3, 3, 0, 1)...)
	checkSettle(t, openOf(1, 4, 2, 6), openOf(1, 7, 2, 3), pairsOf(0, 0, 4, 1, 0, 3, 1, 1, 3)...)
	// What is owed may be younger than what was paid, and the other way round.
	checkSettle(t, openOf(100, 4), openOf(1, 4), pairsOf(0, 0, 4)...)
	checkSettle(t, openOf(1, 4), openOf(100, 4), pairsOf(0, 0, 4)...)
}

func TestSettleOfAnEmptySide(t *testing.T) {
	checkSettle(t, nil, nil)
	checkSettle(t, nil, openOf(1, 3, 2, 4))
	checkSettle(t, openOf(1, 3, 2, 4), nil)
	checkSettle(t, []impl.OpenItem{}, openOf(1, 3))
	checkSettle(t, openOf(1, 3), []impl.OpenItem{})
}

// The items do not stand by their days.
func TestSettleTakesTheOldestFirst(t *testing.T) {
	checkSettle(t, openOf(9, 1, 5, 2, 7, 3), openOf(4, 6), pairsOf(1, 0, 2, 2, 0, 3, 0, 0, 1)...)
	checkSettle(t, openOf(4, 6), openOf(9, 1, 5, 2, 7, 3), pairsOf(0, 1, 2, 0, 2, 3, 0, 0, 1)...)
	checkSettle(t, openOf(4, 4), openOf(9, 1, 5, 2, 7, 3), pairsOf(0, 1, 2, 0, 2, 2)...)
	checkSettle(t, openOf(3, 5, 2, 5, 1, 5), openOf(6, 4, 5, 4, 4, 4), pairsOf(2, 2, 4, 2, 1, 1, 1, 1, 3, 1, 0, 2, 0, 0, 2)...)
	checkSettle(t, openOf(impl.MaxDay, 5, 0, 5), openOf(impl.MaxDay, 3, 0, 3), pairsOf(1, 1, 3, 1, 0, 2, 0, 0, 1)...)
}

func TestSettleOfOneDay(t *testing.T) {
	checkSettle(t, openOf(5, 1, 5, 2, 5, 3), openOf(5, 6), pairsOf(0, 0, 1, 1, 0, 2, 2, 0, 3)...)
	checkSettle(t, openOf(5, 6), openOf(5, 3, 5, 1, 5, 2), pairsOf(0, 0, 3, 0, 1, 1, 0, 2, 2)...)
	checkSettle(t, openOf(5, 1, 4, 2, 5, 3, 4, 4), openOf(5, 10), pairsOf(1, 0, 2, 3, 0, 4, 0, 0, 1, 2, 0, 3)...)
	checkSettle(t, openOf(0, 4), openOf(9, 2, 9, 1, 9, 2, 8, 1), pairsOf(0, 3, 1, 0, 0, 2, 0, 1, 1)...)
	// More of one day than a short sort would leave in their order by chance.
	paid, want := []impl.OpenItem{}, []impl.Pair{}
	for i := range impl.MaxOpen {
		paid = append(paid, impl.OpenItem{Day: 7 + i%2, Amount: i + 1})
	}
	for _, odd := range []int{0, 1} {
		for i := odd; i < impl.MaxOpen; i += 2 {
			want = append(want, impl.Pair{Left: i, Amount: i + 1})
		}
	}
	checkSettle(t, paid, openOf(3, openTotal(paid)), want...)
}

func TestSettleOfItemsThatEndAtOnce(t *testing.T) {
	checkSettle(t, openOf(1, 3, 2, 4), openOf(1, 3, 2, 4), pairsOf(0, 0, 3, 1, 1, 4)...)
	checkSettle(t, openOf(1, 3, 2, 4, 3, 5), openOf(1, 7, 2, 5), pairsOf(0, 0, 3, 1, 0, 4, 2, 1, 5)...)
	checkSettle(t, openOf(1, 7, 2, 5), openOf(1, 3, 2, 4, 3, 5), pairsOf(0, 0, 3, 0, 1, 4, 1, 2, 5)...)
	checkSettle(t, openOf(1, 7), openOf(1, 3, 2, 4, 3, 5), pairsOf(0, 0, 3, 0, 1, 4)...)
}

func manyOpen(count, amount int) []impl.OpenItem {
	list := make([]impl.OpenItem, count)
	for i := range list {
		list[i] = impl.OpenItem{Day: i, Amount: amount}
	}
	return list
}

func TestHowManyOpenItemsThereMayBe(t *testing.T) {
	for _, count := range []int{1, 2, impl.MaxOpen - 1, impl.MaxOpen} {
		one, want, turned := openOf(0, 2*count), []impl.Pair{}, []impl.Pair{}
		for i := range count {
			want = append(want, impl.Pair{Left: i, Amount: 2})
			turned = append(turned, impl.Pair{Right: i, Amount: 2})
		}
		checkSettle(t, manyOpen(count, 2), one, want...)
		checkSettle(t, one, manyOpen(count, 2), turned...)
		checkSettle(t, manyOpen(count, 2), nil)
	}
	for _, count := range []int{impl.MaxOpen + 1, impl.MaxOpen + 2, 10000} {
		refuseSettle(t, manyOpen(count, 2), openOf(0, 9))
		refuseSettle(t, openOf(0, 9), manyOpen(count, 2))
		refuseSettle(t, manyOpen(count, 2), manyOpen(count, 2))
		refuseSettle(t, manyOpen(impl.MaxOpen, 2), manyOpen(count, 2))
	}
	// As many pairs as there can be.
	most := append(openOf(0, 1), manyOpen(impl.MaxOpen-1, 2)...)
	if got := impl.Settle(most, manyOpen(impl.MaxOpen, 2)); len(got) != 2*impl.MaxOpen-1 {
		t.Errorf("%d pairs", len(got))
	}
	checkSettle(t, most, manyOpen(impl.MaxOpen, 2), wantSettle(most, manyOpen(impl.MaxOpen, 2))...)
}

func TestSettleOfAmounts(t *testing.T) {
	for _, a := range []int{1, 2, impl.MaxMoney - 1, impl.MaxMoney} {
		for _, b := range []int{1, 2, impl.MaxMoney - 1, impl.MaxMoney} {
			checkSettle(t, openOf(3, a), openOf(4, b), pairsOf(0, 0, min(a, b))...)
		}
	}
	all := manyOpen(impl.MaxOpen, impl.MaxMoney) // together far beyond the amounts
	checkSettle(t, all, all, wantSettle(all, all)...)
	for _, none := range noOpenAmounts {
		refuseSettle(t, openOf(3, none), openOf(4, 5))
		refuseSettle(t, openOf(3, 5), openOf(4, none))
		refuseSettle(t, openOf(3, 5, 4, none), openOf(4, 5)) // also where the others are enough
		refuseSettle(t, openOf(3, 5), openOf(4, 5, 9, none))
		refuseSettle(t, openOf(3, none), nil)
		refuseSettle(t, nil, openOf(3, none))
	}
}

func TestSettleOfDays(t *testing.T) {
	checkSettle(t, openOf(0, 5), openOf(impl.MaxDay, 5), pairsOf(0, 0, 5)...)
	checkSettle(t, openOf(impl.MaxDay, 5), openOf(0, 5), pairsOf(0, 0, 5)...)
	for _, none := range noDays {
		refuseSettle(t, openOf(none, 5), openOf(4, 5))
		refuseSettle(t, openOf(3, 5), openOf(none, 5))
		refuseSettle(t, openOf(3, 5, none, 5), openOf(4, 5))
		refuseSettle(t, openOf(3, 5), openOf(4, 5, none, 5))
		refuseSettle(t, openOf(none, 5), nil)
	}
}

func someOpen(chance *rand.Rand, count, days, most int) []impl.OpenItem {
	list := make([]impl.OpenItem, count)
	for i := range list {
		list[i] = impl.OpenItem{Day: chance.Intn(days), Amount: 1 + chance.Intn(most)}
	}
	return list
}

func TestSomeSettles(t *testing.T) {
	chance := rand.New(rand.NewSource(136))
	settled, none := 0, 0
	for range 4000 {
		most := []int{3, 10, impl.MaxMoney}[chance.Intn(3)]
		paid, owed := someOpen(chance, chance.Intn(12), 6, most), someOpen(chance, chance.Intn(12), 6, most)
		if chance.Intn(50) == 0 {
			paid, owed = someOpen(chance, impl.MaxOpen, 30, most), someOpen(chance, impl.MaxOpen-chance.Intn(9), 30, most)
		}
		if chance.Intn(8) == 0 && len(owed) > 0 {
			owed[chance.Intn(len(owed))].Amount = noOpenAmounts[chance.Intn(len(noOpenAmounts))]
		}
		if chance.Intn(8) == 0 && len(paid) > 0 {
			paid[chance.Intn(len(paid))].Day = noDays[chance.Intn(len(noDays))]
		}
		if !wantOpenOk(paid) || !wantOpenOk(owed) {
			refuseSettle(t, paid, owed)
			none++
			continue
		}
		checkSettle(t, paid, owed, wantSettle(paid, owed)...)
		settled++
	}
	if settled < 2000 || none < 500 {
		t.Errorf("%d settled, %d not", settled, none)
	}
}

// Behind the lists stands more, which is neither read nor written; what is answered is new each time.
func TestSettleLeavesItsLists(t *testing.T) {
	paid, owed := openOf(9, 1, 5, 2, 7, 3, 1, 0, 0, 7), openOf(4, 2, 3, 9, -1, 7, 0, 8)
	keptPaid, keptOwed := slices.Clone(paid), slices.Clone(owed)
	want := pairsOf(1, 1, 2, 2, 1, 3, 0, 1, 1)
	checkSettle(t, paid[:3], owed[:2], want...)
	first := impl.Settle(paid[:3], owed[:2])
	for i := range first[:cap(first)] {
		first[:cap(first)][i] = impl.Pair{Left: -7, Right: -7, Amount: -7}
	}
	checkSettle(t, paid[:3], owed[:2], want...)
	checkSettle(t, paid[:1], owed[:1], pairsOf(0, 0, 1)...)
	checkSettle(t, paid[:0], owed[:2])
	refuseSettle(t, paid[:4], owed[:2])
	refuseSettle(t, paid[:3], owed[:3])
	// One list on both sides.
	checkSettle(t, paid[:3], paid[:3], pairsOf(1, 1, 2, 2, 2, 3, 0, 0, 1)...)
	if !slices.Equal(paid, keptPaid) || !slices.Equal(owed, keptOwed) {
		t.Error("what was paid or owed was written into")
	}
}
