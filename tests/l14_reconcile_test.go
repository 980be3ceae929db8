package tests

import (
	"fmt"
	"math"
	"math/rand"
	"slices"
	"strings"
	"testing"

	"loop.example/g00040/impl"
)

var noStatAmounts = append([]int{0}, noAmounts...)

// Ref and Amount of each, as "a 30, b -7".
func statsOf(text string) []impl.Stat {
	list := []impl.Stat{}
	for _, part := range strings.Split(text, ", ") {
		var s impl.Stat
		if _, err := fmt.Sscan(part, &s.Ref, &s.Amount); err == nil {
			list = append(list, s)
		}
	}
	return list
}

func wantStatsOk(list []impl.Stat) bool {
	for _, s := range list {
		if !accountName.MatchString(s.Ref) || s.Amount == 0 || !amount(s.Amount) {
			return false
		}
	}
	return len(list) <= impl.MaxStats
}

// Both sides with what is done with; what an item of the books has is never changed.
type reconciling struct {
	books, bank         []impl.Stat
	booksDone, bankDone []bool
	pairs               []impl.Pair
}

func (r *reconciling) match(left, right int) {
	r.pairs = append(r.pairs, impl.Pair{Left: left, Right: right, Amount: r.bank[right].Amount})
	r.bankDone[right] = true
}

func countOf(list []impl.Stat, done []bool, amount int) int {
	count := 0
	for i, s := range list {
		if !done[i] && s.Amount == amount {
			count++
		}
	}
	return count
}

func (r *reconciling) first() {
	for i, b := range r.books {
		for k, s := range r.bank {
			if !r.booksDone[i] && !r.bankDone[k] && s.Ref == b.Ref && s.Amount == b.Amount {
				r.match(i, k)
				r.booksDone[i] = true
			}
		}
	}
}

func (r *reconciling) second() {
	for i, b := range r.books {
		if r.booksDone[i] || countOf(r.books, r.booksDone, b.Amount) != 1 || countOf(r.bank, r.bankDone, b.Amount) != 1 {
			continue
		}
		for k, s := range r.bank {
			if !r.bankDone[k] && s.Amount == b.Amount {
				r.match(i, k)
				r.booksDone[i] = true
			}
		}
	}
}

func (r *reconciling) third() {
	for i, b := range r.books {
		count, all := 0, 0
		for k, s := range r.bank {
			if !r.bankDone[k] && s.Ref == b.Ref {
				count, all = count+1, all+s.Amount
			}
		}
		if r.booksDone[i] || count < 2 || all != b.Amount {
			continue
		}
		r.booksDone[i] = true
		for k, s := range r.bank {
			if !r.bankDone[k] && s.Ref == b.Ref {
				r.match(i, k)
			}
		}
	}
}

func (r *reconciling) fourth() {
	for i, b := range r.books {
		if r.booksDone[i] {
			continue
		}
		left := math.Abs(float64(b.Amount)) // all amounts are whole floats
		for k, s := range r.bank {
			size := math.Abs(float64(s.Amount))
			if !r.bankDone[k] && s.Ref == b.Ref && (s.Amount < 0) == (b.Amount < 0) && size < left {
				r.match(i, k)
				left -= size
			}
		}
	}
}

func wantReconcile(books, bank []impl.Stat) []impl.Pair {
	if !wantStatsOk(books) || !wantStatsOk(bank) {
		return nil
	}
	r := &reconciling{books: books, bank: bank, booksDone: make([]bool, len(books)), bankDone: make([]bool, len(bank))}
	r.first()
	r.second()
	r.third()
	r.fourth()
	return r.pairs
}

// P41: nothing of the bank twice, each whole, and of an item of the books no more than it is.
func checkReconcilePromise(t *testing.T, books, bank []impl.Stat, pairs []impl.Pair) {
	t.Helper()
	used, matched := make([]bool, len(bank)), make([]int, len(books))
	for _, p := range pairs {
		if used[p.Right] || p.Amount != bank[p.Right].Amount {
			t.Errorf("Reconcile(%v, %v) = %v: the pair %v", books, bank, pairs, p)
		}
		used[p.Right] = true
		matched[p.Left] += p.Amount
	}
	for i, b := range books {
		if m := matched[i]; m != 0 && (m < 0) != (b.Amount < 0) || max(m, -m) > max(b.Amount, -b.Amount) {
			t.Errorf("Reconcile(%v, %v) = %v: place %d has %d", books, bank, pairs, i, m)
		}
	}
}

func checkReconcileOf(t *testing.T, books, bank []impl.Stat, want ...impl.Pair) {
	t.Helper()
	got := impl.Reconcile(books, bank)
	if !slices.Equal(got, want) || !slices.Equal(wantReconcile(books, bank), want) || !wantStatsOk(books) || !wantStatsOk(bank) {
		t.Errorf("Reconcile(%v, %v) = %v; want %v", books[:min(6, len(books))], bank[:min(6, len(bank))], got, want)
		return
	}
	checkReconcilePromise(t, books, bank, got)
}

// Left, Right, Amount and so on.
func checkReconcile(t *testing.T, books, bank string, want ...int) {
	t.Helper()
	checkReconcileOf(t, statsOf(books), statsOf(bank), pairsOf(want...)...)
}

func refuseReconcile(t *testing.T, books, bank []impl.Stat) {
	t.Helper()
	if got := impl.Reconcile(books, bank); len(got) != 0 || wantStatsOk(books) && wantStatsOk(bank) {
		t.Errorf("Reconcile(%v, %v) = %v; want nothing", books[:min(6, len(books))], bank[:min(6, len(bank))], got)
	}
}

func TestReconcileByHand(t *testing.T) {
	checkReconcile(t, "a 30, b 7, c 100", "a 10, c 40, a 20, z 7, c -5", 1, 3, 7, 0, 0, 10, 0, 2, 20, 2, 1, 40)
	checkReconcile(t, "a 5, b 6, c 9, d 100", "d 30, c 4, x 6, a 5, c 5, d 80, d 10", 0, 3, 5, 1, 2, 6, 2, 1, 4, 2, 4, 5, 3, 0, 30, 3, 6, 10)
}

func TestReconcileOfAnEmptySide(t *testing.T) {
	checkReconcile(t, "", "")
	checkReconcile(t, "a 5, b 6", "")
	checkReconcile(t, "", "a 5, b 6")
	checkReconcileOf(t, nil, nil)
	checkReconcileOf(t, []impl.Stat{}, statsOf("a 5"))
	checkReconcileOf(t, statsOf("a 5"), nil)
	refuseReconcile(t, nil, statsOf("a 0"))
	refuseReconcile(t, statsOf("a 0"), nil)
}

func manyStats(count int) []impl.Stat {
	list := make([]impl.Stat, count)
	for i := range list {
		list[i] = impl.Stat{Ref: fmt.Sprint("r", i), Amount: i + 1}
	}
	return list
}

func TestHowManyStatsThereMayBe(t *testing.T) {
	for _, count := range []int{1, 2, impl.MaxStats - 1, impl.MaxStats} {
		list, want, turned := manyStats(count), []impl.Pair{}, []impl.Pair{}
		for i := range count {
			want = append(want, impl.Pair{Left: i, Right: i, Amount: i + 1})
			turned = append(turned, impl.Pair{Left: i, Right: count - 1 - i, Amount: i + 1})
		}
		checkReconcileOf(t, list, list, want...)
		back := slices.Clone(list)
		slices.Reverse(back)
		checkReconcileOf(t, list, back, turned...)
		checkReconcileOf(t, list, statsOf("z 1"), pairsOf(0, 0, 1)...)
		checkReconcileOf(t, statsOf("z 1"), list, pairsOf(0, 0, 1)...)
	}
	for _, count := range []int{impl.MaxStats + 1, impl.MaxStats + 2, 1000, 100000} {
		refuseReconcile(t, manyStats(count), manyStats(2))
		refuseReconcile(t, manyStats(2), manyStats(count))
		refuseReconcile(t, manyStats(count), manyStats(count))
		refuseReconcile(t, manyStats(count), nil)
		refuseReconcile(t, nil, manyStats(count))
		refuseReconcile(t, make([]impl.Stat, count), manyStats(2))
	}
}

// The item that is none stands on either side, alone and among others.
func refuseStat(t *testing.T, s impl.Stat) {
	t.Helper()
	right := statsOf("a 5, b 6")
	for at := range 3 {
		with := slices.Insert(slices.Clone(right), at, s)
		refuseReconcile(t, with, right)
		refuseReconcile(t, right, with)
		refuseReconcile(t, with, with)
	}
	refuseReconcile(t, []impl.Stat{s}, right)
	refuseReconcile(t, right, []impl.Stat{s})
	refuseReconcile(t, []impl.Stat{s}, nil)
	refuseReconcile(t, nil, []impl.Stat{s})
}

func TestStatsThatAreNone(t *testing.T) {
	for _, ref := range barNames {
		refuseStat(t, impl.Stat{Ref: ref, Amount: 5})
		refuseStat(t, impl.Stat{Ref: ref, Amount: 0})
	}
	for _, a := range noStatAmounts {
		refuseStat(t, impl.Stat{Ref: "a", Amount: a})
		refuseStat(t, impl.Stat{Ref: "zz", Amount: a})
	}
	refuseStat(t, impl.Stat{})
	for _, a := range []int{1, -1, 2, impl.MaxMoney - 1, impl.MaxMoney, -impl.MaxMoney + 1, -impl.MaxMoney} {
		for _, ref := range []string{"a", "-", "0", strings.Repeat("n", impl.MaxName)} {
			list := []impl.Stat{{Ref: ref, Amount: a}}
			checkReconcileOf(t, list, list, pairsOf(0, 0, a)...)
		}
	}
}

// Ref and Amount alike.
func TestFirstRound(t *testing.T) {
	checkReconcile(t, "a 5", "a 5", 0, 0, 5)
	checkReconcile(t, "a -5", "a -5", 0, 0, -5)
	// The first of several.
	checkReconcile(t, "a 5", "b 5, a 5, a 5", 0, 1, 5)
	checkReconcile(t, "a 5, a 5", "b 4, a 5, c 9, a 5, a 5", 0, 1, 5, 1, 3, 5)
	checkReconcile(t, "a 5, a 5, a 5", "a 5, a 5, b 6", 0, 0, 5, 1, 1, 5)
	// In the order of the books, each with its own.
	checkReconcile(t, "b 6, a 5, c 7", "c 7, a 5, b 6", 0, 2, 6, 1, 1, 5, 2, 0, 7)
	checkReconcile(t, "a 5, a 6, b 5", "b 5, a 6, a 5", 0, 2, 5, 1, 1, 6, 2, 0, 5)
	// Neither a Ref nor an Amount alone, nor one that begins alike.
	checkReconcile(t, "a 5, b 5", "ab 5, A 5")
	checkReconcile(t, "a 5", "a -5")
	checkReconcile(t, "a -5", "a 5")
}

// One Amount that stands just once on each side.
func TestSecondRound(t *testing.T) {
	checkReconcile(t, "a 5", "b 5", 0, 0, 5)
	checkReconcile(t, "a -5", "b -5", 0, 0, -5)
	checkReconcile(t, "a -5", "b 5")
	checkReconcile(t, "a 5, b 6", "x 6, y 5", 0, 1, 5, 1, 0, 6)
	// Twice in the bank, twice in the books, and twice in both.
	checkReconcile(t, "a 5", "x 5, y 5")
	checkReconcile(t, "a 5, b 5", "x 5")
	checkReconcile(t, "a 5, b 5", "x 5, y 5")
	checkReconcile(t, "a 5, b 5, c 6", "x 5, z 6, y 5", 2, 1, 6)
	checkReconcile(t, "a 5", "x 5, y 5, z 5")
	// What the first round used is not counted, on either side.
	checkReconcile(t, "a 5, b 5", "b 5, x 5", 1, 0, 5, 0, 1, 5)
	checkReconcile(t, "a 5, b 5", "x 5, b 5", 1, 1, 5, 0, 0, 5)
	checkReconcile(t, "a 5, b 5, c 5", "b 5, x 5, c 5", 1, 0, 5, 2, 2, 5, 0, 1, 5)
	checkReconcile(t, "a 5, b 5, c 5", "b 5, x 5", 1, 0, 5)
	checkReconcile(t, "a 5, b 5", "b 5, x 5, y 5", 1, 0, 5)
	// The Ref of what is matched may be another item's.
	checkReconcile(t, "a 5, b 9", "b 5, a 9", 0, 0, 5, 1, 1, 9)
	checkReconcile(t, "a 5, b 9", "b 5", 0, 0, 5) // so it is no part of b any more
}

// At least two of one Ref, together the Amount.
func TestThirdRound(t *testing.T) {
	checkReconcile(t, "a 30", "a 10, a 20", 0, 0, 10, 0, 1, 20)
	checkReconcile(t, "a 30", "a 5, b 10, a 10, a 15", 0, 0, 5, 0, 2, 10, 0, 3, 15)
	checkReconcile(t, "a -30", "a -10, a -20", 0, 0, -10, 0, 1, -20)
	// Of unlike signs.
	checkReconcile(t, "a 30", "a 40, a -10", 0, 0, 40, 0, 1, -10)
	checkReconcile(t, "a 30", "a -10, a 40", 0, 0, -10, 0, 1, 40)
	checkReconcile(t, "a -30", "a -40, a 20, a -10", 0, 0, -40, 0, 1, 20, 0, 2, -10)
	checkReconcile(t, "a 30", "a 31, a 30, a -31", 0, 1, 30) // the first round took one of them
	checkReconcile(t, "a 30, b 7", "a 30, a 7, a -7", 0, 0, 30, 1, 1, 7)
	// One alone is not enough, and all are taken or none.
	checkReconcile(t, "a 30, b 30", "a 29, a 1, b 30", 1, 2, 30, 0, 0, 29, 0, 1, 1)
	checkReconcile(t, "a 30", "a 10, a 20, a 40", 0, 0, 10)
	checkReconcile(t, "a 30", "a 20, a 20", 0, 0, 20)
	checkReconcile(t, "a 30", "a 20, b 10", 0, 0, 20)
	// The first of the books with that Ref whose Amount it is.
	checkReconcile(t, "a 29, a 30, a 30", "a 10, a 20", 1, 0, 10, 1, 1, 20)
	checkReconcile(t, "a 30, a 30, a 30", "a 10, a 20", 0, 0, 10, 0, 1, 20)
	checkReconcile(t, "a 30, b 30", "b 10, a 10, b 20, a 20", 0, 1, 10, 0, 3, 20, 1, 0, 10, 1, 2, 20)
	// What earlier rounds used is not counted.
	checkReconcile(t, "a 5, a 30", "a 10, a 5, a 20", 0, 1, 5, 1, 0, 10, 1, 2, 20)
	checkReconcile(t, "b 5, a 30", "a 10, a 5, a 20", 0, 1, 5, 1, 0, 10, 1, 2, 20)
	checkReconcile(t, "a 15, b 10", "a 10, a 5", 1, 0, 10, 0, 1, 5) // the second round takes what the third would need
	// Together beyond the amounts.
	most := fmt.Sprint("a ", impl.MaxMoney)
	checkReconcile(t, "a 5", most+", "+most+", "+most)
	checkReconcile(t, "a 1", fmt.Sprintf("a %d, a %d", impl.MaxMoney, 1-impl.MaxMoney), 0, 0, impl.MaxMoney, 0, 1, 1-impl.MaxMoney)
	checkReconcile(t, most, fmt.Sprintf("a %d, a 1", impl.MaxMoney-1), 0, 0, impl.MaxMoney-1, 0, 1, 1)
}

// Parts of an item, as long as each is nearer to 0 than what is left.
func TestFourthRound(t *testing.T) {
	checkReconcile(t, "c 100", "c 40", 0, 0, 40)
	checkReconcile(t, "c 100", "c 99", 0, 0, 99)
	checkReconcile(t, "c 100", "c 101")
	checkReconcile(t, "c -100", "c -40", 0, 0, -40)
	checkReconcile(t, "c -100", "c -101")
	// Another sign, another Ref.
	checkReconcile(t, "c 100", "c -40")
	checkReconcile(t, "c -100", "c 40")
	checkReconcile(t, "c 100", "d 40, C 40, cc 40")
	checkReconcile(t, "c 100", "c -40, c 30, c -20, c 50", 0, 1, 30, 0, 3, 50)
	// Just as near as what is left is not nearer.
	checkReconcile(t, "c 100", "c 60, c 40, c 5", 0, 0, 60, 0, 2, 5)
	checkReconcile(t, "c 100", "c 60, c 39, c 5", 0, 0, 60, 0, 1, 39)
	checkReconcile(t, "c 100", "c 60, c 39, c 1, c 7", 0, 0, 60, 0, 1, 39)
	checkReconcile(t, "c 100", "c 60, c 41, c 39", 0, 0, 60, 0, 2, 39)
	checkReconcile(t, "c -100", "c -60, c -40, c -5", 0, 0, -60, 0, 2, -5)
	checkReconcile(t, "c -100", "c -60, c -41, c -39", 0, 0, -60, 0, 2, -39)
	checkReconcile(t, "c 100, d 100", "c 100, c 100", 0, 0, 100, 1, 1, 100)
	checkReconcile(t, "c 100, d 100, e 100", "c 100, c 100", 0, 0, 100) // one Amount of two, and of the other Ref
	checkReconcile(t, "c 1", "c 2, c 3")
	checkReconcile(t, "c 2", "c 1", 0, 0, 1)
	// Several of the books with one Ref, in their order.
	checkReconcile(t, "c 100, c 50", "c 60, c 45, c 30", 0, 0, 60, 0, 2, 30, 1, 1, 45)
	checkReconcile(t, "c 50, c 100", "c 60, c 45, c 30", 0, 1, 45, 1, 0, 60, 1, 2, 30)
	checkReconcile(t, "c 10, c 10, c 10", "c 9, c 9, c 2", 0, 0, 9, 1, 1, 9, 2, 2, 2)
	checkReconcile(t, "c 10, c -10, c 10", "c -9, c 9, c 2, c -3", 0, 1, 9, 1, 0, -9, 2, 2, 2)
	// An item that was matched takes part no more, and what it used neither.
	checkReconcile(t, "c 100, c 40", "c 40, c 30", 1, 0, 40, 0, 1, 30)
	checkReconcile(t, "c 100, b 40", "c 40, c 30", 1, 0, 40, 0, 1, 30)
	checkReconcile(t, "c 70, c 100", "c 40, c 30", 0, 0, 40, 0, 1, 30)
	checkReconcileOf(t, []impl.Stat{{Ref: "c", Amount: impl.MaxMoney}}, []impl.Stat{{Ref: "c", Amount: impl.MaxMoney - 2}, {Ref: "c", Amount: 1}, {Ref: "c", Amount: 1}, {Ref: "c", Amount: 1}}, pairsOf(0, 0, impl.MaxMoney-2, 0, 1, 1)...)
}

// Pairs stand by rounds, whatever the places.
func TestRoundsOneBehindTheOther(t *testing.T) {
	checkReconcile(t, "d 100, c 9, b 6, a 5", "d 30, c 4, x 6, a 5, c 5", 3, 3, 5, 2, 2, 6, 1, 1, 4, 1, 4, 5, 0, 0, 30)
	checkReconcile(t, "d 100, a 5, d 90, b 6", "d 30, a 5, d 60, y 6", 1, 1, 5, 3, 3, 6, 2, 0, 30, 2, 2, 60)
}

// As many of one Ref as there may be: the parts of the first item are all that fit.
func TestReconcileOfManyParts(t *testing.T) {
	ones := slices.Repeat(statsOf("c 2"), impl.MaxStats)
	for _, whole := range []int{3, 2*impl.MaxStats - 1, 2 * impl.MaxStats, 2*impl.MaxStats + 1} {
		want := []impl.Pair{}
		for i := range min((whole-1)/2, impl.MaxStats) {
			want = append(want, impl.Pair{Right: i, Amount: 2})
		}
		if whole == 2*impl.MaxStats { // together they are just the item
			want = append(want, impl.Pair{Right: impl.MaxStats - 1, Amount: 2})
		}
		checkReconcileOf(t, []impl.Stat{{Ref: "c", Amount: whole}}, ones, want...)
	}
	books := slices.Repeat(statsOf("c 3"), impl.MaxStats)
	want := []impl.Pair{}
	for i := range impl.MaxStats {
		want = append(want, impl.Pair{Left: i, Right: i, Amount: 2})
	}
	checkReconcileOf(t, books, ones, want...)
}

func someStats(chance *rand.Rand, count, refs, most int) []impl.Stat {
	list := make([]impl.Stat, count)
	for i := range list {
		a := 1 + chance.Intn(most)
		if chance.Intn(4) == 0 {
			a = -a
		}
		list[i] = impl.Stat{Ref: string(rune('a' + chance.Intn(refs))), Amount: a}
	}
	return list
}

// An item of the books is made of some of the bank's, so that each round finds something.
func mixStats(chance *rand.Rand, books, bank []impl.Stat) {
	for i := range books {
		if len(bank) == 0 || chance.Intn(3) == 0 {
			continue
		}
		ref := bank[chance.Intn(len(bank))].Ref
		all := 0
		for _, s := range bank {
			if s.Ref == ref && chance.Intn(4) > 0 {
				all += s.Amount
			}
		}
		if all += chance.Intn(2) * chance.Intn(3); all != 0 && amount(all) {
			books[i] = impl.Stat{Ref: ref, Amount: all}
		}
	}
}

func TestSomeReconciles(t *testing.T) {
	chance := rand.New(rand.NewSource(146))
	matched, none := 0, 0
	rounds := [4]int{}
	for range 10000 {
		most := []int{4, 12, 100, impl.MaxMoney}[chance.Intn(4)]
		books, bank := someStats(chance, chance.Intn(9), 5, most), someStats(chance, chance.Intn(9), 5, most)
		if chance.Intn(50) == 0 {
			books, bank = someStats(chance, impl.MaxStats-chance.Intn(2), 20, most), someStats(chance, impl.MaxStats-chance.Intn(2), 20, most)
		}
		mixStats(chance, books, bank)
		if chance.Intn(8) == 0 && len(books) > 0 {
			books[chance.Intn(len(books))].Amount = noStatAmounts[chance.Intn(len(noStatAmounts))]
		}
		if chance.Intn(8) == 0 && len(bank) > 0 {
			bank[chance.Intn(len(bank))].Ref = noNames[chance.Intn(len(noNames))]
		}
		if !wantStatsOk(books) || !wantStatsOk(bank) {
			refuseReconcile(t, books, bank)
			none++
			continue
		}
		checkReconcileOf(t, books, bank, wantReconcile(books, bank)...)
		matched++
		r := &reconciling{books: books, bank: bank, booksDone: make([]bool, len(books)), bankDone: make([]bool, len(bank))}
		for i, round := range []func(){r.first, r.second, r.third, r.fourth} {
			ahead := len(r.pairs)
			round()
			rounds[i] += min(len(r.pairs)-ahead, 1)
		}
	}
	if matched < 5000 || none < 1000 || slices.Min(rounds[:]) < 500 {
		t.Errorf("%d matched, %d not; by rounds %v", matched, none, rounds)
	}
}

// Behind the lists stands more, which is neither read nor written; what is answered is new each time.
func TestReconcileLeavesItsLists(t *testing.T) {
	books, bank := statsOf("a 30, b 7, c 100, d 0, z 9"), statsOf("a 10, c 40, a 20, z 7, c -5, e 0, z 9")
	keptBooks, keptBank := slices.Clone(books), slices.Clone(bank)
	want := pairsOf(1, 3, 7, 0, 0, 10, 0, 2, 20, 2, 1, 40)
	checkReconcileOf(t, books[:3], bank[:5], want...)
	first := impl.Reconcile(books[:3], bank[:5])
	for i := range first[:cap(first)] {
		first[:cap(first)][i] = impl.Pair{Left: -7, Right: -7, Amount: -7}
	}
	checkReconcileOf(t, books[:3], bank[:5], want...)
	checkReconcileOf(t, books[:1], bank[:1], pairsOf(0, 0, 10)...)
	checkReconcileOf(t, books[:0], bank[:5])
	refuseReconcile(t, books[:4], bank[:5])
	refuseReconcile(t, books[:3], bank[:6])
	// One list on both sides.
	checkReconcileOf(t, books[:3], books[:3], pairsOf(0, 0, 30, 1, 1, 7, 2, 2, 100)...)
	if !slices.Equal(books, keptBooks) || !slices.Equal(bank, keptBank) {
		t.Error("the books or the bank were written into")
	}
}
