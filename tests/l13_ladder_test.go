package tests

import (
	"math"
	"math/rand"
	"slices"
	"testing"

	"loop.example/g00040/impl"
)

const wholeSale = 100000

var noSaleRates = []int{math.MinInt, -wholeSale, -2, -1, wholeSale + 1, wholeSale + 2, impl.MaxFactor, math.MaxInt}

func isSaleRate(n int) bool { return n >= 0 && n <= wholeSale }

// From, Rate and so on.
func rungsOf(pairs ...int) []impl.Rung {
	list := []impl.Rung{}
	for i := 0; i < len(pairs); i += 2 {
		list = append(list, impl.Rung{From: pairs[i], Rate: pairs[i+1]})
	}
	return list
}

func handLadder() []impl.Rung { return rungsOf(3, 10000, 10, 20000, 11, 5000, 500, 0, 1000, wholeSale) }

// From 1 on, each 10 further; none has the Rate of another, nor one of 0.
func manyRungs(count int) []impl.Rung {
	list := make([]impl.Rung, count)
	for i := range list {
		list[i] = impl.Rung{From: 10*i + 1, Rate: i + 1}
	}
	return list
}

// Every two rungs are held against each other, not only neighbours.
func wantLadderOk(ladder []impl.Rung) bool {
	for i, r := range ladder {
		if !isQty(r.From) || !isSaleRate(r.Rate) {
			return false
		}
		for _, later := range ladder[i+1:] {
			if later.From <= r.From {
				return false
			}
		}
	}
	return len(ladder) <= impl.MaxLadder
}

func wantLadderRate(ladder []impl.Rung, qty int) int {
	if !wantLadderOk(ladder) || !isQty(qty) {
		return 0
	}
	for _, r := range slices.Backward(ladder) {
		if r.From <= qty {
			return r.Rate
		}
	}
	return 0
}

// Of all of them a rung of a Rate above 0 would be met by some quantity.
func wrongLadders() [][]impl.Rung {
	list := [][]impl.Rung{
		manyRungs(impl.MaxLadder + 1),
		manyRungs(impl.MaxLadder + 2),
		manyRungs(10000),
		rungsOf(3, 1, 3, 2),
		rungsOf(3, 1, 3, 1),
		rungsOf(0, 1, 0, 2),
		rungsOf(impl.MaxQty, 1, impl.MaxQty, 2),
		rungsOf(3, 1, 2, 2),
		rungsOf(1, 1, 5, 2, 4, 3),
		rungsOf(1, 1, 5, 2, 5, 3),
		rungsOf(1, 1, 1, 2, 5, 3),
		rungsOf(1, 1, 5, 2, 1, 3),
		rungsOf(5, 1, 6, 2, 0, 3),
	}
	for _, none := range noQtys {
		list = append(list, rungsOf(none, 7), rungsOf(none, 7, 5, 8), rungsOf(5, 8, none, 7), rungsOf(1, 6, none, 7, 5, 8))
	}
	for _, none := range noSaleRates {
		list = append(list, rungsOf(5, none), rungsOf(1, none, 5, 8), rungsOf(1, 8, 5, none), rungsOf(1, 6, 2, none, 5, 8), rungsOf(1, 8, impl.MaxQty, none))
	}
	return list
}

func checkLadderRate(t *testing.T, ladder []impl.Rung, qty, want int) {
	t.Helper()
	if got := impl.LadderRate(ladder, qty); got != want || wantLadderRate(ladder, qty) != want {
		t.Errorf("LadderRate(%v, %d) = %d; want %d", ladder[:min(4, len(ladder))], qty, got, want)
	}
}

func TestLadderRateByHand(t *testing.T) {
	rows := [][2]int{ // qty, rate
		{0, 0}, {1, 0}, {2, 0}, {3, 10000}, {4, 10000}, {9, 10000}, {10, 20000}, {11, 5000}, {12, 5000}, {499, 5000}, {500, 0}, {501, 0}, {999, 0},
		{1000, wholeSale}, {1001, wholeSale}, {impl.MaxQty - 1, wholeSale}, {impl.MaxQty, wholeSale},
	}
	for _, r := range rows {
		checkLadderRate(t, handLadder(), r[0], r[1])
	}
	for _, qty := range noQtys {
		checkLadderRate(t, handLadder(), qty, 0)
	}
}

func TestLadderRateWithoutRungs(t *testing.T) {
	for _, qty := range append([]int{0, 1, 7, impl.MaxQty}, noQtys...) {
		checkLadderRate(t, nil, qty, 0)
		checkLadderRate(t, []impl.Rung{}, qty, 0)
	}
}

func TestHowManyRungsThereMayBe(t *testing.T) {
	for count := 1; count <= impl.MaxLadder; count++ {
		ladder := manyRungs(count)
		for i, r := range ladder {
			checkLadderRate(t, ladder, r.From-1, i)
			checkLadderRate(t, ladder, r.From, i+1)
			checkLadderRate(t, ladder, r.From+1, i+1)
		}
		checkLadderRate(t, ladder, impl.MaxQty, count)
	}
	for _, count := range []int{impl.MaxLadder + 1, impl.MaxLadder + 2, 10000} {
		for _, qty := range []int{0, 1, 11, 10 * impl.MaxLadder, 10*impl.MaxLadder + 1, impl.MaxQty} {
			checkLadderRate(t, manyRungs(count), qty, 0)
		}
	}
}

func TestFromsAtTheEnds(t *testing.T) {
	checkLadderRate(t, rungsOf(0, 5), 0, 5)
	checkLadderRate(t, rungsOf(0, 5), impl.MaxQty, 5)
	checkLadderRate(t, rungsOf(0, 5, 1, 6), 0, 5)
	checkLadderRate(t, rungsOf(0, 5, 1, 6), 1, 6)
	checkLadderRate(t, rungsOf(impl.MaxQty, 5), impl.MaxQty-1, 0)
	checkLadderRate(t, rungsOf(impl.MaxQty, 5), impl.MaxQty, 5)
	for _, none := range noQtys {
		checkLadderRate(t, rungsOf(0, 5), none, 0)
		checkLadderRate(t, rungsOf(none, 5), none, 0)
	}
}

func TestRatesOfRungs(t *testing.T) {
	for _, rate := range []int{0, 1, wholeSale - 1, wholeSale} {
		checkLadderRate(t, rungsOf(4, rate), 3, 0)
		checkLadderRate(t, rungsOf(4, rate), 4, rate)
		checkLadderRate(t, rungsOf(4, 9, 5, rate), 4, 9)
		checkLadderRate(t, rungsOf(4, 9, 5, rate), 5, rate)
	}
}

func TestLadderRateOfWrongLadders(t *testing.T) {
	for _, ladder := range wrongLadders() {
		for _, qty := range []int{0, 1, 2, 3, 4, 5, 6, 100, impl.MaxQty - 1, impl.MaxQty, impl.MaxQty + 1, -1, math.MaxInt} {
			checkLadderRate(t, ladder, qty, 0)
		}
	}
}

func someLadder(chance *rand.Rand) []impl.Rung {
	ladder := make([]impl.Rung, chance.Intn(6))
	from := chance.Intn(4)
	for i := range ladder {
		ladder[i] = impl.Rung{From: from, Rate: chance.Intn(wholeSale + 1)}
		from += 1 + chance.Intn(4)
	}
	return ladder
}

func spoilLadder(chance *rand.Rand, ladder []impl.Rung) {
	if len(ladder) == 0 {
		return
	}
	r := &ladder[chance.Intn(len(ladder))]
	switch chance.Intn(4) {
	case 0:
		r.From = chance.Intn(20) - 5
	case 1:
		r.From = noQtys[chance.Intn(len(noQtys))]
	case 2:
		r.Rate = noSaleRates[chance.Intn(len(noSaleRates))]
	case 3:
		r.Rate = chance.Intn(2) * wholeSale
	}
}

func TestSomeLadderRates(t *testing.T) {
	chance := rand.New(rand.NewSource(131))
	told, none := 0, 0
	for range 20000 {
		ladder := someLadder(chance)
		if chance.Intn(3) == 0 {
			spoilLadder(chance, ladder)
		}
		qty := chance.Intn(30) - 2
		want := wantLadderRate(ladder, qty)
		checkLadderRate(t, ladder, qty, want)
		if want > 0 {
			told++
		} else {
			none++
		}
	}
	if told < 5000 || none < 5000 {
		t.Errorf("%d told, %d not", told, none)
	}
}

// Behind the ladder stands more, which is neither read nor written.
func TestLadderRateLeavesItsLadder(t *testing.T) {
	whole := append(handLadder(), impl.Rung{From: 3, Rate: -1}, impl.Rung{From: 2000, Rate: 7})
	kept := slices.Clone(whole)
	checkLadderRate(t, whole[:5], 2000, wholeSale)
	checkLadderRate(t, whole[:2], 2000, 20000)
	checkLadderRate(t, whole[:0], 2000, 0)
	checkLadderRate(t, whole[:6], 2000, 0)
	if !slices.Equal(whole, kept) {
		t.Error("the ladder was written into")
	}
}
