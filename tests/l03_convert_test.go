package tests

import (
	"math"
	"math/rand"
	"testing"

	"loop.example/g00040/impl"
)

func checkConvert(t *testing.T, list []impl.Rate, n, a, from, to, day, want int) {
	t.Helper()
	if got, ok := impl.Convert(list, n, a, from, to, day); got != want || !ok {
		t.Errorf("Convert(%d rates, %d, %d, %d, %d, %d) = %d, %v; want %d", len(list), n, a, from, to, day, got, ok, want)
	}
}

func refuseConvert(t *testing.T, list []impl.Rate, n, a, from, to, day int) {
	t.Helper()
	if got, ok := impl.Convert(list, n, a, from, to, day); got != 0 || ok {
		t.Errorf("Convert(%d rates, %d, %d, %d, %d, %d) = %d, %v; want 0, false", len(list), n, a, from, to, day, got, ok)
	}
}

func wantConvert(list []impl.Rate, n, a, from, to, day int) (int, bool) {
	numFrom, denFrom := wantRateAt(list, n, from, day)
	numTo, denTo := wantRateAt(list, n, to, day)
	if numFrom == 0 || numTo == 0 || !amount(a) {
		return 0, false
	}
	if from == to {
		return a, true
	}
	if from != 0 {
		a = wantMulDiv(a, numFrom, denFrom, impl.Half)
	}
	if !amount(a) {
		return 0, false
	}
	if to != 0 {
		a = wantMulDiv(a, denTo, numTo, impl.Half)
	}
	if !amount(a) {
		return 0, false
	}
	return a, true
}

func convertAsWanted(t *testing.T, list []impl.Rate, n, a, from, to, day int) {
	t.Helper()
	if want, ok := wantConvert(list, n, a, from, to, day); ok {
		checkConvert(t, list, n, a, from, to, day, want)
	} else {
		refuseConvert(t, list, n, a, from, to, day)
	}
}

// Each rate is of currency 1 against the house's own, from day 5 on.
func oneRate(num, den int) []impl.Rate {
	return []impl.Rate{{Day: 5, From: 1, Num: num, Den: den}}
}

func twoRates(num1, den1, num2, den2 int) []impl.Rate {
	return append(oneRate(num1, den1), impl.Rate{Day: 5, From: 2, Num: num2, Den: den2})
}

// checkThereAndBack asks P8: off by at most half of what one unit is worth (num by den), and one. It tells whether both ways were answered.
func checkThereAndBack(t *testing.T, num, den, a int) bool {
	t.Helper()
	list := oneRate(num, den)
	there, ok := impl.Convert(list, 2, a, 0, 1, 5)
	if !ok {
		return false
	}
	back, ok := impl.Convert(list, 2, there, 1, 0, 5)
	if !ok {
		return false
	}
	off := max(back-a, a-back)
	if 2*den*(off-1) > num {
		t.Errorf("%d at %d by %d is %d there and %d back", a, num, den, there, back)
	}
	return true
}

func TestThereAndBackOfSmallAmounts(t *testing.T) {
	for num := 1; num <= 12; num++ {
		for den := 1; den <= 12; den++ {
			for a := -60; a <= 60; a++ {
				if !checkThereAndBack(t, num, den, a) {
					t.Errorf("%d at %d by %d is refused", a, num, den)
				}
			}
		}
	}
}

func TestThereAndBackOfGreatAmounts(t *testing.T) {
	chance := rand.New(rand.NewSource(4))
	answered := 0
	for range 40000 {
		num, den := someDivisor(chance), someDivisor(chance)
		a := chance.Intn(2*impl.MaxMoney+1) - impl.MaxMoney
		if num < den { // so that the amounts are seldom left
			a = a / den * num
		}
		if checkThereAndBack(t, num, den, a) {
			answered++
		}
	}
	if answered < 30000 {
		t.Errorf("only %d were answered both ways", answered)
	}
}

func TestThereAndBackAtTheLimits(t *testing.T) {
	for _, a := range []int{-impl.MaxMoney, -impl.MaxMoney + 1, -5000001, -5000000, -4999999, -1, 0, 1, 4999999, 5000000, 5000001, impl.MaxMoney - 1, impl.MaxMoney} {
		for _, num := range []int{1, 2, 3, impl.MaxFactor - 1, impl.MaxFactor} {
			for _, den := range []int{1, 2, 3, impl.MaxFactor - 1, impl.MaxFactor} {
				checkThereAndBack(t, num, den, a)
			}
		}
	}
	// Off by just half of what one unit is worth.
	greatest := oneRate(impl.MaxFactor, 1)
	for _, sign := range []int{-1, 1} {
		checkConvert(t, greatest, 2, sign*impl.MaxFactor/2, 0, 1, 5, sign)
		checkConvert(t, greatest, 2, sign, 1, 0, 5, sign*impl.MaxFactor)
		checkConvert(t, greatest, 2, sign*(impl.MaxFactor/2-1), 0, 1, 5, 0)
		checkConvert(t, greatest, 2, 0, 1, 0, 5, 0)
	}
}

// At 3 by 2 and at 1 by 4, just at a half, beside it and whole.
func TestConvertRoundsTheHalfAwayFrom0(t *testing.T) {
	list := twoRates(3, 2, 1, 4)
	into := [][3]int{ // a, from currency 1, from currency 2
		{0, 0, 0}, {1, 2, 0}, {2, 3, 1}, {3, 5, 1}, {4, 6, 1}, {5, 8, 1}, {6, 9, 2}, {7, 11, 2}, {9, 14, 2}, {10, 15, 3},
	}
	for _, r := range into {
		for _, sign := range []int{-1, 1} {
			checkConvert(t, list, 3, sign*r[0], 1, 0, 5, sign*r[1])
			checkConvert(t, list, 3, sign*r[0], 2, 0, 5, sign*r[2])
		}
	}
	out := [][3]int{ // a, at 2 by 1, at 4 by 3
		{0, 0, 0}, {1, 1, 1}, {2, 1, 2}, {3, 2, 2}, {4, 2, 3}, {5, 3, 4}, {6, 3, 5}, {7, 4, 5},
	}
	list = twoRates(2, 1, 4, 3)
	for _, r := range out {
		for _, sign := range []int{-1, 1} {
			checkConvert(t, list, 3, sign*r[0], 0, 1, 5, sign*r[1])
			checkConvert(t, list, 3, sign*r[0], 0, 2, 5, sign*r[2])
		}
	}
}

// What stands in the house's own in between is whole, so the same worth in another currency may be off.
func TestConvertBetweenTwoOthersGoesByTheHousesOwn(t *testing.T) {
	list := twoRates(1, 3, 1, 3)
	for a, want := range map[int]int{0: 0, 1: 0, 2: 3, 3: 3, 4: 3, 5: 6, -1: 0, -2: -3, -4: -3, -5: -6} {
		checkConvert(t, list, 3, a, 1, 2, 5, want)
		checkConvert(t, list, 3, a, 2, 1, 5, want)
		checkConvert(t, list, 3, a, 1, 1, 5, a)
		checkConvert(t, list, 3, a, 2, 2, 5, a)
	}
	list = twoRates(3, 2, 2, 1)
	for a, want := range map[int]int{1: 1, 2: 2, 3: 3, 4: 3, 5: 4, -1: -1, -3: -3, -5: -4} {
		checkConvert(t, list, 3, a, 1, 2, 5, want)
	}
	for a, want := range map[int]int{1: 1, 2: 3, 3: 4, 4: 5, -2: -3} {
		checkConvert(t, list, 3, a, 2, 1, 5, want)
	}
}

func TestConvertByTheRateOfTheDay(t *testing.T) {
	list := handRates()
	rows := [][5]int{ // a, from, to, day, want
		{6, 1, 0, 0, 9}, {6, 1, 0, 9, 9}, {6, 1, 0, 10, 12}, {6, 1, 0, 19, 12}, {6, 1, 0, 20, 10}, {6, 1, 0, impl.MaxDay, 10},
		{9, 0, 1, 0, 6}, {12, 0, 1, 15, 6}, {10, 0, 1, 25, 6},
		{8, 2, 1, 0, 1}, {8, 2, 1, 10, 1}, {3, 1, 2, 10, 24},
		{9, 3, 0, 20, 7}, {7, 0, 3, 20, 9}, {9, 3, 2, 20, 28}, {3, 3, 0, impl.MaxDay, 3 * impl.MaxFactor},
	}
	for _, r := range rows {
		checkConvert(t, list, 4, r[0], r[1], r[2], r[3], r[4])
	}
}

func TestConvertIntoTheSameCurrency(t *testing.T) {
	list := handRates()
	for _, a := range []int{-impl.MaxMoney, -1, 0, 1, 12345, impl.MaxMoney} {
		for _, day := range []int{0, 10, 20, impl.MaxDay} {
			checkConvert(t, list, 4, a, 0, 0, day, a)
			checkConvert(t, list, 4, a, 1, 1, day, a)
			checkConvert(t, list, 4, a, 2, 2, day, a)
		}
		checkConvert(t, list, 4, a, 3, 3, 20, a)
		checkConvert(t, list, 4, a, 3, 3, impl.MaxDay, a)
		refuseConvert(t, list, 4, a, 3, 3, 19)
		refuseConvert(t, list, 4, a, 3, 3, 0)
		refuseConvert(t, list, 5, a, 4, 4, impl.MaxDay)
		refuseConvert(t, list, 4, a, 4, 4, 20)
		refuseConvert(t, list, 4, a, -1, -1, 20)
		for n := 1; n <= impl.MaxCurs; n++ {
			checkConvert(t, nil, n, a, 0, 0, 0, a)
			refuseConvert(t, nil, n, a, n, n, 0)
			if n > 1 {
				refuseConvert(t, nil, n, a, n-1, n-1, 0)
			}
		}
	}
	for _, a := range noAmounts {
		for place := range 4 {
			refuseConvert(t, list, 4, a, place, place, 20)
		}
		refuseConvert(t, nil, 1, a, 0, 0, 0)
	}
}

func TestConvertWhereARateIsMissing(t *testing.T) {
	list := handRates()
	for _, a := range []int{-7, 0, 7, impl.MaxMoney} {
		for _, day := range []int{0, 10, 19} { // currency 3 begins on day 20
			for place := range 4 {
				refuseConvert(t, list, 4, a, 3, place, day)
				refuseConvert(t, list, 4, a, place, 3, day)
			}
		}
		for _, wrong := range []int{math.MinInt, -1, 4, 5, math.MaxInt} {
			for place := range 4 {
				refuseConvert(t, list, 4, a, wrong, place, 20)
				refuseConvert(t, list, 4, a, place, wrong, 20)
			}
			refuseConvert(t, list, 4, a, wrong, wrong, 20)
		}
		for _, day := range noDays {
			for place := range 4 {
				refuseConvert(t, list, 4, a, place, 1, day)
				refuseConvert(t, list, 4, a, 0, place, day)
			}
		}
	}
}

func TestConvertByWrongTables(t *testing.T) {
	for _, list := range wrongRates() {
		for from := range 4 {
			for to := range 4 {
				refuseConvert(t, list, 4, 6, from, to, 20)
				refuseConvert(t, list, 4, 0, from, to, impl.MaxDay)
			}
		}
	}
	for _, n := range noCounts {
		refuseConvert(t, nil, n, 6, 0, 0, 20)
		refuseConvert(t, oneRate(1, 1), n, 6, 0, 1, 20)
		refuseConvert(t, oneRate(1, 1), n, 6, 1, 1, 20)
	}
	for _, n := range []int{1, 2, 3} {
		refuseConvert(t, handRates(), n, 6, 0, 0, 20)
	}
	refuseConvert(t, fullRates(impl.MaxRates+1, 3), 3, 6, 0, 0, 20)
	refuseConvert(t, fullRates(impl.MaxRates+1, 3), 3, 6, 1, 0, 20)
	checkConvert(t, fullRates(impl.MaxRates, 3), 3, 6, 0, 0, 20, 6)
}

func TestConvertOfWhatIsNoAmount(t *testing.T) {
	small := twoRates(1, impl.MaxFactor, impl.MaxFactor, 1)
	for _, a := range noAmounts {
		for from := range 3 {
			for to := range 3 {
				refuseConvert(t, small, 3, a, from, to, 5)
			}
		}
	}
}

func TestConvertAtTheGreatestAmount(t *testing.T) {
	same := twoRates(7, 7, 1, 1)
	for _, sign := range []int{-1, 1} {
		most := sign * impl.MaxMoney
		for from := range 3 {
			for to := range 3 {
				checkConvert(t, same, 3, most, from, to, 5, most)
				refuseConvert(t, same, 3, most+sign, from, to, 5)
			}
		}
		into := oneRate(2, 1)
		checkConvert(t, into, 2, most/2, 1, 0, 5, most)
		refuseConvert(t, into, 2, most/2+sign, 1, 0, 5)
		out := oneRate(1, 4)
		checkConvert(t, out, 2, most/4, 0, 1, 5, most)
		refuseConvert(t, out, 2, most/4+sign, 0, 1, 5)
		// A half past the greatest amount rounds away from it, less than a half comes back to it.
		refuseConvert(t, oneRate(3, 2), 2, sign*66666666667, 1, 0, 5)
		refuseConvert(t, oneRate(2, 3), 2, sign*66666666667, 0, 1, 5)
		checkConvert(t, oneRate(9999999, 9999998), 2, sign*99999990000, 1, 0, 5, most)
		checkConvert(t, oneRate(9999998, 9999999), 2, sign*99999990000, 0, 1, 5, most)
	}
}

func TestConvertThatLeavesTheAmounts(t *testing.T) {
	for _, sign := range []int{-1, 1} {
		a := sign * impl.MaxMoney / 10
		// On the way: the end would be an amount again.
		list := twoRates(10, 1, 100, 1)
		checkConvert(t, list, 3, a, 1, 2, 5, sign*impl.MaxMoney/100)
		refuseConvert(t, list, 3, a+sign, 1, 2, 5)
		refuseConvert(t, list, 3, a+sign, 1, 0, 5)
		// At the end: what stands in between is an amount.
		list = twoRates(1, 2, 1, 20)
		checkConvert(t, list, 3, a, 1, 2, 5, sign*impl.MaxMoney)
		refuseConvert(t, list, 3, a+2*sign, 1, 2, 5)
		checkConvert(t, list, 3, a+2*sign, 1, 0, 5, a/2+sign)
		// Nothing is left where nothing is converted, though it would be there and back.
		checkConvert(t, twoRates(impl.MaxFactor, 1, 1, impl.MaxFactor), 3, a, 1, 1, 5, a)
		checkConvert(t, twoRates(impl.MaxFactor, 1, 1, impl.MaxFactor), 3, 1, 2, 2, 5, 1)
		refuseConvert(t, oneRate(impl.MaxFactor, 1), 2, sign*impl.MaxMoney, 1, 0, 5)
		refuseConvert(t, oneRate(1, impl.MaxFactor), 2, sign*impl.MaxMoney, 0, 1, 5)
		// There it is an amount, back it is none: 3 by 2 of 66666666667 is a half past it.
		checkConvert(t, oneRate(3, 2), 2, sign*impl.MaxMoney, 0, 1, 5, sign*66666666667)
		refuseConvert(t, oneRate(3, 2), 2, sign*66666666667, 1, 0, 5)
	}
}

func TestConvertOfManyAmounts(t *testing.T) {
	chance := rand.New(rand.NewSource(5))
	for range 100 {
		n := 1 + chance.Intn(6)
		list := someRates(chance, n)
		for range 100 {
			a := chance.Intn(2*impl.MaxMoney+1) - impl.MaxMoney
			switch chance.Intn(4) {
			case 0:
				a = chance.Intn(2001) - 1000
			case 1:
				a /= impl.MaxFactor
			}
			from, to, day := chance.Intn(n+2)-1, chance.Intn(n+2)-1, chance.Intn(impl.MaxDay+2)
			convertAsWanted(t, list, n, a, from, to, day)
			convertAsWanted(t, list, n, a, max(0, min(from, n-1)), max(0, min(to, n-1)), impl.MaxDay-day%4000)
		}
	}
}

func TestConvertOfEverySmallAmount(t *testing.T) {
	for num := 1; num <= 6; num++ {
		for den := 1; den <= 6; den++ {
			list := twoRates(num, den, den+1, num+2)
			for a := -25; a <= 25; a++ {
				for places := range 9 {
					convertAsWanted(t, list, 3, a, places%3, places/3, 5)
				}
			}
		}
	}
}
