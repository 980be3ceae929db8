package tests

import (
	"math/big"
	"math/rand"
	"slices"
	"testing"

	"loop.example/g00040/impl"
)

func wantWearWeights(a impl.Thing) []int {
	weights := []int{}
	for year := 1; year <= a.Years; year++ {
		switch a.Method {
		case impl.Straight:
			weights = append(weights, 1)
		case impl.Digits:
			weights = slices.Insert(weights, 0, year)
		case impl.Rising:
			weights = append(weights, year)
		case impl.Usage:
			weights = append(weights, a.Use[year-1])
		}
	}
	return weights
}

// What is kept of a number at so many parts of all of them: of two as near the lesser one, as of what goes the greater one goes.
func keptOf(n, parts, all int) int {
	twice := new(big.Int).Mul(big.NewInt(int64(n)), big.NewInt(int64(2*parts)))
	twice.Sub(twice, big.NewInt(int64(all)))
	return rounded(twice, big.NewInt(int64(2*all)), impl.Ceil)
}

// wantWorths tells what a right asset is worth ahead of its first year and behind each: by what is kept, not by what is lost.
func wantWorths(a impl.Thing) []int {
	worths := []int{a.Cost}
	if !takesRate(a.Method) {
		for _, share := range wantShares(a.Cost-a.Rest, wantWearWeights(a)) {
			worths = append(worths, worths[len(worths)-1]-share)
		}
		return worths
	}
	for left := a.Years; left > 1; left-- {
		worth := worths[len(worths)-1]
		kept := keptOf(worth, wholeSale-a.Rate, wholeSale)
		if a.Method == impl.Switch {
			kept = min(kept, a.Rest+keptOf(worth-a.Rest, left-1, left))
		}
		worths = append(worths, max(kept, a.Rest))
	}
	return append(worths, a.Rest)
}

func wantLost(a impl.Thing) []int {
	lost := []int{}
	if !wantThingOk(a) {
		return lost
	}
	worths := wantWorths(a)
	for year := range a.Years {
		lost = append(lost, worths[year]-worths[year+1])
	}
	return lost
}

// P54: it loses its Cost less its Rest, in no year less than 0, and is never worth less than its Rest.
func checkWear(t *testing.T, a impl.Thing, lost []int) {
	t.Helper()
	worth := a.Cost
	for year, n := range lost {
		worth -= n
		if n < 0 || worth < a.Rest {
			t.Errorf("%v loses %d in year %d and is worth %d", a, n, year, worth)
		}
	}
	if worth != a.Rest || len(lost) != a.Years {
		t.Errorf("%v loses %v: it is worth %d at the end", a, lost, worth)
	}
}

func checkLost(t *testing.T, a impl.Thing, want ...int) []int {
	t.Helper()
	got := impl.Depreciate(a)
	if !slices.Equal(got, want) {
		t.Errorf("Depreciate(%v) = %v; want %v", a, got, want)
	}
	if own := wantLost(a); !slices.Equal(own, want) {
		t.Errorf("the other way Depreciate(%v) = %v; want %v", a, own, want)
	}
	checkWear(t, a, got)
	return got
}

// As by the other way alone.
func checkOwnLost(t *testing.T, a impl.Thing) {
	t.Helper()
	checkLost(t, a, wantLost(a)...)
}

func loseNothing(t *testing.T, a impl.Thing) {
	t.Helper()
	if got := impl.Depreciate(a); len(got) != 0 || len(wantLost(a)) != 0 {
		t.Errorf("Depreciate(%v) = %v; want nothing", a, got)
	}
}

func TestStraight(t *testing.T) {
	checkLost(t, thingOf(impl.Straight, 100, 10, 4), 23, 23, 22, 22)
	checkLost(t, thingOf(impl.Straight, 7, 0, 3), 3, 2, 2)
	checkLost(t, thingOf(impl.Straight, 8, 0, 3), 3, 3, 2)
	checkLost(t, thingOf(impl.Straight, 9, 0, 3), 3, 3, 3)
	checkLost(t, thingOf(impl.Straight, 2, 0, 4), 1, 1, 0, 0)
	checkLost(t, thingOf(impl.Straight, 12, 2, 2), 5, 5)
	checkLost(t, thingOf(impl.Straight, impl.MaxMoney, 0, 3), 33333333334, 33333333333, 33333333333)
	checkLost(t, thingOf(impl.Straight, impl.MaxMoney, 1, 2), 50000000000, 49999999999)
	for left := range impl.MaxYears {
		a := thingOf(impl.Straight, 7*impl.MaxYears+left+5, 5, impl.MaxYears)
		checkLost(t, a, append(repeated(8, left), repeated(7, impl.MaxYears-left)...)...)
	}
}

func TestDigits(t *testing.T) {
	checkLost(t, thingOf(impl.Digits, 100, 10, 3), 45, 30, 15)
	checkLost(t, thingOf(impl.Digits, 10, 0, 4), 4, 3, 2, 1)
	checkLost(t, thingOf(impl.Digits, 11, 0, 4), 5, 3, 2, 1)
	checkLost(t, thingOf(impl.Digits, 8, 0, 4), 3, 2, 2, 1)
	checkLost(t, thingOf(impl.Digits, 15, 10, 4), 2, 2, 1, 0)
	checkLost(t, thingOf(impl.Digits, 7, 0, 2), 5, 2)
	checkLost(t, thingOf(impl.Digits, 8, 0, 2), 5, 3)
	checkLost(t, thingOf(impl.Digits, impl.MaxMoney, 0, 2), 66666666667, 33333333333)
}

func TestRising(t *testing.T) {
	checkLost(t, thingOf(impl.Rising, 100, 10, 3), 15, 30, 45)
	checkLost(t, thingOf(impl.Rising, 10, 0, 4), 1, 2, 3, 4)
	checkLost(t, thingOf(impl.Rising, 11, 0, 4), 1, 2, 3, 5)
	checkLost(t, thingOf(impl.Rising, 8, 0, 4), 1, 2, 2, 3)
	checkLost(t, thingOf(impl.Rising, 15, 10, 4), 1, 1, 1, 2)
	checkLost(t, thingOf(impl.Rising, 7, 0, 2), 2, 5)
	checkLost(t, thingOf(impl.Rising, impl.MaxMoney, 0, 2), 33333333333, 66666666667)
}

func TestYearsAgainstTheirWeights(t *testing.T) {
	for _, years := range []int{1, 2, 3, 10, 59, impl.MaxYears} {
		all := years * (years + 1) / 2
		for _, times := range []int{0, 1, 2, 54000000} {
			up := []int{}
			for year := range years {
				up = append(up, times*(year+1))
			}
			checkLost(t, thingOf(impl.Rising, times*all+3, 3, years), up...)
			slices.Reverse(up)
			checkLost(t, thingOf(impl.Digits, times*all+3, 3, years), up...)
			checkLost(t, thingOf(impl.Straight, times*years+3, 3, years), repeated(times, years)...)
		}
	}
}

func TestUsage(t *testing.T) {
	checkLost(t, usedThing(12, 0, 1, 0, 3), 3, 0, 9)
	checkLost(t, usedThing(22, 10, 1, 0, 3), 3, 0, 9)
	checkLost(t, usedThing(13, 0, 1, 0, 3), 3, 0, 10)
	checkLost(t, usedThing(14, 0, 1, 0, 3), 4, 0, 10)
	checkLost(t, usedThing(15, 0, 1, 0, 3), 4, 0, 11)
	checkLost(t, usedThing(7, 0, 0, 0, 5), 0, 0, 7)
	checkLost(t, usedThing(7, 0, 5, 0, 0), 7, 0, 0)
	checkLost(t, usedThing(7, 0, 0, 1, 0), 0, 7, 0)
	checkLost(t, usedThing(7, 2, 4), 5)
	checkLost(t, usedThing(8, 0, 6, 6, 6), 3, 3, 2)
	checkLost(t, usedThing(9, 0, 1, 2, 1, 2), 2, 3, 1, 3)
}

func TestUsageOfTheGreatestNumbers(t *testing.T) {
	const most, money = impl.MaxFactor, impl.MaxMoney
	checkLost(t, usedThing(money, 0, most), money)
	checkLost(t, usedThing(money, 0, most, most), money/2, money/2)
	checkLost(t, usedThing(money, 0, most, 0, most, most), 33333333334, 0, 33333333333, 33333333333)
	checkLost(t, usedThing(money, 0, most, 1), 99999990000, 10000)
	checkLost(t, usedThing(money, money-1, most, 1), 1, 0)
	checkLost(t, usedThing(money, money-1, 1, most), 0, 1)
	even := usedThing(money, 0, repeated(most, impl.MaxYears)...)
	checkLost(t, even, append(repeated(1666666667, 40), repeated(1666666666, 20)...)...)
}

func TestFalling(t *testing.T) {
	checkLost(t, fallingThing(100, 10, 4, 50000), 50, 25, 13, 2)
	checkLost(t, fallingThing(1000, 0, 4, 20000), 200, 160, 128, 512)
	checkLost(t, fallingThing(1000, 300, 4, 20000), 200, 160, 128, 212)
	checkLost(t, fallingThing(1000, 500, 4, 20000), 200, 160, 128, 12)
	checkLost(t, fallingThing(1000, 512, 4, 20000), 200, 160, 128, 0)
	checkLost(t, fallingThing(1000, 600, 4, 20000), 200, 160, 40, 0)
	checkLost(t, fallingThing(1000, 900, 4, 20000), 100, 0, 0, 0)
	checkLost(t, fallingThing(impl.MaxMoney, 0, 3, 50000), 50000000000, 25000000000, 25000000000)
	checkLost(t, fallingThing(impl.MaxMoney, 1, 3, 99999), 99999000000, 999990, 9)
}

func TestFallingByNothingAndByAll(t *testing.T) {
	checkLost(t, fallingThing(100, 10, 4, 0), 0, 0, 0, 90)
	checkLost(t, fallingThing(100, 0, 2, 0), 0, 100)
	checkLost(t, fallingThing(100, 10, 1, 0), 90)
	checkLost(t, fallingThing(100, 10, 4, wholeSale), 90, 0, 0, 0)
	checkLost(t, fallingThing(100, 0, 2, wholeSale), 100, 0)
	checkLost(t, fallingThing(100, 10, 1, wholeSale), 90)
	checkLost(t, fallingThing(impl.MaxMoney, 0, 2, wholeSale), impl.MaxMoney, 0)
	most := append(make([]int, impl.MaxYears-1), impl.MaxMoney)
	checkLost(t, fallingThing(impl.MaxMoney, 0, impl.MaxYears, 0), most...)
}

func TestFallingByAHalf(t *testing.T) {
	checkLost(t, fallingThing(1, 0, 2, 50000), 1, 0)
	checkLost(t, fallingThing(1, 0, 2, 49999), 0, 1)
	checkLost(t, fallingThing(3, 0, 2, 50000), 2, 1)
	checkLost(t, fallingThing(5, 0, 2, 50000), 3, 2)
	checkLost(t, fallingThing(5, 0, 3, 10000), 1, 0, 4)
	checkLost(t, fallingThing(15, 0, 3, 10000), 2, 1, 12)
	checkLost(t, fallingThing(25, 0, 3, 10000), 3, 2, 20)
	checkLost(t, fallingThing(24, 0, 3, 10000), 2, 2, 20)
	checkLost(t, fallingThing(50000, 0, 2, 1), 1, 49999)
	checkLost(t, fallingThing(49999, 0, 2, 1), 0, 49999)
	checkLost(t, fallingThing(150000, 0, 2, 1), 2, 149998)
	checkLost(t, fallingThing(149999, 0, 2, 1), 1, 149998)
}

// What it takes is just what is above Rest, one less, one more.
func TestFallingToItsRest(t *testing.T) {
	checkLost(t, fallingThing(100, 50, 4, 50000), 50, 0, 0, 0)
	checkLost(t, fallingThing(100, 49, 4, 50000), 50, 1, 0, 0)
	checkLost(t, fallingThing(100, 51, 4, 50000), 49, 0, 0, 0)
	checkLost(t, fallingThing(100, 25, 4, 50000), 50, 25, 0, 0)
	checkLost(t, fallingThing(100, 24, 4, 50000), 50, 25, 1, 0)
	checkLost(t, fallingThing(100, 26, 4, 50000), 50, 24, 0, 0)
	checkLost(t, fallingThing(100, 12, 4, 50000), 50, 25, 13, 0)
	checkLost(t, fallingThing(100, 11, 4, 50000), 50, 25, 13, 1)
	checkLost(t, fallingThing(100, 13, 4, 50000), 50, 25, 12, 0)
}

func TestLastYearOfFallingAndSwitch(t *testing.T) {
	for _, rate := range []int{0, 1, 10000, 50000, wholeSale} {
		for _, rest := range []int{0, 1, 40, 99, 100} {
			checkLost(t, fallingThing(100, rest, 1, rate), 100-rest)
			checkLost(t, switchThing(100, rest, 1, rate), 100-rest)
		}
	}
	checkLost(t, fallingThing(100, 0, 2, 10000), 10, 90)
	checkLost(t, fallingThing(100, 80, 2, 10000), 10, 10)
	checkLost(t, fallingThing(100, 90, 2, 10000), 10, 0)
	checkLost(t, switchThing(100, 0, 2, 10000), 50, 50)
	checkLost(t, switchThing(100, 80, 2, 10000), 10, 10)
	checkLost(t, switchThing(100, 81, 2, 10000), 10, 9)
	checkLost(t, switchThing(100, 79, 2, 10000), 11, 10)
	checkLost(t, switchThing(100, 90, 2, 10000), 10, 0)
	checkLost(t, switchThing(100, 95, 2, 10000), 5, 0)
}

func TestSwitch(t *testing.T) {
	checkLost(t, switchThing(100, 0, 4, 30000), 30, 23, 24, 23)
	checkLost(t, switchThing(1000, 0, 4, 60000), 600, 240, 96, 64)
	checkLost(t, switchThing(1000, 100, 4, 60000), 600, 240, 60, 0)
	checkLost(t, switchThing(1000, 100, 4, 10000), 225, 225, 225, 225)
	checkLost(t, switchThing(100, 0, 4, 25000), 25, 25, 25, 25)
	checkLost(t, switchThing(100, 10, 4, 0), 23, 22, 23, 22)
	checkLost(t, switchThing(100, 10, 4, wholeSale), 90, 0, 0, 0)
	checkLost(t, switchThing(impl.MaxMoney, 0, 3, 50000), 50000000000, 25000000000, 25000000000)
	checkLost(t, switchThing(impl.MaxMoney, 0, 3, 0), 33333333333, 33333333334, 33333333333)
}

func TestSwitchOfAHalf(t *testing.T) {
	checkLost(t, switchThing(5, 0, 2, 0), 3, 2)
	checkLost(t, switchThing(15, 10, 2, 0), 3, 2)
	checkLost(t, switchThing(1, 0, 2, 0), 1, 0)
	checkLost(t, switchThing(10, 0, 4, 0), 3, 2, 3, 2)
	checkLost(t, switchThing(6, 0, 4, 0), 2, 1, 2, 1)
	checkLost(t, switchThing(9, 0, 6, 0), 2, 1, 2, 1, 2, 1)
	checkLost(t, switchThing(1, 0, 3, 0), 0, 1, 0)
	checkLost(t, switchThing(2, 0, 3, 0), 1, 1, 0)
	// The even part is 2 and a half, what Falling takes a half more or less than 2.
	checkLost(t, switchThing(5, 0, 2, 50000), 3, 2)
	checkLost(t, switchThing(5, 0, 2, 49999), 3, 2)
	checkLost(t, switchThing(5, 0, 2, 30000), 3, 2)
	checkLost(t, switchThing(1, 0, 60, 0), append(append(make([]int, 58), 1), 0)...)
}

// The first year in which the even part is more.
func TestYearOfGivingWay(t *testing.T) {
	checkLost(t, switchThing(1000, 0, 5, 40000), 400, 240, 144, 108, 108)
	checkLost(t, switchThing(1000, 0, 5, 30000), 300, 210, 163, 164, 163)
	checkLost(t, switchThing(1000, 0, 5, 21000), 210, 198, 197, 198, 197)
	checkLost(t, switchThing(1000, 0, 5, 20000), 200, 200, 200, 200, 200)
	checkLost(t, switchThing(1000, 0, 5, 50000), 500, 250, 125, 63, 62)
	checkLost(t, switchThing(1000, 500, 5, 30000), 300, 200, 0, 0, 0)
	checkLost(t, switchThing(1000, 200, 5, 30000), 300, 210, 147, 103, 40)
	checkLost(t, switchThing(1000, 200, 5, 20000), 200, 160, 147, 147, 146)
	checkLost(t, fallingThing(1000, 0, 5, 40000), 400, 240, 144, 86, 130)
	checkLost(t, fallingThing(1000, 200, 5, 30000), 300, 210, 147, 103, 40)
}

func TestCostThatIsJustTheRest(t *testing.T) {
	for _, years := range []int{1, 2, impl.MaxYears} {
		for _, cost := range []int{0, 1, 77, impl.MaxMoney} {
			for _, rate := range []int{0, 50000, wholeSale} {
				for _, a := range eachThing(cost, cost, years, rate) {
					checkLost(t, a, make([]int, years)...)
				}
			}
		}
	}
}

func TestEachMethodOverTheirYears(t *testing.T) {
	for _, years := range []int{1, 2, 3, 7, impl.MaxYears - 1, impl.MaxYears} {
		for _, cost := range []int{0, 1, 2, 59, 61, 1000, 99999, impl.MaxMoney - 1, impl.MaxMoney} {
			for _, rest := range []int{0, 1, cost / 3, cost - 1, cost} {
				for _, rate := range []int{0, 1, 1667, 25000, 50000, 99999, wholeSale} {
					for _, a := range eachThing(cost, min(max(rest, 0), cost), years, rate) {
						checkOwnLost(t, a)
					}
				}
			}
		}
	}
}

func TestWhatNoThingLoses(t *testing.T) {
	for _, a := range eachNoThing() {
		loseNothing(t, a)
	}
}

func TestSomeThingsLose(t *testing.T) {
	chance := rand.New(rand.NewSource(202))
	for range 20000 {
		a := someThing(chance)
		checkOwnLost(t, a)
		spoilThing(chance, &a)
		loseNothing(t, a)
	}
}

// P54: Switch is never above Falling.
func TestSwitchIsNeverAboveFalling(t *testing.T) {
	chance := rand.New(rand.NewSource(203))
	below := 0
	for range 20000 {
		a := someThing(chance)
		a.Method, a.Rate, a.Use = impl.Falling, chance.Intn(wholeSale+1), nil
		b := a
		b.Method = impl.Switch
		falling, switching := impl.Depreciate(a), impl.Depreciate(b)
		for years := range a.Years + 1 {
			left, other := a.Cost-sumOf(falling[:years]), b.Cost-sumOf(switching[:years])
			if other > left || other != impl.Book(b, years) || left != impl.Book(a, years) {
				t.Fatalf("behind %d years of %v: %d by Falling, %d by Switch", years, a, left, other)
			}
			if other < left {
				below++
			}
		}
	}
	if below < 8000 {
		t.Errorf("%d below", below)
	}
}

func TestDepreciateLeavesItsArgument(t *testing.T) {
	for range 2 {
		checkUseIsKept(t, func(a impl.Thing) {
			want := wantLost(a)
			spoilList(checkLost(t, a, want...))
			spoilList(checkLost(t, a, want...))
			a.Rest = -1
			loseNothing(t, a)
		})
	}
}
