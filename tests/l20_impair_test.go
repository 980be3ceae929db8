package tests

import (
	"math"
	"math/rand"
	"slices"
	"testing"

	"loop.example/g00040/impl"
)

// wantImpair finds what is lost among the worths that lie between.
func wantImpair(a impl.Thing, years, worth int) (impl.Thing, int, bool) {
	if !wantThingOk(a) || !placeAmong(years, a.Years) || !upTo(worth, wantBook(a, years)) {
		return impl.Thing{}, 0, false
	}
	left := leftThing(a, years, worth, a.Rest)
	if worth < a.Rest {
		left.Rest = worth
	}
	if !wantThingOk(left) {
		return impl.Thing{}, 0, false
	}
	return left, wantWorths(a)[years] - worth, true
}

// P54: impaired it loses what it is less worth, and then what is above its Rest.
func checkImpair(t *testing.T, a impl.Thing, years, worth, rest, lost int) impl.Thing {
	t.Helper()
	want := leftThing(a, years, worth, rest)
	left, n, ok := impl.Impair(a, years, worth)
	if !ok || n != lost || !sameThing(left, want) {
		t.Errorf("Impair(%v, %d, %d) = %v, %d, %t; want %v, %d", a, years, worth, left, n, ok, want, lost)
	}
	if left, n, ok := wantImpair(a, years, worth); !ok || n != lost || !sameThing(left, want) {
		t.Errorf("the other way Impair(%v, %d, %d) = %v, %d, %t; want %v, %d", a, years, worth, left, n, ok, want, lost)
	}
	ahead, behind := sumOf(impl.Depreciate(a)[:years]), sumOf(impl.Depreciate(left))
	if n < 0 || !impl.ThingOk(left) || behind != worth-rest || ahead+n+behind+rest != a.Cost {
		t.Errorf("%v loses %d, then %d by an impairment and %d behind it", a, ahead, n, behind)
	}
	return left
}

func noImpair(t *testing.T, a impl.Thing, years, worth int) {
	t.Helper()
	left, n, ok := impl.Impair(a, years, worth)
	if ok || n != 0 || !sameThing(left, impl.Thing{}) {
		t.Errorf("Impair(%v, %d, %d) = %v, %d, %t; want none", a, years, worth, left, n, ok)
	}
	if _, _, ok := wantImpair(a, years, worth); ok {
		t.Errorf("the other way Impair(%v, %d, %d) is one", a, years, worth)
	}
}

func checkOwnImpair(t *testing.T, a impl.Thing, years, worth int) bool {
	t.Helper()
	left, lost, ok := wantImpair(a, years, worth)
	if ok {
		checkImpair(t, a, years, worth, left.Rest, lost)
	} else {
		noImpair(t, a, years, worth)
	}
	return ok
}

func TestImpairByHand(t *testing.T) {
	a := thingOf(impl.Straight, 100, 10, 4)
	checkImpair(t, a, 2, 8, 8, 46)
	checkImpair(t, a, 2, 30, 10, 24)
	checkImpair(t, a, 0, 50, 10, 50)
	checkImpair(t, a, 3, 32, 10, 0)
	checkImpair(t, fallingThing(100, 10, 4, 50000), 2, 20, 10, 5)
	checkImpair(t, switchThing(100, 0, 4, 30000), 1, 30, 0, 40)
	checkImpair(t, thingOf(impl.Digits, 100, 10, 3), 1, 11, 10, 44)
	checkImpair(t, thingOf(impl.Rising, 100, 10, 3), 1, 5, 5, 80)
	left := checkImpair(t, usedThing(12, 2, 1, 0, 4), 1, 8, 2, 2)
	if want := usedThing(8, 2, 0, 4); !sameThing(left, want) {
		t.Errorf("what is left is %v; want %v", left, want)
	}
}

func TestYearsOfImpair(t *testing.T) {
	for _, length := range []int{1, 2, 3, impl.MaxYears} {
		for _, a := range eachThing(1000, 100, length, 3000) {
			for years := range length {
				left := checkImpair(t, a, years, 100, 100, impl.Book(a, years)-100)
				if left.Years != length-years || left.Method != a.Method || left.Rate != a.Rate {
					t.Errorf("behind %d years of %v is left %v", years, a, left)
				}
			}
			for _, years := range []int{math.MinInt, -length, -2, -1, length, length + 1, impl.MaxYears, impl.MaxYears + 1, math.MaxInt} {
				for _, worth := range []int{0, 1, 100, 1000} {
					noImpair(t, a, years, worth)
				}
			}
		}
	}
}

func TestWorthsOfImpair(t *testing.T) {
	for _, rest := range []int{0, 1, 2, 10} {
		for _, a := range eachThing(100, rest, 4, 20000) {
			for years := range 4 {
				book := impl.Book(a, years)
				checkImpair(t, a, years, 0, 0, book)
				checkImpair(t, a, years, rest, rest, book-rest)
				checkImpair(t, a, years, book, rest, 0)
				if book > rest {
					checkImpair(t, a, years, rest+1, rest, book-rest-1)
				}
				if rest > 0 {
					checkImpair(t, a, years, rest-1, rest-1, book-rest+1)
				}
				for worth := range book + 1 {
					checkOwnImpair(t, a, years, worth)
				}
				for _, worth := range []int{math.MinInt, -book, -2, -1, book + 1, book + 2, impl.MaxMoney + 1, math.MaxInt} {
					noImpair(t, a, years, worth)
				}
				if years > 0 {
					noImpair(t, a, years, 100)
				}
			}
		}
	}
}

func TestImpairWhatIsWorthNothing(t *testing.T) {
	for _, length := range []int{1, 2, 3} {
		for _, a := range eachThing(0, 0, length, 20000) {
			for years := range length {
				checkImpair(t, a, years, 0, 0, 0)
				noImpair(t, a, years, -1)
				noImpair(t, a, years, 1)
			}
			noImpair(t, a, length, 0)
		}
	}
	checkImpair(t, fallingThing(100, 0, 3, wholeSale), 1, 0, 0, 0)
	noImpair(t, fallingThing(100, 0, 3, wholeSale), 1, 1)
}

func TestImpairWhatIsWorthMuch(t *testing.T) {
	for _, cost := range []int{impl.MaxFactor, impl.MaxFactor + 1, impl.MaxMoney} {
		for _, a := range eachThing(cost, 5, 2, 20000) {
			checkImpair(t, a, 0, 0, 0, cost)
			checkImpair(t, a, 0, 4, 4, cost-4)
			checkImpair(t, a, 0, 7, 5, cost-7)
			checkImpair(t, a, 0, cost-1, 5, 1)
			checkImpair(t, a, 0, cost, 5, 0)
			noImpair(t, a, 0, cost+1)
		}
	}
	checkImpair(t, thingOf(impl.Straight, impl.MaxMoney, 0, 2), 1, 1, 0, impl.MaxMoney/2-1)
	checkImpair(t, fallingThing(impl.MaxMoney, impl.MaxMoney, 2, 1), 1, 9, 9, impl.MaxMoney-9)
}

func TestUseThatIsLeftBehindAnImpairment(t *testing.T) {
	for _, use := range [][]int{{1, 0}, {0, 1}, {1, 0, 0}, {0, 7, 0}, {1, 0, 3, 0, 5}, {5, 5, 0, 0}} {
		a := usedThing(100, 10, use...)
		for years := range use {
			if sumOf(use[years:]) > 0 {
				left := checkImpair(t, a, years, 10, 10, impl.Book(a, years)-10)
				if !slices.Equal(left.Use, use[years:]) {
					t.Errorf("behind %d years the Use is %v", years, left.Use)
				}
				continue
			}
			for _, worth := range []int{-1, 0, 1, 10, 11} {
				noImpair(t, a, years, worth)
			}
		}
	}
	for _, a := range eachThing(100, 10, 4, 20000)[:5] {
		a.Use = withRoom()
		spoilList(checkImpair(t, a, 0, 50, 10, 50).Use)
		if !slices.Equal(roomOf(a.Use), []int{-7, -7}) {
			t.Errorf("the room behind the Use was handed out: %v", roomOf(a.Use))
		}
	}
}

func TestImpairNoThing(t *testing.T) {
	for _, a := range eachNoThing() {
		for _, years := range []int{-1, 0, 1, 2, 3} {
			for _, worth := range []int{-1, 0, 1, 10} {
				noImpair(t, a, years, worth)
			}
		}
	}
}

func TestImpairSomeThings(t *testing.T) {
	chance := rand.New(rand.NewSource(206))
	told, none := 0, 0
	for range 20000 {
		a := someThing(chance)
		years := chance.Intn(a.Years)
		worth := chance.Intn(wantBook(a, years) + 1)
		switch chance.Intn(6) {
		case 0:
			years = chance.Intn(a.Years+3) - 1
		case 1:
			worth = chance.Intn(a.Cost+3) - 1
		case 2:
			spoilThing(chance, &a)
		case 3:
			worth = min(worth, a.Rest)
		}
		if checkOwnImpair(t, a, years, worth) {
			told++
		} else {
			none++
		}
	}
	if told < 10000 || none < 4000 {
		t.Errorf("%d told, %d not", told, none)
	}
}

func TestImpairLeavesItsArgument(t *testing.T) {
	for range 2 {
		checkUseIsKept(t, func(a impl.Thing) {
			lost := impl.Book(a, 1) - 20
			spoilList(checkImpair(t, a, 1, 20, 10, lost).Use)
			spoilList(checkImpair(t, a, 1, 20, 10, lost).Use)
			noImpair(t, a, 3, 0)
			noImpair(t, a, 1, -1)
		})
	}
}
