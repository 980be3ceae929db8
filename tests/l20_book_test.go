package tests

import (
	"math"
	"math/rand"
	"testing"

	"loop.example/g00040/impl"
)

// wantBook finds it among all that the asset is ever worth.
func wantBook(a impl.Thing, years int) int {
	if !wantThingOk(a) {
		return 0
	}
	return wantWorths(a)[min(max(years, 0), a.Years)]
}

func checkBook(t *testing.T, a impl.Thing, years, want int) {
	t.Helper()
	if got := impl.Book(a, years); got != want {
		t.Errorf("Book(%v, %d) = %d; want %d", a, years, got, want)
	}
	if got := wantBook(a, years); got != want {
		t.Errorf("the other way Book(%v, %d) = %d; want %d", a, years, got, want)
	}
}

// Ahead of the first year, behind each one, and far behind the last.
func checkBooks(t *testing.T, a impl.Thing, worths ...int) {
	t.Helper()
	for _, years := range []int{math.MinInt, -impl.MaxYears, -3, -2, -1} {
		checkBook(t, a, years, worths[0])
	}
	for years, worth := range worths {
		checkBook(t, a, years, worth)
	}
	for _, years := range []int{a.Years, a.Years + 1, a.Years + 2, impl.MaxYears, impl.MaxYears + 1, 1000, math.MaxInt} {
		checkBook(t, a, years, worths[a.Years])
	}
}

func TestBooksOfEachMethod(t *testing.T) {
	checkBooks(t, thingOf(impl.Straight, 100, 10, 4), 100, 77, 54, 32, 10)
	checkBooks(t, thingOf(impl.Digits, 100, 10, 3), 100, 55, 25, 10)
	checkBooks(t, thingOf(impl.Rising, 100, 10, 3), 100, 85, 55, 10)
	checkBooks(t, fallingThing(100, 10, 4, 50000), 100, 50, 25, 12, 10)
	checkBooks(t, fallingThing(100, 10, 4, 0), 100, 100, 100, 100, 10)
	checkBooks(t, fallingThing(100, 30, 4, 50000), 100, 50, 30, 30, 30)
	checkBooks(t, switchThing(100, 0, 4, 30000), 100, 70, 47, 23, 0)
	checkBooks(t, usedThing(12, 0, 1, 0, 3), 12, 9, 9, 0)
	checkBooks(t, usedThing(12, 2, 0, 1, 0), 12, 12, 2, 2)
}

func TestBooksOfOneYear(t *testing.T) {
	for _, cost := range []int{0, 1, 100, impl.MaxMoney} {
		for _, rest := range []int{0, cost / 3, cost} {
			for _, a := range eachThing(cost, rest, 1, 20000) {
				checkBooks(t, a, cost, rest)
			}
		}
	}
}

func TestBooksOverTheMostYears(t *testing.T) {
	const most = impl.MaxYears
	for _, a := range eachThing(impl.MaxMoney, 7, most, 5000) {
		checkBook(t, a, 0, impl.MaxMoney)
		checkBook(t, a, most, 7)
		checkBook(t, a, most+1, 7)
		checkBooks(t, a, wantWorths(a)...)
	}
	checkBook(t, thingOf(impl.Straight, 607, 7, most), most-1, 17)
	checkBook(t, thingOf(impl.Straight, 607, 7, most), 1, 597)
	checkBook(t, thingOf(impl.Digits, 1837, 7, most), 1, 1777)
	checkBook(t, thingOf(impl.Rising, 1837, 7, most), most-1, 67)
}

func TestBooksOfNoThing(t *testing.T) {
	for _, a := range eachNoThing() {
		for _, years := range []int{math.MinInt, -1, 0, 1, 2, 3, 4, impl.MaxYears, impl.MaxYears + 1, math.MaxInt} {
			checkBook(t, a, years, 0)
		}
	}
}

func TestBooksOfSomeThings(t *testing.T) {
	chance := rand.New(rand.NewSource(204))
	for range 4000 {
		a := someThing(chance)
		lost := impl.Depreciate(a)
		for years := range a.Years + 1 {
			checkBook(t, a, years, a.Cost-sumOf(lost[:years]))
		}
		checkBook(t, a, -1, a.Cost)
		checkBook(t, a, a.Years+1+chance.Intn(100), a.Rest)
		spoilThing(chance, &a)
		checkBook(t, a, chance.Intn(9)-2, 0)
	}
}

func TestBookLeavesItsArgument(t *testing.T) {
	for range 2 {
		checkUseIsKept(t, func(a impl.Thing) {
			checkBook(t, a, 0, a.Cost)
			checkBook(t, a, 99, a.Rest)
			checkBook(t, thingWith(a, func(a *impl.Thing) { a.Rest = -1 }), 1, 0)
		})
	}
}
