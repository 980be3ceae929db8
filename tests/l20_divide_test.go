package tests

import (
	"math"
	"math/rand"
	"slices"
	"testing"

	"loop.example/g00040/impl"
)

// What is left of an asset behind so many years, with this Cost and this Rest.
func leftThing(a impl.Thing, years, cost, rest int) impl.Thing {
	left := impl.Thing{Cost: cost, Rest: rest, Years: a.Years - years, Method: a.Method, Rate: a.Rate}
	for year, n := range a.Use {
		if year >= years {
			left.Use = append(left.Use, n)
		}
	}
	return left
}

// wantDivide reckons both parts on their own: the second one has of Rest what its part keeps of it.
func wantDivide(a impl.Thing, years, part int) (impl.Thing, impl.Thing, bool) {
	book := wantBook(a, years)
	if !wantThingOk(a) || !placeAmong(years, a.Years) || !upTo(part, book) || !upTo(book, impl.MaxFactor) {
		return impl.Thing{}, impl.Thing{}, false
	}
	first, second := 0, 0
	if book > 0 {
		first = wantMulDiv(a.Rest, part, book, impl.Half)
		second = keptOf(a.Rest, book-part, book)
	}
	p, q := leftThing(a, years, part, first), leftThing(a, years, book-part, second)
	if !wantThingOk(p) || !wantThingOk(q) {
		return impl.Thing{}, impl.Thing{}, false
	}
	return p, q, true
}

// P54: divided it is worth what it was, and loses what was above its Rest.
func checkParts(t *testing.T, a impl.Thing, years, part int, p, q impl.Thing) {
	t.Helper()
	book := impl.Book(a, years)
	lost := sumOf(impl.Depreciate(p)) + sumOf(impl.Depreciate(q))
	if p.Cost != part || p.Cost+q.Cost != book || p.Rest+q.Rest != a.Rest || lost != book-a.Rest {
		t.Errorf("%v worth %d behind %d years is divided into %v and %v that lose %d", a, book, years, p, q, lost)
	}
	if !impl.ThingOk(p) || !impl.ThingOk(q) {
		t.Errorf("%v is divided behind %d years into %v and %v", a, years, p, q)
	}
}

func checkDivide(t *testing.T, a impl.Thing, years, part int, p, q impl.Thing) (impl.Thing, impl.Thing) {
	t.Helper()
	first, second, ok := impl.Divide(a, years, part)
	if !ok || !sameThing(first, p) || !sameThing(second, q) {
		t.Errorf("Divide(%v, %d, %d) = %v, %v, %t; want %v, %v", a, years, part, first, second, ok, p, q)
	}
	if first, second, ok := wantDivide(a, years, part); !ok || !sameThing(first, p) || !sameThing(second, q) {
		t.Errorf("the other way Divide(%v, %d, %d) = %v, %v, %t; want %v, %v", a, years, part, first, second, ok, p, q)
	}
	checkParts(t, a, years, part, first, second)
	return first, second
}

// Two parts with the Cost and Rest of the first one, and those of the second.
func checkDivided(t *testing.T, a impl.Thing, years, cost, rest, otherCost, otherRest int) {
	t.Helper()
	checkDivide(t, a, years, cost, leftThing(a, years, cost, rest), leftThing(a, years, otherCost, otherRest))
}

func noDivide(t *testing.T, a impl.Thing, years, part int) {
	t.Helper()
	p, q, ok := impl.Divide(a, years, part)
	if zero := (impl.Thing{}); ok || !sameThing(p, zero) || !sameThing(q, zero) {
		t.Errorf("Divide(%v, %d, %d) = %v, %v, %t; want none", a, years, part, p, q, ok)
	}
	if _, _, ok := wantDivide(a, years, part); ok {
		t.Errorf("the other way Divide(%v, %d, %d) is one", a, years, part)
	}
}

func checkOwnDivide(t *testing.T, a impl.Thing, years, part int) bool {
	t.Helper()
	p, q, ok := wantDivide(a, years, part)
	if ok {
		checkDivide(t, a, years, part, p, q)
	} else {
		noDivide(t, a, years, part)
	}
	return ok
}

func TestDivideByHand(t *testing.T) {
	a := thingOf(impl.Straight, 100, 10, 4)
	checkDivide(t, a, 1, 20, thingOf(impl.Straight, 20, 3, 3), thingOf(impl.Straight, 57, 7, 3))
	checkDivide(t, a, 0, 50, thingOf(impl.Straight, 50, 5, 4), thingOf(impl.Straight, 50, 5, 4))
	checkDivide(t, a, 3, 16, thingOf(impl.Straight, 16, 5, 1), thingOf(impl.Straight, 16, 5, 1))
	checkDivide(t, fallingThing(100, 10, 4, 50000), 2, 5, fallingThing(5, 2, 2, 50000), fallingThing(20, 8, 2, 50000))
	checkDivide(t, switchThing(100, 0, 4, 30000), 1, 30, switchThing(30, 0, 3, 30000), switchThing(40, 0, 3, 30000))
	checkDivide(t, thingOf(impl.Digits, 100, 10, 3), 1, 5, thingOf(impl.Digits, 5, 1, 2), thingOf(impl.Digits, 50, 9, 2))
	checkDivide(t, thingOf(impl.Rising, 100, 10, 3), 1, 50, thingOf(impl.Rising, 50, 6, 2), thingOf(impl.Rising, 35, 4, 2))
	checkDivide(t, usedThing(12, 2, 1, 0, 4), 1, 8, usedThing(8, 2, 0, 4), usedThing(2, 0, 0, 4))
}

func TestYearsOfDivide(t *testing.T) {
	for _, length := range []int{1, 2, 3, impl.MaxYears} {
		for _, a := range eachThing(1000, 100, length, 3000) {
			for years := range length {
				book := impl.Book(a, years)
				p, q := checkDivide(t, a, years, book, leftThing(a, years, book, 100), leftThing(a, years, 0, 0))
				if p.Years != length-years || q.Years != length-years {
					t.Errorf("%v has %d and %d years behind %d", a, p.Years, q.Years, years)
				}
			}
			for _, years := range []int{math.MinInt, -length, -2, -1, length, length + 1, impl.MaxYears, impl.MaxYears + 1, math.MaxInt} {
				for _, part := range []int{0, 1, 100, 1000} {
					noDivide(t, a, years, part)
				}
			}
		}
	}
}

func TestPartsOfDivide(t *testing.T) {
	for _, a := range eachThing(100, 10, 4, 20000) {
		for years := range 4 {
			book := impl.Book(a, years)
			checkDivided(t, a, years, 0, 0, book, 10)
			checkDivided(t, a, years, book, 10, 0, 0)
			for part := range book + 1 {
				checkOwnDivide(t, a, years, part)
			}
			for _, part := range []int{math.MinInt, -book, -2, -1, book + 1, book + 2, impl.MaxFactor + 1, math.MaxInt} {
				noDivide(t, a, years, part)
			}
			if years > 0 {
				noDivide(t, a, years, 100)
			}
		}
	}
}

func TestRestThatComesToAHalf(t *testing.T) {
	checkDivided(t, thingOf(impl.Straight, 4, 1, 2), 0, 2, 1, 2, 0)
	checkDivided(t, thingOf(impl.Straight, 10, 5, 2), 0, 5, 3, 5, 2)
	checkDivided(t, thingOf(impl.Straight, 10, 5, 2), 0, 1, 1, 9, 4)
	checkDivided(t, thingOf(impl.Straight, 10, 5, 2), 0, 9, 5, 1, 0)
	checkDivided(t, thingOf(impl.Straight, 100, 7, 1), 0, 50, 4, 50, 3)
	checkDivided(t, thingOf(impl.Straight, 100, 7, 1), 0, 49, 3, 51, 4)
	checkDivided(t, thingOf(impl.Straight, 100, 7, 1), 0, 51, 4, 49, 3)
	checkDivided(t, fallingThing(8, 3, 3, 50000), 1, 2, 2, 2, 1)
	checkDivided(t, fallingThing(8, 4, 3, 50000), 1, 1, 1, 3, 3)
	checkDivided(t, thingOf(impl.Rising, 6, 6, 3), 1, 1, 1, 5, 5)
}

func TestDivideWhatIsWorthNothing(t *testing.T) {
	for _, length := range []int{1, 2, 3} {
		for _, a := range eachThing(0, 0, length, 20000) {
			for years := range length {
				checkDivided(t, a, years, 0, 0, 0, 0)
				noDivide(t, a, years, -1)
				noDivide(t, a, years, 1)
			}
			noDivide(t, a, length, 0)
		}
	}
	for _, a := range []impl.Thing{
		fallingThing(100, 0, 3, wholeSale),
		switchThing(100, 0, 3, wholeSale),
		thingOf(impl.Straight, 1, 0, 3),
		thingOf(impl.Digits, 1, 0, 3),
		usedThing(1, 0, 3, 2, 1),
	} {
		for years := 1; years < 3; years++ {
			checkDivided(t, a, years, 0, 0, 0, 0)
			noDivide(t, a, years, 1)
		}
		checkDivided(t, a, 0, 1, 0, a.Cost-1, 0)
	}
}

func TestBookAtItsLimitInDivide(t *testing.T) {
	const most = impl.MaxFactor
	for _, a := range eachThing(most, 0, 2, 20000) {
		for _, rest := range []int{0, 1, most / 2, most} {
			a.Cost, a.Rest = most, rest
			checkDivided(t, a, 0, 0, 0, most, rest)
			checkDivided(t, a, 0, most, rest, 0, 0)
			checkDivided(t, a, 0, most/2, (rest+1)/2, most/2, rest/2)
			a.Cost++
			for _, part := range []int{0, 1, most / 2, most, most + 1} {
				noDivide(t, a, 0, part)
			}
			a.Cost = impl.MaxMoney
			noDivide(t, a, 0, 0)
			noDivide(t, a, 0, most)
		}
	}
	// Its Cost may be above it where its Book is not.
	checkDivided(t, thingOf(impl.Straight, 2*most, 0, 2), 1, 7, 0, most-7, 0)
	noDivide(t, thingOf(impl.Straight, 2*most+2, 0, 2), 1, 7)
	checkDivided(t, fallingThing(impl.MaxMoney, 5, 2, wholeSale), 1, 1, 1, 4, 4)
	checkDivided(t, fallingThing(2*most, most, 3, 50000), 1, 4000000, 4000000, 6000000, 6000000)
	noDivide(t, fallingThing(2*most, most, 3, 50000), 0, 4000000)
	noDivide(t, fallingThing(2*most, most+1, 3, 50000), 2, 4000000)
}

func TestUseThatIsLeft(t *testing.T) {
	a := usedThing(100, 10, 1, 0, 3, 0, 5)
	for years := range 5 {
		p, q := checkDivide(t, a, years, 6, leftThing(a, years, 6, wantMulDiv(10, 6, impl.Book(a, years), impl.Half)),
			leftThing(a, years, impl.Book(a, years)-6, 10-wantMulDiv(10, 6, impl.Book(a, years), impl.Half)))
		if !slices.Equal(p.Use, a.Use[years:]) || !slices.Equal(q.Use, a.Use[years:]) {
			t.Errorf("behind %d years the Use is %v and %v", years, p.Use, q.Use)
		}
	}
	for _, use := range [][]int{{1, 0}, {1, 0, 0}, {0, 7, 0}, {5, 5, 0, 0}} {
		a := usedThing(100, 10, use...)
		last := slices.IndexFunc(use, func(n int) bool { return n > 0 })
		for use[last+1] > 0 {
			last++
		}
		for years := range use {
			if years <= last {
				checkOwnDivide(t, a, years, 10)
			} else {
				noDivide(t, a, years, 10)
				noDivide(t, a, years, 0)
			}
		}
	}
}

// They have none, also where theirs was an empty list with room behind it.
func TestNoUseThatIsLeft(t *testing.T) {
	for _, a := range eachThing(100, 10, 4, 20000)[:5] {
		a.Use = withRoom()
		p, q := checkDivide(t, a, 0, 50, leftThing(a, 0, 50, 5), leftThing(a, 0, 50, 5))
		if len(p.Use) != 0 || len(q.Use) != 0 {
			t.Errorf("%v is divided into %v and %v", a, p, q)
		}
		spoilList(p.Use)
		spoilList(q.Use)
		if !slices.Equal(roomOf(a.Use), []int{-7, -7}) {
			t.Errorf("the room behind the Use was handed out: %v", roomOf(a.Use))
		}
	}
}

func TestDivideNoThing(t *testing.T) {
	for _, a := range eachNoThing() {
		for _, years := range []int{-1, 0, 1, 2, 3} {
			for _, part := range []int{-1, 0, 1, 10} {
				noDivide(t, a, years, part)
			}
		}
	}
}

func TestDivideSomeThings(t *testing.T) {
	chance := rand.New(rand.NewSource(205))
	told, none := 0, 0
	for range 20000 {
		a := someThing(chance)
		years := chance.Intn(a.Years)
		part := chance.Intn(wantBook(a, years) + 1)
		switch chance.Intn(8) {
		case 0:
			years = chance.Intn(a.Years+3) - 1
		case 1:
			part = chance.Intn(a.Cost+3) - 1
		case 2:
			spoilThing(chance, &a)
		}
		if checkOwnDivide(t, a, years, part) {
			told++
		} else {
			none++
		}
	}
	if told < 9000 || none < 5000 {
		t.Errorf("%d told, %d not", told, none)
	}
}

func TestDivideLeavesItsArgument(t *testing.T) {
	for range 2 {
		checkUseIsKept(t, func(a impl.Thing) {
			want, _, _ := wantDivide(a, 1, 20)
			other := leftThing(a, 1, wantBook(a, 1)-20, 10-want.Rest)
			p, q := checkDivide(t, a, 1, 20, want, other)
			spoilList(p.Use)
			if !sameThing(q, other) {
				t.Errorf("the second part hangs on the first: %v", q)
			}
			spoilList(q.Use)
			checkDivide(t, a, 1, 20, want, other)
			noDivide(t, a, 3, 0)
			noDivide(t, a, 1, -1)
		})
	}
}
