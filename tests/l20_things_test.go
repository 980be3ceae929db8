package tests

import (
	"math"
	"math/rand"
	"slices"
	"testing"

	"loop.example/g00040/impl"
)

var wearMethods = []int{impl.Straight, impl.Falling, impl.Switch, impl.Digits, impl.Rising, impl.Usage}

var noWearMethods = []int{math.MinInt, -impl.Falling, -1, 0, 7, 8, math.MaxInt}

var noThingYears = []int{math.MinInt, -impl.MaxYears, -1, 0, impl.MaxYears + 1, impl.MaxYears + 2, math.MaxInt}

var noFallRates = []int{math.MinInt, -wholeSale, -1, wholeSale + 1, wholeSale + 2, 10 * wholeSale, math.MaxInt}

func thingOf(method, cost, rest, years int) impl.Thing {
	return impl.Thing{Cost: cost, Rest: rest, Years: years, Method: method}
}

func fallingThing(cost, rest, years, rate int) impl.Thing {
	return impl.Thing{Cost: cost, Rest: rest, Years: years, Method: impl.Falling, Rate: rate}
}

func switchThing(cost, rest, years, rate int) impl.Thing {
	return impl.Thing{Cost: cost, Rest: rest, Years: years, Method: impl.Switch, Rate: rate}
}

func usedThing(cost, rest int, use ...int) impl.Thing {
	return impl.Thing{Cost: cost, Rest: rest, Years: len(use), Method: impl.Usage, Use: use}
}

// An asset by each method; those that take a rate have this one, the used one is used more and more.
func eachThing(cost, rest, years, rate int) []impl.Thing {
	things := []impl.Thing{}
	for _, method := range wearMethods {
		a := thingOf(method, cost, rest, years)
		if takesRate(method) {
			a.Rate = rate
		}
		if method == impl.Usage {
			a.Use = daysFrom(3, years)
		}
		things = append(things, a)
	}
	return things
}

func takesRate(method int) bool { return method == impl.Falling || method == impl.Switch }

func thingsOf(things ...impl.Thing) []impl.Thing { return things }

func sameThing(a, b impl.Thing) bool {
	return a.Cost == b.Cost && a.Rest == b.Rest && a.Years == b.Years && a.Method == b.Method && a.Rate == b.Rate && slices.Equal(a.Use, b.Use)
}

func thingWith(a impl.Thing, change func(a *impl.Thing)) impl.Thing {
	a.Use = slices.Clone(a.Use)
	change(&a)
	return a
}

// wantThingOk tells the fields that may be by what each method takes.
func wantThingOk(a impl.Thing) bool {
	mostRate, uses := 0, 0
	switch a.Method {
	case impl.Falling, impl.Switch:
		mostRate = wholeSale
	case impl.Usage:
		uses = a.Years
	case impl.Straight, impl.Digits, impl.Rising:
	default:
		return false
	}
	used := a.Method != impl.Usage
	for _, n := range a.Use {
		if !upTo(n, impl.MaxFactor) {
			return false
		}
		used = used || n > 0
	}
	return used && len(a.Use) == uses && upTo(a.Rate, mostRate) && upTo(a.Cost, impl.MaxMoney) && upTo(a.Rest, a.Cost) && upTo(a.Years-1, impl.MaxYears-1) && a.Years > 0
}

func checkThing(t *testing.T, a impl.Thing, want bool) {
	t.Helper()
	if got := impl.ThingOk(a); got != want {
		t.Errorf("ThingOk(%v) = %t; want %t", a, got, want)
	}
	if got := wantThingOk(a); got != want {
		t.Errorf("the other way ThingOk(%v) = %t; want %t", a, got, want)
	}
}

func rightThing(t *testing.T, a impl.Thing) {
	t.Helper()
	checkThing(t, a, true)
}

func noThing(t *testing.T, a impl.Thing) {
	t.Helper()
	checkThing(t, a, false)
}

func TestLimitsOfAssets(t *testing.T) {
	numbers := [7]int{impl.MaxYears, impl.Straight, impl.Falling, impl.Switch, impl.Digits, impl.Rising, impl.Usage}
	if numbers != [7]int{60, 1, 2, 3, 4, 5, 6} {
		t.Errorf("the limit and the methods are %v", numbers)
	}
}

func TestCostsOfThings(t *testing.T) {
	for _, a := range eachThing(0, 0, 3, 20000) {
		for _, cost := range []int{0, 1, 2, 77, impl.MaxFactor, impl.MaxFactor + 1, impl.MaxMoney - 1, impl.MaxMoney} {
			a.Cost, a.Rest = cost, 0
			rightThing(t, a)
			a.Rest = cost
			rightThing(t, a)
		}
		for _, cost := range append([]int{-2, -1}, noAmounts...) {
			a.Cost, a.Rest = cost, 0
			noThing(t, a)
			a.Rest = cost
			noThing(t, a)
		}
	}
}

func TestRestsOfThings(t *testing.T) {
	for _, cost := range []int{0, 1, 2, 50, impl.MaxMoney} {
		for _, a := range eachThing(cost, 0, 3, 20000) {
			for _, rest := range []int{0, cost / 2, cost - 1, cost} {
				if rest >= 0 {
					a.Rest = rest
					rightThing(t, a)
				}
			}
			for _, rest := range []int{math.MinInt, -cost - 1, -1, cost + 1, cost + 2, math.MaxInt} {
				a.Rest = rest
				noThing(t, a)
			}
		}
	}
}

func TestYearsOfThings(t *testing.T) {
	for _, years := range []int{1, 2, 3, 59, impl.MaxYears - 1, impl.MaxYears} {
		for _, a := range eachThing(100, 10, years, 20000) {
			rightThing(t, a)
		}
	}
	for _, years := range []int{impl.MaxYears + 1, impl.MaxYears + 2, impl.MaxParts, impl.MaxParts + 1} {
		for _, a := range eachThing(100, 10, years, 20000) {
			noThing(t, a)
		}
	}
	for _, years := range noThingYears {
		for _, a := range eachThing(100, 10, 1, 20000) {
			a.Years = years
			noThing(t, a)
			a.Use = nil
			noThing(t, a)
		}
	}
}

func TestMethodsOfThings(t *testing.T) {
	for _, method := range wearMethods[:5] {
		rightThing(t, thingOf(method, 100, 10, 2))
	}
	rightThing(t, usedThing(100, 10, 1, 2))
	for _, method := range noWearMethods {
		for _, a := range eachThing(100, 10, 2, 0) {
			a.Method = method
			noThing(t, a)
		}
	}
	noThing(t, impl.Thing{})
	noThing(t, impl.Thing{Years: 1})
	rightThing(t, impl.Thing{Years: 1, Method: impl.Straight})
}

func TestRatesOfThings(t *testing.T) {
	for _, a := range eachThing(100, 10, 2, 0) {
		for _, rate := range []int{0, 1, 2, 33333, wholeSale - 1, wholeSale} {
			a.Rate = rate
			checkThing(t, a, rate == 0 || takesRate(a.Method))
		}
		for _, rate := range noFallRates {
			a.Rate = rate
			noThing(t, a)
		}
	}
}

func TestUseOfThingsThatHaveNone(t *testing.T) {
	for _, a := range eachThing(100, 10, 2, 20000)[:5] {
		for _, use := range [][]int{nil, {}, withRoom(), withRoom(1, 2)[:0]} {
			a.Use = use
			rightThing(t, a)
		}
		for _, use := range [][]int{{0}, {1}, {0, 0}, {1, 2}, {1, 2, 3}, {-1}, {impl.MaxFactor + 1}} {
			a.Use = use
			noThing(t, a)
		}
	}
}

func TestHowManyNumbersOfUse(t *testing.T) {
	for _, years := range []int{1, 2, 3, 30, impl.MaxYears} {
		for _, count := range []int{0, 1, years - 1, years, years + 1, years + 2, 2 * years, impl.MaxParts} {
			a := usedThing(100, 10, repeated(4, count)...)
			a.Years = years
			checkThing(t, a, count == years)
		}
		a := thingOf(impl.Usage, 100, 10, years)
		noThing(t, a)
		a.Use = []int{}
		noThing(t, a)
		a.Use = withRoom(repeated(4, years)...)[:years-1]
		noThing(t, a)
		a.Use = withRoom(repeated(4, years)...)
		rightThing(t, a)
	}
}

func TestUseOfNoughts(t *testing.T) {
	for _, years := range []int{1, 2, 3, impl.MaxYears} {
		noThing(t, usedThing(100, 10, make([]int, years)...))
		noThing(t, usedThing(0, 0, make([]int, years)...))
		for at := range years {
			for _, n := range []int{1, 2, impl.MaxFactor} {
				use := make([]int, years)
				use[at] = n
				rightThing(t, usedThing(100, 10, use...))
			}
		}
	}
}

func TestNumbersOfUse(t *testing.T) {
	for at := range 3 {
		for _, n := range []int{0, 1, impl.MaxFactor - 1, impl.MaxFactor} {
			use := []int{5, 6, 7}
			use[at] = n
			rightThing(t, usedThing(100, 10, use...))
		}
		for _, n := range noFactors {
			use := []int{5, 6, 7}
			use[at] = n
			noThing(t, usedThing(100, 10, use...))
		}
	}
	noThing(t, usedThing(100, 10, -1))
	noThing(t, usedThing(100, 10, -1, 1))
	noThing(t, usedThing(100, 10, -5, 9))
	rightThing(t, usedThing(100, 10, repeated(impl.MaxFactor, impl.MaxYears)...))
}

// Right assets, in which often little is to be lost, or years are few, or used for nothing.
func someThing(chance *rand.Rand) impl.Thing {
	cost := chance.Intn([]int{3, 20, 1000, impl.MaxFactor + 1, impl.MaxMoney + 1}[chance.Intn(5)])
	a := impl.Thing{Cost: cost, Years: 1 + chance.Intn([]int{3, 9, impl.MaxYears}[chance.Intn(3)]), Method: wearMethods[chance.Intn(6)]}
	if chance.Intn(3) > 0 {
		a.Rest = chance.Intn(cost + 1)
	}
	if takesRate(a.Method) {
		a.Rate = chance.Intn([]int{1, 20000, 60000, wholeSale + 1}[chance.Intn(4)])
	}
	if a.Method == impl.Usage {
		a.Use = someUse(chance, a.Years)
	}
	return a
}

// Not all of them noughts.
func someUse(chance *rand.Rand, years int) []int {
	use := make([]int, years)
	most := []int{2, 5, 100, impl.MaxFactor + 1}[chance.Intn(4)]
	for range years {
		use[chance.Intn(years)] = chance.Intn(most)
	}
	use[chance.Intn(years)] = 1 + chance.Intn(most)%impl.MaxFactor
	return use
}

func someThings(chance *rand.Rand, most int) []impl.Thing {
	things := []impl.Thing{}
	for range chance.Intn(most + 1) {
		things = append(things, someThing(chance))
	}
	return things
}

func spoilThing(chance *rand.Rand, a *impl.Thing) {
	switch chance.Intn(6) {
	case 0:
		a.Cost = noAmounts[chance.Intn(len(noAmounts))]
	case 1:
		a.Rest = []int{-1, a.Cost + 1, math.MinInt, math.MaxInt}[chance.Intn(4)]
	case 2:
		a.Years = noThingYears[chance.Intn(len(noThingYears))]
	case 3:
		a.Method = noWearMethods[chance.Intn(len(noWearMethods))]
	case 4:
		a.Rate = noFallRates[chance.Intn(len(noFallRates))]
	case 5:
		a.Use = append(slices.Clone(a.Use), chance.Intn(2))
	}
}

// Each asset with each of its fields so that it is none.
func eachNoThing() []impl.Thing {
	things := []impl.Thing{{}}
	for _, a := range eachThing(100, 10, 3, 20000) {
		for _, change := range []func(a *impl.Thing){
			func(a *impl.Thing) { a.Cost = -1 },
			func(a *impl.Thing) { a.Cost, a.Rest = -1, -1 },
			func(a *impl.Thing) { a.Cost = 9 },
			func(a *impl.Thing) { a.Cost = impl.MaxMoney + 1 },
			func(a *impl.Thing) { a.Rest = -1 },
			func(a *impl.Thing) { a.Rest = 101 },
			func(a *impl.Thing) { a.Years = -1 },
			func(a *impl.Thing) { a.Years = 0 },
			func(a *impl.Thing) { a.Years = impl.MaxYears + 1 },
			func(a *impl.Thing) { a.Method = 0 },
			func(a *impl.Thing) { a.Method = 7 },
			func(a *impl.Thing) { a.Rate = -1 },
			func(a *impl.Thing) { a.Rate = wholeSale + 1 },
			func(a *impl.Thing) { a.Use = append(a.Use, 1) },
			func(a *impl.Thing) { a.Use = []int{0, 0, 0} },
			func(a *impl.Thing) { a.Use = []int{1, 1, -1} },
			func(a *impl.Thing) { a.Use = []int{1, 1, impl.MaxFactor + 1} },
		} {
			things = append(things, thingWith(a, change))
		}
	}
	for _, a := range eachThing(100, 10, 3, 20000) {
		if !takesRate(a.Method) {
			things = append(things, thingWith(a, func(a *impl.Thing) { a.Rate = 1 }))
		}
	}
	short, long := usedThing(100, 10, 1, 2), usedThing(100, 10, 1, 2, 3, 4)
	short.Years, long.Years = 3, 3
	return append(things, thingOf(impl.Usage, 100, 10, 3), short, long)
}

func TestThingsThatAreNone(t *testing.T) {
	for _, a := range eachNoThing() {
		noThing(t, a)
	}
}

func TestSomeThings(t *testing.T) {
	chance := rand.New(rand.NewSource(201))
	for range 10000 {
		a := someThing(chance)
		rightThing(t, a)
		spoilThing(chance, &a)
		noThing(t, a)
	}
}

func TestThingOkLeavesItsArgument(t *testing.T) {
	for range 2 {
		checkUseIsKept(t, func(a impl.Thing) {
			rightThing(t, a)
			noThing(t, thingWith(a, func(a *impl.Thing) { a.Use = append(a.Use, 1) }))
			a.Rest = -1
			noThing(t, a)
		})
	}
}

// Neither the Use of an asset nor the room behind it is written into.
func checkUseIsKept(t *testing.T, ask func(a impl.Thing)) {
	t.Helper()
	for _, a := range eachThing(100, 10, 3, 30000) {
		a.Use = withRoom(a.Use...)
		kept := roomOf(a.Use)
		ask(a)
		if !slices.Equal(roomOf(a.Use), kept) {
			t.Errorf("the Use was written into: %v", roomOf(a.Use))
		}
	}
}
