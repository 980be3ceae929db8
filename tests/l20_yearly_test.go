package tests

import (
	"math/rand"
	"slices"
	"testing"

	"loop.example/g00040/impl"
)

func wantYearlyOk(list []impl.Thing, years int) bool {
	for _, a := range list {
		if !wantThingOk(a) {
			return false
		}
	}
	return len(list) <= impl.MaxParts && years != 0 && upTo(years, impl.MaxYears)
}

// wantYearly reckons by what all assets are worth together as each year ends.
func wantYearly(list []impl.Thing, years int) []int {
	all := []int{}
	if !wantYearlyOk(list, years) {
		return all
	}
	for year := range years {
		lost := 0
		for _, a := range list {
			worths := wantWorths(a)
			lost += worths[min(year, a.Years)] - worths[min(year+1, a.Years)]
		}
		all = append(all, lost)
	}
	return all
}

func checkYearly(t *testing.T, list []impl.Thing, years int, want ...int) []int {
	t.Helper()
	got := impl.Yearly(list, years)
	if !slices.Equal(got, want) {
		t.Errorf("Yearly(%v, %d) = %v; want %v", list[:min(4, len(list))], years, got, want)
	}
	if own := wantYearly(list, years); !slices.Equal(own, want) {
		t.Errorf("the other way Yearly(%v, %d) = %v; want %v", list[:min(4, len(list))], years, own, want)
	}
	return got
}

func noYearly(t *testing.T, list []impl.Thing, years int) {
	t.Helper()
	checkYearly(t, list, years)
}

func TestYearlyByHand(t *testing.T) {
	a, short := thingOf(impl.Straight, 100, 10, 4), thingOf(impl.Rising, 9, 0, 1)
	list := thingsOf(a, short)
	checkYearly(t, list, 1, 32)
	checkYearly(t, list, 2, 32, 23)
	checkYearly(t, list, 4, 32, 23, 22, 22)
	checkYearly(t, list, 6, 32, 23, 22, 22, 0, 0)
	checkYearly(t, thingsOf(short, a), 2, 32, 23)
	checkYearly(t, thingsOf(a, a, short, a), 3, 78, 69, 66)
	all := thingsOf(a, fallingThing(100, 10, 4, 50000), switchThing(100, 0, 4, 30000), thingOf(impl.Digits, 100, 10, 3), thingOf(impl.Rising, 100, 10, 3), usedThing(12, 0, 1, 0, 3))
	checkYearly(t, all, 5, 23+50+30+45+15+3, 23+25+23+30+30, 22+13+24+15+45+9, 22+2+23, 0)
}

func TestYearlyOfNoneAndOfOne(t *testing.T) {
	for _, years := range []int{1, 2, 7, impl.MaxYears} {
		checkYearly(t, nil, years, make([]int, years)...)
		checkYearly(t, []impl.Thing{}, years, make([]int, years)...)
	}
	for _, length := range []int{1, 2, 3, impl.MaxYears - 1, impl.MaxYears} {
		for _, a := range eachThing(1000, 7, length, 9000) {
			lost := append(wantLost(a), make([]int, impl.MaxYears)...)
			for _, years := range []int{1, 2, 3, length, min(length+1, impl.MaxYears), impl.MaxYears - 1, impl.MaxYears} {
				checkYearly(t, thingsOf(a), years, lost[:years]...)
			}
		}
	}
}

func TestHowManyThingsThereMayBe(t *testing.T) {
	a := thingOf(impl.Straight, impl.MaxMoney, 0, 2)
	for _, count := range []int{1, 2, 60, 61, impl.MaxParts - 1, impl.MaxParts} {
		list := slices.Repeat(thingsOf(a), count)
		checkYearly(t, list, 1, count*impl.MaxMoney/2)
		checkYearly(t, list, 3, count*impl.MaxMoney/2, count*impl.MaxMoney/2, 0)
	}
	for _, count := range []int{impl.MaxParts + 1, impl.MaxParts + 2, 2000} {
		noYearly(t, slices.Repeat(thingsOf(a), count), 1)
		noYearly(t, slices.Repeat(thingsOf(a), count), 3)
	}
}

func TestYearsOfYearly(t *testing.T) {
	a := thingOf(impl.Straight, 5*impl.MaxYears, 0, impl.MaxYears)
	for _, list := range [][]impl.Thing{nil, thingsOf(a), thingsOf(a, thingOf(impl.Digits, 9, 0, 2), a)} {
		for _, years := range noThingYears {
			noYearly(t, list, years)
		}
	}
	for years := 1; years <= impl.MaxYears; years++ {
		checkYearly(t, thingsOf(a), years, repeated(5, years)...)
		checkYearly(t, thingsOf(a, a), years, repeated(10, years)...)
	}
}

func TestNoThingAmongOthers(t *testing.T) {
	right := eachThing(100, 10, 3, 20000)
	for _, a := range eachNoThing() {
		noYearly(t, thingsOf(a), 2)
		for at := range len(right) + 1 {
			noYearly(t, slices.Insert(slices.Clone(right), at, a), 2)
		}
	}
	most := slices.Repeat(thingsOf(thingOf(impl.Straight, 2, 0, 2)), impl.MaxParts)
	for _, at := range []int{0, 1, 100, impl.MaxParts - 2, impl.MaxParts - 1} {
		list := slices.Clone(most)
		list[at].Rest = 3
		noYearly(t, list, 2)
		list[at].Rest = 2
		checkYearly(t, list, 2, impl.MaxParts-1, impl.MaxParts-1)
	}
}

// All that they lose is told where there are years enough, wherever the list is cut.
func TestYearlyAddsUp(t *testing.T) {
	chance := rand.New(rand.NewSource(207))
	for range 1500 {
		list := someThings(chance, 9)
		above := 0
		for _, a := range list {
			above += a.Cost - a.Rest
		}
		all := impl.Yearly(list, impl.MaxYears)
		if sumOf(all) != above {
			t.Errorf("%v lose %v; above their Rests is %d", list, all, above)
		}
		at := chance.Intn(len(list) + 1)
		first, second := impl.Yearly(list[:at], impl.MaxYears), impl.Yearly(list[at:], impl.MaxYears)
		for year, n := range all {
			if n != first[year]+second[year] || n < 0 {
				t.Errorf("%v lose %d in year %d; in two parts %d and %d", list, n, year, first[year], second[year])
			}
		}
		years := 1 + chance.Intn(impl.MaxYears)
		checkYearly(t, list, years, all[:years]...)
	}
}

func TestYearlyOfSomeThings(t *testing.T) {
	chance := rand.New(rand.NewSource(208))
	told, none := 0, 0
	for range 3000 {
		list, years := someThings(chance, 6), chance.Intn(impl.MaxYears+2)
		if len(list) > 0 && chance.Intn(3) == 0 {
			spoilThing(chance, &list[chance.Intn(len(list))])
		}
		want := wantYearly(list, years)
		checkYearly(t, list, years, want...)
		if len(want) > 0 {
			told++
		} else {
			none++
		}
	}
	if told < 1500 || none < 500 {
		t.Errorf("%d told, %d not", told, none)
	}
}

func TestYearlyLeavesItsArguments(t *testing.T) {
	list := append(thingsOf(thingOf(impl.Straight, 100, 10, 4), usedThing(12, 0, withRoom(1, 0, 3)...)), thingOf(-7, -7, -7, -7))[:2]
	kept, keptUse := slices.Clone(list[:cap(list)]), roomOf(list[1].Use)
	for _, want := range [][]int{{26, 23}, {26, 23, 31}, {26, 23, 31, 22, 0}} {
		spoilList(checkYearly(t, list, len(want), want...))
		spoilList(checkYearly(t, list, len(want), want...))
		noYearly(t, list[:3], len(want))
		noYearly(t, list, 0)
	}
	if !slices.EqualFunc(list[:cap(list)], kept, sameThing) || !slices.Equal(roomOf(list[1].Use), keptUse) {
		t.Errorf("the arguments were written into: %v", list[:cap(list)])
	}
}
