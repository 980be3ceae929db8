package tests

import (
	"math"
	"math/rand"
	"slices"
	"testing"

	"loop.example/g00040/impl"
)

func wantTranslate(g impl.Group, at int, list, mean []impl.Rate, day int) ([]int, bool) {
	if !wantGroupOk(g) || !placeAmong(at, len(g.Members)) {
		return nil, false
	}
	m := g.Members[at]
	out, all := []int{}, 0
	for i, a := range g.Chart {
		rates := list
		switch a.Kind {
		case impl.Income, impl.Expense:
			rates = mean
		}
		n, ok := wantConvert(rates, g.Curs, m.Trial[i], m.Cur, 0, day)
		if !ok {
			return nil, false
		}
		out = append(out, n)
		all += n
	}
	out[g.Shift] -= all
	return out, amount(out[g.Shift])
}

func checkTranslate(t *testing.T, g impl.Group, at int, list, mean []impl.Rate, day int, want []int) {
	t.Helper()
	got, ok := impl.Translate(g, at, list, mean, day)
	if !ok || !slices.Equal(got, want) {
		t.Errorf("Translate(%v, %d, %v, %v, %d) = %v, %v; want %v, true", g.Members, at, list, mean, day, got, ok, want)
		return
	}
	if sumOf(got) != 0 {
		t.Errorf("Translate(%v, %d, %v, %v, %d) = %v: together %d", g.Members, at, list, mean, day, got, sumOf(got))
	}
}

func refuseTranslate(t *testing.T, g impl.Group, at int, list, mean []impl.Rate, day int) {
	t.Helper()
	if got, ok := impl.Translate(g, at, list, mean, day); ok || len(got) != 0 {
		t.Errorf("Translate(%v, %d, %v, %v, %d) = %v, %v; want nothing and false", g.Members, at, list, mean, day, got, ok)
	}
}

func translateAsWanted(t *testing.T, g impl.Group, at int, list, mean []impl.Rate, day int) bool {
	t.Helper()
	want, ok := wantTranslate(g, at, list, mean, day)
	if ok {
		checkTranslate(t, g, at, list, mean, day, want)
	} else {
		refuseTranslate(t, g, at, list, mean, day)
	}
	return ok
}

// Right for 4 currencies, with other rates than handRates on each of its days.
func meanRates() []impl.Rate {
	return []impl.Rate{
		{Day: 0, From: 1, Num: 3, Den: 1},
		{Day: 0, From: 2, Num: 1, Den: 8},
		{Day: 10, From: 1, Num: 7, Den: 2},
		{Day: 20, From: 3, Num: 1, Den: 3},
	}
}

func TestTranslateTheHousesOwn(t *testing.T) {
	g := handGroup()
	for _, day := range []int{0, 5, 10, 20, impl.MaxDay} {
		checkTranslate(t, g, 0, handRates(), meanRates(), day, g.Members[0].Trial)
		checkTranslate(t, g, 2, handRates(), meanRates(), day, g.Members[2].Trial)
		checkTranslate(t, g, 0, nil, nil, day, g.Members[0].Trial)
		checkTranslate(t, g, 2, []impl.Rate{}, nil, day, g.Members[2].Trial)
	}
}

func TestTranslateByHand(t *testing.T) {
	g := handGroup()
	checkTranslate(t, g, 1, handRates(), meanRates(), 0, trialOf(gCash, 120, gOwed, -15, gPaid, -75, gSales, -180, gRent, 120, gShift, 30))
	checkTranslate(t, g, 1, handRates(), meanRates(), 9, trialOf(gCash, 120, gOwed, -15, gPaid, -75, gSales, -180, gRent, 120, gShift, 30))
	checkTranslate(t, g, 1, handRates(), meanRates(), 10, trialOf(gCash, 160, gOwed, -20, gPaid, -100, gSales, -210, gRent, 140, gShift, 30))
	checkTranslate(t, g, 1, handRates(), meanRates(), 20, trialOf(gCash, 133, gOwed, -17, gPaid, -83, gSales, -210, gRent, 140, gShift, 37))
	checkTranslate(t, g, 3, handRates(), meanRates(), 0, trialOf(gDue, 100, gOwed, -50, gPaid, -25, gKept, -15, gShift, -10))
	checkTranslate(t, g, 1, meanRates(), handRates(), 0, trialOf(gCash, 240, gOwed, -30, gPaid, -150, gSales, -90, gRent, 60, gShift, -30))
	checkTranslate(t, g, 1, handRates(), handRates(), 0, trialOf(gCash, 120, gOwed, -15, gPaid, -75, gSales, -90, gRent, 60))
}

// The two lists tell otherwise; each leaf goes by one of them alone.
func TestByWhichRatesAnAccountGoes(t *testing.T) {
	for _, place := range groupLeaves {
		if place == gShift {
			continue
		}
		against := gCash
		if place == gCash {
			against = gDue
		}
		times := 2
		if slices.Contains([]int{gSales, gWages, gRent}, place) {
			times = 5
		}
		for _, a := range []int{1, -1, 1000} {
			g := groupOf(houseOf(0), memberOf(0, 1, 1, place, a, against, -a))
			want := trialOf(place, times*a, against, -2*a, gShift, 2*a-times*a)
			checkTranslate(t, g, 1, oneRate(2, 1), oneRate(5, 1), 5, want)
		}
	}
}

// Shift goes by the rates of the day like other equity, and bears what is off beside.
func TestTranslateShiftItself(t *testing.T) {
	g := groupOf(houseOf(1, gCash, 10, gShift, -10))
	checkTranslate(t, g, 0, oneRate(3, 2), oneRate(9, 1), 5, trialOf(gCash, 15, gShift, -15))
	g = groupOf(houseOf(1, gCash, 10, gShift, -7, gSales, -3))
	checkTranslate(t, g, 0, oneRate(2, 1), oneRate(4, 1), 5, trialOf(gCash, 20, gShift, -8, gSales, -12))
	g = groupOf(houseOf(1, gShift, 10, gSales, -10))
	checkTranslate(t, g, 0, oneRate(2, 1), oneRate(4, 1), 5, trialOf(gShift, 40, gSales, -40))
	g.Shift, g.Minor = gKept, gShift
	checkTranslate(t, g, 0, oneRate(2, 1), oneRate(4, 1), 5, trialOf(gShift, 20, gSales, -40, gKept, 20))
}

// A half goes away from 0 in each account by itself; Shift evens it out.
func TestTranslateIsRounded(t *testing.T) {
	g := groupOf(houseOf(1, gCash, 1, gDue, 1, gPaid, -2))
	checkTranslate(t, g, 0, oneRate(1, 2), oneRate(1, 2), 5, trialOf(gCash, 1, gDue, 1, gPaid, -1, gShift, -1))
	g = groupOf(houseOf(1, gCash, -3, gDue, 1, gPaid, 1, gSales, 1))
	checkTranslate(t, g, 0, oneRate(1, 2), oneRate(1, 2), 5, trialOf(gCash, -2, gDue, 1, gPaid, 1, gSales, 1, gShift, -1))
	g = groupOf(houseOf(1, gCash, 1, gPaid, -1))
	checkTranslate(t, g, 0, oneRate(1, 3), oneRate(1, 3), 5, trialOf())
	for a := -30; a <= 30; a++ {
		g = groupOf(houseOf(1, gCash, a, gDue, 7, gPaid, -7, gRent, -a))
		translateAsWanted(t, g, 0, oneRate(4, 3), oneRate(5, 7), 5)
	}
}

// Each account is asked for its rate, one with 0 and one that is no leaf too.
func TestTranslateWithoutARate(t *testing.T) {
	nothing := groupOf(houseOf(0), memberOf(0, 5000, 3))
	refuseTranslate(t, nothing, 1, handRates(), meanRates(), 19)
	checkTranslate(t, nothing, 1, handRates(), meanRates(), 20, trialOf())
	checkTranslate(t, nothing, 0, handRates(), meanRates(), 19, trialOf())
	g := groupOf(houseOf(1, gCash, 5, gPaid, -5))
	refuseTranslate(t, g, 0, oneRate(2, 1), nil, 5)
	refuseTranslate(t, g, 0, nil, oneRate(2, 1), 5)
	refuseTranslate(t, g, 0, oneRate(2, 1), oneRate(2, 1), 4)
	refuseTranslate(t, g, 0, oneRate(2, 1), []impl.Rate{{Day: 6, From: 1, Num: 2, Den: 1}}, 5)
	refuseTranslate(t, g, 0, []impl.Rate{{Day: 6, From: 1, Num: 2, Den: 1}}, oneRate(2, 1), 5)
	refuseTranslate(t, g, 0, []impl.Rate{{Day: 5, From: 2, Num: 2, Den: 1}}, oneRate(2, 1), 5)
	checkTranslate(t, g, 0, oneRate(2, 1), oneRate(3, 1), 5, trialOf(gCash, 10, gPaid, -10))
	earned := groupOf(houseOf(1, gSales, 5, gRent, -5))
	refuseTranslate(t, earned, 0, nil, oneRate(2, 1), 5)
	checkTranslate(t, earned, 0, oneRate(2, 1), oneRate(3, 1), 5, trialOf(gSales, 15, gRent, -15))
}

// Where there are neither incomes nor expenses the mean rates are not asked for, be they wrong or none.
func TestTranslateWithNothingEarned(t *testing.T) {
	g := groupOf(impl.Member{Parent: -1, Share: 10000, Cur: 1, Trial: trialOf(gCash, 5, gPaid, -5)[:gSales]})
	g.Chart = g.Chart[:gSales]
	want := trialOf(gCash, 10, gPaid, -10)[:gSales]
	checkTranslate(t, g, 0, oneRate(2, 1), oneRate(3, 1), 5, want)
	checkTranslate(t, g, 0, oneRate(2, 1), nil, 5, want)
	checkTranslate(t, g, 0, oneRate(2, 1), []impl.Rate{{}}, 5, want)
	refuseTranslate(t, g, 0, []impl.Rate{{}}, oneRate(2, 1), 5)
	refuseTranslate(t, g, 0, nil, oneRate(2, 1), 5)
	for _, kind := range []int{impl.Income, impl.Expense} {
		earning := copyGroup(g)
		earning.Chart = append(earning.Chart, impl.Account{Code: "more", Parent: -1, Kind: kind})
		earning.Members[0].Trial = append(earning.Members[0].Trial, 0)
		refuseTranslate(t, earning, 0, oneRate(2, 1), nil, 5)
		refuseTranslate(t, earning, 0, oneRate(2, 1), []impl.Rate{{}}, 5)
		checkTranslate(t, earning, 0, oneRate(2, 1), oneRate(3, 1), 5, append(slices.Clone(want), 0))
	}
}

func TestTranslateNoMember(t *testing.T) {
	g := handGroup()
	for at := -3; at <= 15; at++ {
		if at < 0 || at > 3 {
			refuseTranslate(t, g, at, handRates(), meanRates(), 20)
		} else if !translateAsWanted(t, g, at, handRates(), meanRates(), 20) {
			t.Errorf("member %d is refused", at)
		}
	}
	for _, at := range noSpots {
		refuseTranslate(t, g, at, handRates(), meanRates(), 20)
	}
	full := groupOfMany(impl.MaxMembers, 1)
	checkTranslate(t, full, impl.MaxMembers-1, nil, nil, 0, full.Members[0].Trial)
	refuseTranslate(t, full, impl.MaxMembers, nil, nil, 0)
	g.Members = append(g.Members, g.Members[0])[:4]
	refuseTranslate(t, g, 4, handRates(), meanRates(), 20)
}

func TestTranslateOnNoDay(t *testing.T) {
	for _, day := range noDays {
		for at := range 4 {
			refuseTranslate(t, handGroup(), at, handRates(), meanRates(), day)
			refuseTranslate(t, handGroup(), at, nil, nil, day)
		}
	}
	early := []impl.Rate{{Day: impl.MaxDay, From: 1, Num: 2, Den: 1}}
	refuseTranslate(t, handGroup(), 1, early, early, impl.MaxDay-1)
	checkTranslate(t, handGroup(), 1, early, early, impl.MaxDay, trialOf(gCash, 160, gOwed, -20, gPaid, -100, gSales, -120, gRent, 80))
}

// A list that is not right is refused of the house's own too.
func TestTranslateByWrongRates(t *testing.T) {
	for _, wrong := range append(wrongRates(), fullRates(impl.MaxRates+1, 4)) {
		if wantRatesOk(wrong, 4) {
			continue
		}
		for at := range 4 {
			refuseTranslate(t, handGroup(), at, wrong, meanRates(), 20)
			refuseTranslate(t, handGroup(), at, handRates(), wrong, 20)
			refuseTranslate(t, handGroup(), at, wrong, wrong, 20)
		}
	}
	full := fullRates(impl.MaxRates, 4)
	for at := range 4 {
		if !translateAsWanted(t, handGroup(), at, full, full, impl.MaxDay) {
			t.Errorf("MaxRates rates are refused of member %d", at)
		}
	}
	fewer := groupOf(houseOf(0))
	fewer.Curs = 1
	checkTranslate(t, fewer, 0, nil, nil, 5, trialOf())
	refuseTranslate(t, fewer, 0, oneRate(1, 1), nil, 5)
	refuseTranslate(t, fewer, 0, nil, oneRate(1, 1), 5)
}

// Currencies go by their places, not by the members'.
func TestTranslateEachCurrency(t *testing.T) {
	for cur := range impl.MaxCurs {
		g := groupOf(houseOf(0), memberOf(0, 1, cur, gCash, 100, gSales, -100))
		g.Curs = impl.MaxCurs
		list, mean := []impl.Rate{}, []impl.Rate{}
		for from := 1; from < impl.MaxCurs; from++ {
			list = append(list, impl.Rate{Day: 5, From: from, Num: from + 1, Den: 1})
			mean = append(mean, impl.Rate{Day: 5, From: from, Num: 50 - from, Den: 1})
		}
		want := trialOf(gCash, 100*(cur+1), gSales, -100*(50-cur), gShift, 100*(49-2*cur))
		if cur == 0 {
			want = trialOf(gCash, 100, gSales, -100)
		}
		checkTranslate(t, g, 1, list, mean, 5, want)
	}
}

// What is translated is an amount in each account.
func TestTranslateLeavesTheAmounts(t *testing.T) {
	for _, sign := range []int{1, -1} {
		a := sign * impl.MaxMoney / 2
		g := groupOf(houseOf(1, gCash, a, gPaid, -a))
		checkTranslate(t, g, 0, oneRate(2, 1), oneRate(2, 1), 5, trialOf(gCash, 2*a, gPaid, -2*a))
		refuseTranslate(t, g, 0, oneRate(impl.MaxFactor, impl.MaxFactor/2-1), oneRate(2, 1), 5)
		refuseTranslate(t, g, 0, oneRate(3, 1), oneRate(2, 1), 5)
		g = groupOf(houseOf(1, gCash, a+sign, gPaid, -a-sign))
		refuseTranslate(t, g, 0, oneRate(2, 1), oneRate(2, 1), 5)
		g = groupOf(houseOf(1, gSales, a+sign, gPaid, -a-sign))
		refuseTranslate(t, g, 0, oneRate(1, 1), oneRate(2, 1), 5)
		g = groupOf(houseOf(1, gShift, a+sign, gSales, -a-sign))
		refuseTranslate(t, g, 0, oneRate(2, 1), oneRate(1, 1), 5)
		most := sign * impl.MaxMoney
		g = groupOf(houseOf(0, gCash, most, gRent, -most))
		checkTranslate(t, g, 0, nil, nil, 5, trialOf(gCash, most, gRent, -most))
	}
}

// At mean rates of next to nothing all that was earned is shifted: first just the greatest amount, then one more.
func TestShiftLeavesTheAmounts(t *testing.T) {
	least := oneRate(1, impl.MaxFactor)
	little := impl.MaxMoney / impl.MaxFactor
	for _, sign := range []int{1, -1} {
		for more := -2; more <= 2; more++ {
			a, b := sign*impl.MaxMoney, sign*(little+more)
			g := groupOf(houseOf(1, gCash, a, gSales, -a, gDue, b, gRent, -b))
			if more > 0 {
				refuseTranslate(t, g, 0, oneRate(1, 1), least, 5)
				continue
			}
			shift := -sign * (impl.MaxMoney + more)
			checkTranslate(t, g, 0, oneRate(1, 1), least, 5, trialOf(gCash, a, gSales, -sign*little, gDue, b, gShift, shift))
		}
	}
}

func TestTranslateOfWrongGroups(t *testing.T) {
	for _, g := range wrongGroups() {
		for at := -1; at <= 4; at++ {
			refuseTranslate(t, g, at, handRates(), meanRates(), 20)
		}
	}
}

// Rates for all currencies, from a day on; the later ones may be missing or wrong.
func someGroupRates(chance *rand.Rand, curs int) []impl.Rate {
	list := []impl.Rate{}
	for day := 5; day <= 50; day += 20 {
		for from := 1; from < curs; from++ {
			if day == 5 || chance.Intn(2) == 0 {
				list = append(list, impl.Rate{Day: day, From: from, Num: 1 + chance.Intn(30), Den: 1 + chance.Intn(30)})
			}
		}
	}
	switch chance.Intn(20) {
	case 0:
		return list[:len(list)/2]
	case 1:
		return append(list, impl.Rate{Day: 60, From: curs, Num: 1, Den: 1})
	}
	return list
}

func TestSomeTranslations(t *testing.T) {
	chance := rand.New(rand.NewSource(83))
	taken, left := 0, 0
	for range 500 {
		g := someGroup(chance)
		list, mean := someGroupRates(chance, g.Curs), someGroupRates(chance, g.Curs)
		for at := range g.Members {
			if translateAsWanted(t, g, at, list, mean, 4+chance.Intn(60)) {
				taken++
			} else {
				left++
			}
		}
	}
	if taken < 500 || left < 200 {
		t.Errorf("%d translated, %d refused", taken, left)
	}
}

// Lists with something behind their length, which is neither read nor written.
func roomyRates(list []impl.Rate) []impl.Rate {
	return append(list, impl.Rate{Day: -4}, impl.Rate{From: math.MaxInt})[:len(list)]
}

func roomyGroup() impl.Group {
	g := handGroup()
	g.Chart = append(g.Chart, impl.Account{Code: "behind", Parent: 77})[:gCount]
	g.Members = append(g.Members, impl.Member{Parent: 99, Trial: []int{5}})[:4]
	for i, m := range g.Members {
		g.Members[i].Trial = append(m.Trial, 12345)[:gCount]
	}
	return g
}

// What lies behind the lengths is held against each other too.
func sameRoomyGroup(a, b impl.Group) bool {
	widen := func(g impl.Group) impl.Group {
		g.Chart, g.Members = g.Chart[:gCount+1], g.Members[:5]
		return g
	}
	for i := range a.Members {
		if !slices.Equal(a.Members[i].Trial[:gCount+1], b.Members[i].Trial[:gCount+1]) {
			return false
		}
	}
	return sameGroup(widen(a), widen(b))
}

func TestTranslateLeavesItsArguments(t *testing.T) {
	g, list, mean := roomyGroup(), roomyRates(handRates()), roomyRates(meanRates())
	for at := -1; at <= 4; at++ {
		one, ok := impl.Translate(g, at, list, mean, 20)
		other, _ := impl.Translate(g, at, list, mean, 20)
		for i := range one {
			one[i] = 99999
		}
		_ = append(one, 88888)
		if ok != (len(other) == gCount) || slices.Contains(other, 99999) {
			t.Errorf("two answers of Translate at %d: %v, %v", at, one, other)
		}
		if !sameRoomyGroup(g, roomyGroup()) {
			t.Fatal("Translate wrote into the group, or handed it out")
		}
		if !slices.Equal(list[:8], roomyRates(handRates())[:8]) || !slices.Equal(mean[:6], roomyRates(meanRates())[:6]) {
			t.Fatal("Translate wrote into the rates")
		}
	}
}
