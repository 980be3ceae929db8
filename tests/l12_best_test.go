package tests

import (
	"cmp"
	"math"
	"math/rand"
	"slices"
	"testing"

	"loop.example/g00040/impl"
)

type costAt struct{ cost, place int }

// All offers that may be taken are laid out with their costs, and sorted.
func wantBest(list []impl.Offer, rates []impl.Rate, curs int, item string, qty, day int) (int, int) {
	taken := []costAt{}
	for i, o := range list {
		price, ok := wantOfferPrice(o, curs, qty)
		if !ok || o.Item != item || day < o.First || day > o.Last {
			continue
		}
		if cost, ok := wantConvert(rates, curs, price, o.Cur, 0, day); ok {
			taken = append(taken, costAt{cost, i})
		}
	}
	if len(taken) == 0 || len(list) > impl.MaxOffers {
		return -1, 0
	}
	slices.SortFunc(taken, func(a, b costAt) int { return cmp.Or(a.cost-b.cost, a.place-b.place) })
	return taken[0].place, taken[0].cost
}

// What it costs by the program's own OfferPrice and Convert, for P30; -1 when it may not be taken.
func costOfOffer(o impl.Offer, rates []impl.Rate, curs int, item string, qty, day int) int {
	price, ok := impl.OfferPrice(o, curs, qty)
	if !ok || o.Item != item || o.First > day || day > o.Last {
		return -1
	}
	cost, ok := impl.Convert(rates, curs, price, o.Cur, 0, day)
	if !ok {
		return -1
	}
	return cost
}

// P30: it is one that may be taken, and none that may be costs less.
func checkBestPromise(t *testing.T, list []impl.Offer, rates []impl.Rate, curs int, item string, qty, day, at, cost int) {
	t.Helper()
	if at != -1 && (at < 0 || at >= len(list) || costOfOffer(list[at], rates, curs, item, qty, day) != cost) {
		t.Errorf("BestOffer(%v, .., %q, %d, %d) = %d, %d: which is not what it costs", list, item, qty, day, at, cost)
		return
	}
	for i, o := range list {
		other := costOfOffer(o, rates, curs, item, qty, day)
		if other != -1 && (at == -1 || other < cost || other == cost && i < at) {
			t.Errorf("BestOffer(%v, .., %q, %d, %d) = %d, %d, but the offer %d costs %d", list, item, qty, day, at, cost, i, other)
		}
	}
}

func checkBest(t *testing.T, list []impl.Offer, rates []impl.Rate, curs int, item string, qty, day, wantAt, wantCost int) {
	t.Helper()
	at, cost := impl.BestOffer(list, rates, curs, item, qty, day)
	ownAt, ownCost := wantBest(list, rates, curs, item, qty, day)
	if at != wantAt || cost != wantCost || ownAt != wantAt || ownCost != wantCost {
		t.Errorf("BestOffer(%d offers, %d rates, %d, %q, %d, %d) = %d, %d; want %d, %d; the first ones: %v", len(list), len(rates), curs, item, qty, day, at, cost, wantAt, wantCost, list[:min(4, len(list))])
	}
	if len(list) <= impl.MaxOffers {
		checkBestPromise(t, list, rates, curs, item, qty, day, at, cost)
	}
}

func noBest(t *testing.T, list []impl.Offer, rates []impl.Rate, curs int, item string, qty, day int) {
	t.Helper()
	checkBest(t, list, rates, curs, item, qty, day, -1, 0)
}

// In the house's own alone, for qty on day 15.
func checkOwnBest(t *testing.T, qty, wantAt, wantCost int, list ...impl.Offer) {
	t.Helper()
	checkBest(t, list, nil, 1, "nuts", qty, 15, wantAt, wantCost)
}

func TestBestOfferByHand(t *testing.T) {
	checkOwnBest(t, 10, 0, 30, offerOf(0, 5, 3))
	checkOwnBest(t, 10, 1, 20, offerOf(0, 5, 3), offerOf(0, 5, 2), offerOf(0, 5, 4))
	checkOwnBest(t, 10, 0, 20, offerOf(0, 5, 2), offerOf(0, 5, 3))
	checkOwnBest(t, 10, 2, 10, offerOf(0, 5, 3), offerOf(0, 5, 2), offerOf(0, 5, 1))
	checkOwnBest(t, 10, 1, 0, offerOf(0, 5, 3), offerOf(0, 5, 0))
	// By the Scale of qty, not by the first or the last one.
	ladder, level := offerOf(0, 5, 9, 10, 4, 50, 1), offerOf(0, 5, 5)
	checkOwnBest(t, 9, 1, 45, ladder, level)
	checkOwnBest(t, 10, 0, 40, ladder, level)
	rising := offerOf(0, 5, 1, 10, 7)
	checkOwnBest(t, 9, 0, 9, rising, level)
	checkOwnBest(t, 10, 1, 50, rising, level)
}

func TestBestOfferOfNone(t *testing.T) {
	checkOwnBest(t, 10, -1, 0)
	noBest(t, []impl.Offer{}, handRates(), 4, "nuts", 10, 15)
	noBest(t, nil, nil, 0, "", 0, -1)
	noBest(t, []impl.Offer{{}}, nil, 1, "", 0, 0)
}

func TestHowManyOffersThereMayBe(t *testing.T) {
	for _, count := range []int{1, 2, impl.MaxOffers - 1, impl.MaxOffers} {
		list := make([]impl.Offer, count)
		for i := range list {
			list[i] = offerOf(0, 5, 100-i)
		}
		checkOwnBest(t, 10, count-1, 10*(101-count), list...)
		slices.Reverse(list)
		checkOwnBest(t, 10, 0, 10*(101-count), list...)
	}
	for _, count := range []int{impl.MaxOffers + 1, impl.MaxOffers + 2, 10000} {
		checkOwnBest(t, 10, -1, 0, slices.Repeat([]impl.Offer{offerOf(0, 5, 3)}, count)...)
		// Those that would be passed over count too.
		checkOwnBest(t, 10, -1, 0, append([]impl.Offer{offerOf(0, 5, 3)}, make([]impl.Offer, count-1)...)...)
	}
	one := append(make([]impl.Offer, impl.MaxOffers-1), offerOf(0, 5, 3))
	checkOwnBest(t, 10, impl.MaxOffers-1, 30, one...)
}

func TestBestOfferOfItems(t *testing.T) {
	bolts := offerOf(0, 5, 1)
	bolts.Item = "bolts"
	list := []impl.Offer{bolts, offerOf(0, 5, 9), bolts, offerOf(0, 5, 8)}
	checkBest(t, list, nil, 1, "nuts", 10, 15, 3, 80)
	checkBest(t, list, nil, 1, "bolts", 10, 15, 0, 10)
	for _, item := range append([]string{"Nuts", "NUTS", "nut", "nutss", "nuts ", "who"}, noNames...) {
		noBest(t, list, nil, 1, item, 10, 15)
	}
	// Who offers it does not matter.
	other := offerOf(0, 5, 7)
	other.Who = "bolts"
	checkBest(t, append(list, other), nil, 1, "nuts", 10, 15, 4, 70)
}

func TestBestOfferOfDays(t *testing.T) {
	list := []impl.Offer{offerOf(0, 5, 9), offerOf(0, 5, 8)}
	list[1].First, list[1].Last = 12, 14
	for day, want := range map[int]int{8: -1, 9: -1, 10: 0, 11: 0, 12: 1, 13: 1, 14: 1, 15: 0, 19: 0, 20: 0, 21: -1, 22: -1} {
		cost := map[int]int{-1: 0, 0: 90, 1: 80}[want]
		checkBest(t, list, nil, 1, "nuts", 10, day, want, cost)
	}
	one := offerOf(0, 5, 9)
	one.First, one.Last = 13, 13
	noBest(t, []impl.Offer{one}, nil, 1, "nuts", 10, 12)
	checkBest(t, []impl.Offer{one}, nil, 1, "nuts", 10, 13, 0, 90)
	noBest(t, []impl.Offer{one}, nil, 1, "nuts", 10, 14)
	ever := offerOf(0, 5, 9)
	ever.First, ever.Last = 0, impl.MaxDay
	checkBest(t, []impl.Offer{ever}, nil, 1, "nuts", 10, 0, 0, 90)
	checkBest(t, []impl.Offer{ever}, nil, 1, "nuts", 10, impl.MaxDay, 0, 90)
	for _, day := range noDays {
		noBest(t, []impl.Offer{ever, one}, nil, 1, "nuts", 10, day)
		none := ever
		none.First, none.Last = min(day, 0), max(day, 0)
		noBest(t, []impl.Offer{none}, nil, 1, "nuts", 10, day)
	}
}

func TestBestOfferPassesWrongOnesOver(t *testing.T) {
	wrong := []impl.Offer{
		{},
		offerWith(func(o *impl.Offer) { o.Cur, o.Who = 0, "" }),
		offerWith(func(o *impl.Offer) { o.Cur = -1 }),
		offerWith(func(o *impl.Offer) { o.Cur = 2 }),
		offerWith(func(o *impl.Offer) { o.Cur, o.Last = 0, impl.MaxDay+1 }),
		offerWith(func(o *impl.Offer) { o.Cur, o.First = 0, -1 }),
		offerOf(0, 0, 1),
		offerOf(0, 5, -1),
		offerOf(0, 5, 1, 5, 0),
		offerOf(0, 5, 1, 500, -1),
		offerWith(func(o *impl.Offer) { o.Cur, o.Scales = 0, nil }),
		offerWith(func(o *impl.Offer) { o.Cur, o.Least, o.Scales = 0, 1, scalesOf(2, 0) }),
		offerWith(func(o *impl.Offer) { o.Cur, o.Scales = 0, append(manyScales(impl.MaxScales), impl.Scale{From: 900}) }),
	}
	for _, o := range wrong {
		rates := oneRate(1, 1)
		noBest(t, []impl.Offer{o}, rates, 2, "nuts", 10, 15)
		checkBest(t, []impl.Offer{o, offerOf(0, 5, 9)}, rates, 2, "nuts", 10, 15, 1, 90)
		checkBest(t, []impl.Offer{offerOf(0, 5, 9), o}, rates, 2, "nuts", 10, 15, 0, 90)
		checkBest(t, []impl.Offer{offerOf(0, 5, 9), o, offerOf(1, 5, 8)}, rates, 2, "nuts", 10, 15, 2, 80)
	}
}

func TestBestOfferOfQuantities(t *testing.T) {
	list := []impl.Offer{offerOf(0, 1, 9), offerOf(0, 10, 5), offerOf(0, 100, 1)}
	rows := [][3]int{ // qty, place, cost
		{1, 0, 9}, {9, 0, 81}, {10, 1, 50}, {11, 1, 55}, {99, 1, 495}, {100, 2, 100}, {101, 2, 101}, {impl.MaxQty, 2, impl.MaxQty}, {0, -1, 0},
	}
	for _, r := range rows {
		checkOwnBest(t, r[0], r[1], r[2], list...)
	}
	for _, qty := range noQtys {
		checkOwnBest(t, qty, -1, 0, list...)
	}
	checkOwnBest(t, 9, -1, 0, list[1:]...)
	checkOwnBest(t, impl.MaxQty, 0, impl.MaxMoney, offerOf(0, 1, impl.MaxPrice))
}

// Currency 1 is worth 3 by 2 up to day 9, 2 up to day 19, then 5 by 3; 2 is a quarter; 3 has a rate from day 20 on.
func TestBestOfferInTheHousesOwn(t *testing.T) {
	rates := handRates()
	for _, cur := range []int{0, 1, 2} {
		one := []impl.Offer{offerOf(cur, 5, 6)}
		checkBest(t, one, rates, 4, "nuts", 10, 15, 0, []int{60, 120, 15}[cur])
	}
	// Cheaper in its own currency, but not in the house's, and the other way round.
	checkBest(t, []impl.Offer{offerOf(1, 5, 5), offerOf(0, 5, 9)}, rates, 4, "nuts", 10, 15, 1, 90)
	checkBest(t, []impl.Offer{offerOf(0, 5, 9), offerOf(1, 5, 5)}, rates, 4, "nuts", 10, 15, 0, 90)
	checkBest(t, []impl.Offer{offerOf(0, 5, 9), offerOf(2, 5, 30)}, rates, 4, "nuts", 10, 15, 1, 75)
	checkBest(t, []impl.Offer{offerOf(1, 5, 3), offerOf(2, 5, 20)}, rates, 4, "nuts", 10, 15, 1, 50)
	// It is the rate of the day that counts.
	two := []impl.Offer{offerOf(0, 5, 8), offerOf(1, 5, 4)}
	checkBest(t, two, rates, 4, "nuts", 12, 19, 0, 96)
	checkBest(t, two, rates, 4, "nuts", 12, 20, 1, 80)
	early := offerOf(1, 5, 4)
	early.First = 0
	checkBest(t, []impl.Offer{early}, rates, 4, "nuts", 12, 9, 0, 72)
	checkBest(t, []impl.Offer{early}, rates, 4, "nuts", 12, 10, 0, 96)
}

func TestBestOfferOfTheSameCost(t *testing.T) {
	checkOwnBest(t, 10, 0, 30, offerOf(0, 5, 3), offerOf(0, 1, 3), offerOf(0, 5, 9, 10, 3))
	checkOwnBest(t, 10, 1, 30, offerOf(0, 5, 4), offerOf(0, 5, 3), offerOf(0, 5, 3), offerOf(0, 5, 4))
	rates := handRates()
	checkBest(t, []impl.Offer{offerOf(0, 5, 8), offerOf(1, 5, 4), offerOf(2, 5, 32)}, rates, 4, "nuts", 10, 15, 0, 80)
	checkBest(t, []impl.Offer{offerOf(2, 5, 32), offerOf(1, 5, 4), offerOf(0, 5, 8)}, rates, 4, "nuts", 10, 15, 0, 80)
	// 58 and 60 of currency 2 are 14.5 and 15: both are rounded to 15.
	checkBest(t, []impl.Offer{offerOf(2, 1, 60), offerOf(2, 1, 58)}, rates, 4, "nuts", 1, 15, 0, 15)
	checkBest(t, []impl.Offer{offerOf(2, 1, 60), offerOf(2, 1, 57)}, rates, 4, "nuts", 1, 15, 1, 14)
	free := []impl.Offer{offerOf(2, 1, 1), offerOf(0, 1, 0)}
	checkBest(t, free, rates, 4, "nuts", 1, 15, 0, 0)
}

func TestBestOfferWithoutRates(t *testing.T) {
	rates := handRates()
	own, late := offerOf(0, 5, 9), offerOf(3, 5, 1)
	checkBest(t, []impl.Offer{late, own}, rates, 4, "nuts", 10, 19, 1, 90)
	checkBest(t, []impl.Offer{late, own}, rates, 4, "nuts", 10, 20, 0, 8)
	noBest(t, []impl.Offer{late}, rates, 4, "nuts", 10, 19)
	noBest(t, []impl.Offer{offerOf(4, 5, 1)}, rates, 5, "nuts", 10, 20)
	checkBest(t, []impl.Offer{offerOf(4, 5, 1), own}, rates, 5, "nuts", 10, 20, 1, 90)
	checkBest(t, []impl.Offer{offerOf(1, 5, 1), own}, nil, 2, "nuts", 10, 15, 1, 90)
	checkBest(t, []impl.Offer{offerOf(1, 5, 1), own}, oneRate(1, 1), 2, "nuts", 10, 15, 0, 10)
	// Rates that are not right tell nothing, of the house's own neither.
	for _, wrong := range wrongRates() {
		for _, cur := range []int{0, 1, 2, 3} {
			noBest(t, []impl.Offer{offerOf(cur, 5, 1)}, wrong, 4, "nuts", 10, 20)
		}
	}
	noBest(t, []impl.Offer{own}, rates, 3, "nuts", 10, 15) // of 4 currencies
	noBest(t, []impl.Offer{own}, fullRates(impl.MaxRates+1, 4), 4, "nuts", 10, 15)
	checkBest(t, []impl.Offer{own}, fullRates(impl.MaxRates, 4), 4, "nuts", 10, 15, 0, 90)
	for _, curs := range noCounts {
		noBest(t, []impl.Offer{own}, nil, curs, "nuts", 10, 15)
	}
	last := offerOf(impl.MaxCurs-1, 5, 1)
	checkBest(t, []impl.Offer{last}, []impl.Rate{{Day: 0, From: impl.MaxCurs - 1, Num: 7, Den: 1}}, impl.MaxCurs, "nuts", 10, 15, 0, 70)
}

// What is no amount in the house's own is not what it costs.
func TestBestOfferBeyondTheAmounts(t *testing.T) {
	rates := oneRate(2, 1)
	dear := offerOf(1, 1, impl.MaxPrice)
	checkBest(t, []impl.Offer{dear}, rates, 2, "nuts", impl.MaxQty/2, 15, 0, impl.MaxMoney)
	noBest(t, []impl.Offer{dear}, rates, 2, "nuts", impl.MaxQty/2+1, 15)
	own := offerOf(0, 1, impl.MaxPrice)
	checkBest(t, []impl.Offer{dear, own}, rates, 2, "nuts", impl.MaxQty, 15, 1, impl.MaxMoney)
	checkBest(t, []impl.Offer{own, dear}, rates, 2, "nuts", impl.MaxQty, 15, 0, impl.MaxMoney)
}

func TestSomeBestOffers(t *testing.T) {
	chance := rand.New(rand.NewSource(122))
	found, none, foreign := 0, 0, 0
	for range 4000 {
		list := make([]impl.Offer, chance.Intn(10))
		for i := range list {
			list[i] = someOffer(chance, []string{"nuts", "bolts"}, 3)
			if chance.Intn(4) == 0 {
				spoilOffer(chance, &list[i])
			}
		}
		rates := twoRates(1+chance.Intn(5), 1+chance.Intn(5), 1+chance.Intn(5), 1+chance.Intn(5))
		rates[1].Day += chance.Intn(10)
		qty, day := 1+chance.Intn(14), 6+chance.Intn(14)
		at, cost := wantBest(list, rates, 3, "nuts", qty, day)
		checkBest(t, list, rates, 3, "nuts", qty, day, at, cost)
		switch {
		case at < 0:
			none++
		case list[at].Cur > 0:
			foreign++
			fallthrough
		default:
			found++
		}
	}
	if found < 800 || none < 500 || foreign < 300 {
		t.Errorf("%d found (%d foreign), %d none", found, foreign, none)
	}
}

func TestBestOfferOfGreatNumbers(t *testing.T) {
	chance := rand.New(rand.NewSource(123))
	for range 2000 {
		list := make([]impl.Offer, 1+chance.Intn(6))
		for i := range list {
			list[i] = offerOf(chance.Intn(4), 1+chance.Intn(1000), chance.Intn(impl.MaxPrice+1), impl.MaxQty-chance.Intn(1000), chance.Intn(impl.MaxPrice+1))
			list[i].First, list[i].Last = 0, impl.MaxDay
		}
		rates := someRates(chance, 4)
		qty, day := chance.Intn(impl.MaxQty+2), chance.Intn(impl.MaxDay+1)
		at, cost := wantBest(list, rates, 4, "nuts", qty, day)
		checkBest(t, list, rates, 4, "nuts", qty, day, at, cost)
	}
	noBest(t, []impl.Offer{handOffer()}, nil, math.MaxInt, "nuts", math.MaxInt, math.MaxInt)
	noBest(t, []impl.Offer{handOffer()}, nil, math.MinInt, "nuts", math.MinInt, math.MinInt)
}

// Behind the lists stands more, which is neither read nor written.
func TestBestOfferLeavesItsLists(t *testing.T) {
	scales := scalesOf(5, 9, 6, 0)
	whole := []impl.Offer{offerOf(0, 5, 8), offerOf(1, 5, 5), offerOf(0, 5, 0), {}}
	whole[0].Scales = scales[:1]
	rates := append(oneRate(3, 2), impl.Rate{Day: 3, From: 1, Num: 0, Den: 1}, impl.Rate{Day: 9, From: 1, Num: 1, Den: 9})
	keptScales, keptRates := slices.Clone(scales), slices.Clone(rates)
	kept := make([]impl.Offer, len(whole))
	for i, o := range whole {
		kept[i] = copyOffer(o)
	}
	checkBest(t, whole[:2], rates[:1], 2, "nuts", 10, 15, 1, 75)
	checkBest(t, whole[:1], rates[:1], 2, "nuts", 10, 15, 0, 90)
	checkBest(t, whole[:0], rates[:1], 2, "nuts", 10, 15, -1, 0)
	noBest(t, whole[:2], rates[:2], 2, "nuts", 10, 15)
	if !slices.EqualFunc(whole, kept, sameOffer) || !slices.Equal(scales, keptScales) || !slices.Equal(rates, keptRates) {
		t.Error("offers or rates were written into")
	}
}
