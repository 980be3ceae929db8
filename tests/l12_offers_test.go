package tests

import (
	"math"
	"math/rand"
	"slices"
	"strings"
	"testing"

	"loop.example/g00040/impl"
)

var noQtys = []int{math.MinInt, -impl.MaxQty, -2, -1, impl.MaxQty + 1, impl.MaxQty + 2, 2 * impl.MaxQty, math.MaxInt}

var noQtysAbove0 = append([]int{0}, noQtys...)

var noPrices = []int{math.MinInt, -impl.MaxPrice, -2, -1, impl.MaxPrice + 1, impl.MaxPrice + 2, 2 * impl.MaxPrice, math.MaxInt}

// From, Price and so on.
func scalesOf(pairs ...int) []impl.Scale {
	list := []impl.Scale{}
	for i := 0; i < len(pairs); i += 2 {
		list = append(list, impl.Scale{From: pairs[i], Price: pairs[i+1]})
	}
	return list
}

// Of nuts, from day 10 to day 20; the first From is the Least.
func offerOf(cur int, pairs ...int) impl.Offer {
	return impl.Offer{Who: "who", Item: "nuts", Cur: cur, First: 10, Last: 20, Least: pairs[0], Scales: scalesOf(pairs...)}
}

func handOffer() impl.Offer { return offerOf(1, 5, 10, 20, 8, 21, 9, 100, 0) }

func offerWith(change func(o *impl.Offer)) impl.Offer {
	o := handOffer()
	change(&o)
	return o
}

func copyOffer(o impl.Offer) impl.Offer {
	o.Scales = slices.Clone(o.Scales)
	return o
}

func sameOffer(a, b impl.Offer) bool {
	plain := a.Who == b.Who && a.Item == b.Item && a.Cur == b.Cur && a.First == b.First && a.Last == b.Last && a.Least == b.Least
	return plain && slices.Equal(a.Scales, b.Scales)
}

func isQty(n int) bool { return n >= 0 && n <= impl.MaxQty }

func isPrice(n int) bool { return n >= 0 && n <= impl.MaxPrice }

// Every two Scales are held against each other, not only neighbours.
func wantOfferOk(o impl.Offer, curs int) bool {
	if !curCount(curs) || o.Cur < 0 || o.Cur > curs-1 || !accountName.MatchString(o.Who) || !accountName.MatchString(o.Item) {
		return false
	}
	if !isDay(o.First) || !isDay(o.Last) || o.Last < o.First || o.Least == 0 || !isQty(o.Least) {
		return false
	}
	if len(o.Scales) == 0 || len(o.Scales) > impl.MaxScales || o.Scales[0].From != o.Least {
		return false
	}
	for i, s := range o.Scales {
		if !isQty(s.From) || !isPrice(s.Price) {
			return false
		}
		for _, later := range o.Scales[i+1:] {
			if later.From <= s.From {
				return false
			}
		}
	}
	return true
}

func wantOfferPrice(o impl.Offer, curs, qty int) (int, bool) {
	if !wantOfferOk(o, curs) || !isQty(qty) || qty < o.Least {
		return 0, false
	}
	for _, s := range slices.Backward(o.Scales) {
		if s.From <= qty {
			return qty * s.Price, true
		}
	}
	return 0, false
}

func checkOfferPrice(t *testing.T, o impl.Offer, curs, qty, want int) {
	t.Helper()
	wanted, wantOk := wantOfferPrice(o, curs, qty)
	if got, ok := impl.OfferPrice(o, curs, qty); got != want || !ok || wanted != want || !wantOk {
		t.Errorf("OfferPrice(%v, %d, %d) = %d, %v; want %d, true", o, curs, qty, got, ok, want)
	}
}

func refuseOfferPrice(t *testing.T, o impl.Offer, curs, qty int) {
	t.Helper()
	_, wantOk := wantOfferPrice(o, curs, qty)
	if got, ok := impl.OfferPrice(o, curs, qty); got != 0 || ok || wantOk {
		t.Errorf("OfferPrice(%v, %d, %d) = %d, %v; want 0, false", o, curs, qty, got, ok)
	}
}

// checkOffer asks OfferPrice and BestOffer for their answers to an offer that is not right, too.
func checkOffer(t *testing.T, want bool, o impl.Offer, curs int) {
	t.Helper()
	if got := impl.OfferOk(o, curs); got != want || wantOfferOk(o, curs) != want {
		t.Errorf("OfferOk(%v, %d) = %v; want %v", o, curs, got, want)
	}
	if want {
		return
	}
	for _, qty := range []int{-1, 0, 1, 5, o.Least, 100, impl.MaxQty, impl.MaxQty + 1} {
		refuseOfferPrice(t, o, curs, qty)
		for _, day := range []int{o.First, o.Last, 15} {
			if at, cost := impl.BestOffer([]impl.Offer{o}, nil, curs, o.Item, qty, day); at != -1 || cost != 0 {
				t.Errorf("BestOffer(%v, none, %d, %q, %d, %d) = %d, %d; want -1, 0", o, curs, o.Item, qty, day, at, cost)
			}
		}
	}
}

func TestOfferByHand(t *testing.T) {
	checkOffer(t, true, handOffer(), 2)
	checkOffer(t, true, offerOf(0, 1, 0), 1)
	checkOffer(t, false, impl.Offer{}, 1)
	checkOffer(t, false, impl.Offer{}, 0)
	checkOffer(t, true, impl.Offer{Who: "w", Item: "i", Last: 9, Least: 5, Scales: scalesOf(5, 10)}, 1)
}

func TestNamesOfOffers(t *testing.T) {
	for _, name := range []string{"a", "Z", "0", "-", "_", ".", "nuts", "n-1_b.C", strings.Repeat("n", impl.MaxName)} {
		checkOffer(t, true, offerWith(func(o *impl.Offer) { o.Who = name }), 2)
		checkOffer(t, true, offerWith(func(o *impl.Offer) { o.Item = name }), 2)
		checkOffer(t, true, offerWith(func(o *impl.Offer) { o.Who, o.Item = name, name }), 2)
	}
	for _, name := range noNames {
		checkOffer(t, false, offerWith(func(o *impl.Offer) { o.Who = name }), 2)
		checkOffer(t, false, offerWith(func(o *impl.Offer) { o.Item = name }), 2)
	}
}

func TestCurrenciesOfOffers(t *testing.T) {
	for curs := 1; curs <= impl.MaxCurs; curs++ {
		for cur := -2; cur <= impl.MaxCurs+2; cur++ {
			checkOffer(t, 0 <= cur && cur < curs, offerOf(cur, 5, 10), curs)
		}
		for _, cur := range []int{math.MinInt, math.MaxInt} {
			checkOffer(t, false, offerOf(cur, 5, 10), curs)
		}
	}
	for _, curs := range noCounts {
		for _, cur := range []int{math.MinInt, -1, 0, 1, impl.MaxCurs - 1, impl.MaxCurs, impl.MaxCurs + 1, curs - 1, curs} {
			checkOffer(t, false, offerOf(cur, 5, 10), curs)
		}
	}
}

func TestDaysOfOffers(t *testing.T) {
	days := []int{0, 1, 2, 366, impl.MaxDay - 1, impl.MaxDay}
	for _, first := range days {
		for _, last := range days {
			checkOffer(t, first <= last, offerWith(func(o *impl.Offer) { o.First, o.Last = first, last }), 2)
		}
		for _, none := range noDays {
			checkOffer(t, false, offerWith(func(o *impl.Offer) { o.First, o.Last = first, none }), 2)
			checkOffer(t, false, offerWith(func(o *impl.Offer) { o.First, o.Last = none, first }), 2)
		}
	}
	for _, none := range noDays {
		checkOffer(t, false, offerWith(func(o *impl.Offer) { o.First, o.Last = none, none }), 2)
	}
}

func TestLeastOfOffers(t *testing.T) {
	for _, least := range []int{1, 2, 500, impl.MaxQty - 1, impl.MaxQty} {
		checkOffer(t, true, offerOf(0, least, 10), 1)
		for _, from := range []int{least - 1, least + 1, 0, -1} {
			checkOffer(t, false, offerWith(func(o *impl.Offer) { o.Least, o.Scales = least, scalesOf(from, 10) }), 2)
			checkOffer(t, false, offerWith(func(o *impl.Offer) { o.Least, o.Scales = from, scalesOf(least, 10) }), 2)
		}
	}
	for _, least := range noQtysAbove0 {
		checkOffer(t, false, offerOf(0, least, 10), 1)
		checkOffer(t, false, offerOf(0, least, 10, 30, 9), 1)
		checkOffer(t, false, offerWith(func(o *impl.Offer) { o.Least = least }), 2)
	}
	// A later From that is Least does not make up for the first.
	checkOffer(t, false, offerWith(func(o *impl.Offer) { o.Least = 20 }), 2)
}

func manyScales(count int) []impl.Scale {
	list := make([]impl.Scale, count)
	for i := range list {
		list[i] = impl.Scale{From: 5 + 3*i, Price: (7 * i) % 11}
	}
	return list
}

func TestHowManyScalesThereMayBe(t *testing.T) {
	for count := range impl.MaxScales + 4 {
		want := count >= 1 && count <= impl.MaxScales
		checkOffer(t, want, offerWith(func(o *impl.Offer) { o.Scales = manyScales(count) }), 2)
	}
	checkOffer(t, false, offerWith(func(o *impl.Offer) { o.Scales = nil }), 2)
	checkOffer(t, false, offerWith(func(o *impl.Offer) { o.Least, o.Scales = 0, nil }), 2)
	checkOffer(t, false, offerWith(func(o *impl.Offer) { o.Scales = manyScales(100000) }), 2)
	most := offerWith(func(o *impl.Offer) { o.Scales = manyScales(impl.MaxScales) })
	checkOfferPrice(t, most, 2, 5+3*(impl.MaxScales-1), (5+3*(impl.MaxScales-1))*((7*(impl.MaxScales-1))%11))
}

func TestFromsOfScales(t *testing.T) {
	for at := 1; at < len(handOffer().Scales); at++ {
		for from := range 130 {
			o := offerWith(func(o *impl.Offer) { o.Scales[at].From = from })
			checkOffer(t, wantOfferOk(o, 2), o, 2)
		}
		for _, from := range noQtys {
			checkOffer(t, false, offerWith(func(o *impl.Offer) { o.Scales[at].From = from }), 2)
		}
		checkOffer(t, false, offerWith(func(o *impl.Offer) { o.Scales[at].From = o.Scales[at-1].From }), 2)
		checkOffer(t, false, offerWith(func(o *impl.Offer) { o.Scales[at].From = o.Scales[at-1].From - 1 }), 2)
		checkOffer(t, true, offerWith(func(o *impl.Offer) { o.Scales[at].From = o.Scales[at-1].From + 1; o.Scales = o.Scales[:at+1] }), 2)
	}
	checkOffer(t, true, offerOf(0, 5, 10, impl.MaxQty-1, 9, impl.MaxQty, 8), 1)
	checkOffer(t, false, offerOf(0, 5, 10, impl.MaxQty, 9, impl.MaxQty+1, 8), 1)
	checkOffer(t, false, offerOf(0, 5, 10, impl.MaxQty, 9, impl.MaxQty, 8), 1)
	checkOffer(t, false, offerOf(0, 5, 10, 7, 9, 6, 8), 1)
	checkOffer(t, false, offerOf(0, 5, 10, 5, 9), 1)
	checkOffer(t, false, offerOf(0, 5, 10, 9, 9, 7, 8, 10, 7), 1)
}

func TestPricesOfScales(t *testing.T) {
	for at := range handOffer().Scales {
		for _, price := range []int{0, 1, impl.MaxPrice - 1, impl.MaxPrice} {
			checkOffer(t, true, offerWith(func(o *impl.Offer) { o.Scales[at].Price = price }), 2)
		}
		for _, price := range noPrices {
			checkOffer(t, false, offerWith(func(o *impl.Offer) { o.Scales[at].Price = price }), 2)
		}
	}
}

func TestOfferPriceByHand(t *testing.T) {
	o := handOffer()  // 10 from 5 on, 8 from 20 on, 9 from 21 on, nothing from 100 on
	rows := [][2]int{ // qty, want
		{5, 50}, {6, 60}, {18, 180}, {19, 190}, {20, 160}, {21, 189}, {22, 198}, {98, 882}, {99, 891}, {100, 0}, {101, 0}, {impl.MaxQty, 0},
	}
	for _, r := range rows {
		checkOfferPrice(t, o, 2, r[0], r[1])
		checkOfferPrice(t, o, impl.MaxCurs, r[0], r[1])
		refuseOfferPrice(t, o, 1, r[0]) // there is no currency 1
	}
	for _, qty := range []int{4, 3, 1, 0, -1, -5} {
		refuseOfferPrice(t, o, 2, qty)
	}
	for _, qty := range noQtys {
		refuseOfferPrice(t, o, 2, qty)
	}
}

func TestOfferPriceAtTheLimits(t *testing.T) {
	dear := offerOf(0, 1, impl.MaxPrice)
	checkOfferPrice(t, dear, 1, 1, impl.MaxPrice)
	checkOfferPrice(t, dear, 1, impl.MaxQty-1, impl.MaxMoney-impl.MaxPrice)
	checkOfferPrice(t, dear, 1, impl.MaxQty, impl.MaxMoney)
	refuseOfferPrice(t, dear, 1, 0)
	refuseOfferPrice(t, dear, 1, impl.MaxQty+1)
	most := offerOf(0, impl.MaxQty, 3)
	checkOfferPrice(t, most, 1, impl.MaxQty, 3*impl.MaxQty)
	refuseOfferPrice(t, most, 1, impl.MaxQty-1)
	refuseOfferPrice(t, most, 1, impl.MaxQty+1)
	free := offerOf(0, 1, 0)
	checkOfferPrice(t, free, 1, 1, 0)
	checkOfferPrice(t, free, 1, impl.MaxQty, 0)
	last := offerOf(0, 1, 5, impl.MaxQty, 4)
	checkOfferPrice(t, last, 1, impl.MaxQty-1, 5*(impl.MaxQty-1))
	checkOfferPrice(t, last, 1, impl.MaxQty, 4*impl.MaxQty)
}

func TestOfferPriceAroundEachFrom(t *testing.T) {
	o := offerWith(func(o *impl.Offer) { o.Scales = manyScales(impl.MaxScales) })
	for i, s := range o.Scales {
		checkOfferPrice(t, o, 2, s.From, s.From*s.Price)
		checkOfferPrice(t, o, 2, s.From+1, (s.From+1)*s.Price)
		if i > 0 {
			checkOfferPrice(t, o, 2, s.From-1, (s.From-1)*o.Scales[i-1].Price)
		} else {
			refuseOfferPrice(t, o, 2, s.From-1)
		}
	}
}

func someOffer(chance *rand.Rand, items []string, curs int) impl.Offer {
	first := 5 + chance.Intn(10)
	o := impl.Offer{Who: "w", Item: items[chance.Intn(len(items))], Cur: chance.Intn(curs), First: first, Last: first + chance.Intn(10), Least: 1 + chance.Intn(6)}
	from := o.Least
	for range 1 + chance.Intn(4) {
		o.Scales = append(o.Scales, impl.Scale{From: from, Price: chance.Intn(20)})
		from += 1 + chance.Intn(5)
	}
	return o
}

func spoilOffer(chance *rand.Rand, o *impl.Offer) {
	s := &o.Scales[chance.Intn(len(o.Scales))]
	switch chance.Intn(8) {
	case 0:
		o.Who = []string{"", "a b", "other"}[chance.Intn(3)]
	case 1:
		o.Item = []string{"", "é", "nuts"}[chance.Intn(3)]
	case 2:
		o.Cur += chance.Intn(7) - 3
	case 3:
		o.First, o.Last = o.Last, o.First
	case 4:
		o.First -= chance.Intn(16)
	case 5:
		o.Least += chance.Intn(3) - 1
	case 6:
		s.From += chance.Intn(9) - 4
	case 7:
		s.Price -= chance.Intn(5)
	}
}

func TestSomeOffers(t *testing.T) {
	chance := rand.New(rand.NewSource(121))
	right, wrong, priced := 0, 0, 0
	for range 4000 {
		o := someOffer(chance, []string{"nuts", "bolts"}, 4)
		for range chance.Intn(3) {
			spoilOffer(chance, &o)
		}
		want := wantOfferOk(o, 4)
		checkOffer(t, want, o, 4)
		if !want {
			wrong++
			continue
		}
		right++
		for qty := range 30 {
			if price, ok := wantOfferPrice(o, 4, qty); ok {
				checkOfferPrice(t, o, 4, qty, price)
				priced++
			} else {
				refuseOfferPrice(t, o, 4, qty)
			}
		}
	}
	if right < 1000 || wrong < 1000 || priced < 10000 {
		t.Errorf("%d right, %d wrong, %d prices", right, wrong, priced)
	}
}

// Behind the Scales stand more, which are neither read nor written.
func TestOffersStayAsTheyWere(t *testing.T) {
	wide := scalesOf(5, 10, 20, 8, 20, -1, 3, 3)
	kept := slices.Clone(wide)
	o := handOffer()
	o.Scales = wide[:2]
	checkOffer(t, true, o, 2)
	checkOfferPrice(t, o, 2, 19, 190)
	checkOfferPrice(t, o, 2, 20, 160)
	checkOfferPrice(t, o, 2, 30, 240)
	refuseOfferPrice(t, o, 2, 4)
	o.Scales = wide[:3]
	checkOffer(t, false, o, 2)
	if !slices.Equal(wide, kept) {
		t.Error("scales were written into")
	}
}
