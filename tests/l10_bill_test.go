package tests

import (
	"math"
	"math/rand"
	"slices"
	"testing"

	"loop.example/g00040/impl"
)

// Two rules of each kind, within three of them, and some with a Rate of 0, all for the days 10 to 99; "turn" is of another kind and rate from day 50 on, and "late" has a gap.
func handTaxes() []impl.TaxRule {
	return []impl.TaxRule{
		taxOf("v", impl.TaxPlain, 20000, 10, 99),
		taxOf("low", impl.TaxPlain, 7500, 10, 99),
		taxOf("v0", impl.TaxPlain, 0, 10, 99),
		taxOf("o", impl.TaxOver, 10000, 10, 99),
		taxOf("oo", impl.TaxOver, 2500, 10, 99),
		taxOf("w", impl.TaxWithin, 25000, 10, 99),
		taxOf("ww", impl.TaxWithin, 6000, 10, 99),
		taxOf("w0", impl.TaxWithin, 0, 10, 99),
		taxOf("r", impl.TaxReverse, 50000, 10, 99),
		taxOf("rr", impl.TaxReverse, 19000, 10, 99),
		taxOf("turn", impl.TaxWithin, 100000, 50, 99),
		taxOf("turn", impl.TaxPlain, 30000, 10, 49),
		taxOf("late", impl.TaxPlain, 1000, 10, 20),
		taxOf("late", impl.TaxPlain, 2000, 22, 22),
		taxOf("late", impl.TaxPlain, 3000, 24, impl.MaxDay),
	}
}

const taxDay = 30

func partOf(code string, kind, base, tax int) impl.TaxPart {
	return impl.TaxPart{Code: code, Kind: kind, Base: base, Tax: tax}
}

func sameBill(a, b impl.TaxBill) bool {
	return a.Net == b.Net && a.Gross == b.Gross && slices.Equal(a.Parts, b.Parts)
}

func ruleThen(rules []impl.TaxRule, code string, day int) (impl.TaxRule, bool) {
	for _, r := range rules {
		if r.Code == code && day >= r.From && day <= r.To {
			return r, true
		}
	}
	return impl.TaxRule{}, false
}

func wantRulesThen(rules []impl.TaxRule, codes, free []string, day int) ([]impl.TaxRule, bool) {
	list := []impl.TaxRule{}
	for i, code := range codes {
		r, ok := ruleThen(rules, code, day)
		if !ok || slices.Contains(codes[i+1:], code) {
			return nil, false
		}
		if slices.Index(free, code) >= 0 {
			r.Rate = 0
		}
		list = append(list, r)
	}
	return list, true
}

// The taxes within are reckoned among themselves; the others, each from the first code on.
func wantBill(list []impl.TaxRule, price int) impl.TaxBill {
	rates, places := []int{}, []int{}
	for i, r := range list {
		if r.Kind == impl.TaxWithin {
			rates, places = append(rates, r.Rate), append(places, i)
		}
	}
	all := sumOf(rates)
	bill := impl.TaxBill{Net: wantMulDiv(price, wholeTax, wholeTax+all, impl.Half), Parts: make([]impl.TaxPart, len(list))}
	for i, r := range list {
		bill.Parts[i] = partOf(r.Code, r.Kind, bill.Net, 0)
	}
	if all > 0 {
		for k, share := range wantShares(price-bill.Net, rates) {
			bill.Parts[places[k]].Tax = share
		}
	}
	counted := func(parts []impl.TaxPart) int {
		taxes := bill.Net
		for _, p := range parts {
			if p.Kind != impl.TaxReverse {
				taxes += p.Tax
			}
		}
		return taxes
	}
	for i, r := range list {
		if r.Kind == impl.TaxOver {
			bill.Parts[i].Base = counted(bill.Parts[:i])
		}
		if r.Kind != impl.TaxWithin {
			bill.Parts[i].Tax = wantMulDiv(bill.Parts[i].Base, r.Rate, wholeTax, impl.Half)
		}
	}
	bill.Gross = counted(bill.Parts)
	return bill
}

func wantTaxOf(rules []impl.TaxRule, codes, free []string, price, day int) (impl.TaxBill, bool) {
	if !wantTaxRulesOk(rules) || len(codes) > impl.MaxTaxCodes || len(free) > impl.MaxTaxRules || !amount(price) {
		return impl.TaxBill{}, false
	}
	list, ok := wantRulesThen(rules, codes, free, day)
	if !ok {
		return impl.TaxBill{}, false
	}
	bill := wantBill(list, price)
	for _, p := range bill.Parts {
		ok = ok && amount(p.Base) && amount(p.Tax)
	}
	return bill, ok && amount(bill.Gross)
}

// P25: Net and all that is within are together the price; with all codes free Net and Gross are the price.
func checkBillPromise(t *testing.T, codes, free []string, price int, bill impl.TaxBill) {
	t.Helper()
	within := bill.Net
	for _, p := range bill.Parts {
		if p.Kind == impl.TaxWithin {
			within += p.Tax
		}
	}
	if within != price {
		t.Errorf("TaxOf %v of %d = %v: Net and what is within are together %d", codes, price, bill, within)
	}
	for _, code := range codes {
		if !slices.Contains(free, code) {
			return
		}
	}
	if bill.Net != price || bill.Gross != price {
		t.Errorf("TaxOf %v of %d, all of them free = %v: Net and Gross are not the price", codes, price, bill)
	}
}

func checkBill(t *testing.T, rules []impl.TaxRule, codes, free []string, price, day int, want impl.TaxBill) {
	t.Helper()
	got, ok := impl.TaxOf(rules, codes, free, price, day)
	if !ok || !sameBill(got, want) {
		t.Errorf("TaxOf(%d rules, %v, %v, %d, %d) = %v, %v; want %v, true", len(rules), codes, free, price, day, got, ok, want)
		return
	}
	checkBillPromise(t, codes, free, price, got)
}

func refuseBill(t *testing.T, rules []impl.TaxRule, codes, free []string, price, day int) {
	t.Helper()
	if got, ok := impl.TaxOf(rules, codes, free, price, day); ok || !sameBill(got, impl.TaxBill{}) {
		t.Errorf("TaxOf(%d rules, %v, %v, %d, %d) = %v, %v; want the zero value and false", len(rules), codes, free, price, day, got, ok)
	}
}

func billAsWanted(t *testing.T, rules []impl.TaxRule, codes, free []string, price, day int) bool {
	t.Helper()
	want, ok := wantTaxOf(rules, codes, free, price, day)
	if !ok {
		refuseBill(t, rules, codes, free, price, day)
		return false
	}
	checkBill(t, rules, codes, free, price, day, want)
	return true
}

// By the rules of handTaxes, none of them free; pairs are the Base and the Tax of each code.
func checkTaxes(t *testing.T, codes []string, price, net, gross int, pairs ...int) {
	t.Helper()
	want := impl.TaxBill{Net: net, Gross: gross}
	for i, code := range codes {
		r, _ := ruleThen(handTaxes(), code, taxDay)
		want.Parts = append(want.Parts, partOf(code, r.Kind, pairs[2*i], pairs[2*i+1]))
	}
	checkBill(t, handTaxes(), codes, nil, price, taxDay, want)
}

func TestBillWithoutCodes(t *testing.T) {
	for _, price := range []int{0, 1, -1, 1000, impl.MaxMoney, -impl.MaxMoney} {
		checkTaxes(t, nil, price, price, price)
		checkTaxes(t, []string{}, price, price, price)
		checkBill(t, nil, nil, nil, price, taxDay, impl.TaxBill{Net: price, Gross: price})
		checkBill(t, nil, nil, []string{"v", "", "v"}, price, taxDay, impl.TaxBill{Net: price, Gross: price})
	}
	// A day is asked for by a code alone.
	for _, day := range noDays {
		checkBill(t, handTaxes(), nil, nil, 7, day, impl.TaxBill{Net: 7, Gross: 7})
	}
	for _, price := range noAmounts {
		refuseBill(t, nil, nil, nil, price, taxDay)
		refuseBill(t, handTaxes(), nil, nil, price, taxDay)
	}
}

func TestBillOfOneKind(t *testing.T) {
	checkTaxes(t, []string{"v"}, 1000, 1000, 1200, 1000, 200)
	checkTaxes(t, []string{"v"}, -1000, -1000, -1200, -1000, -200)
	checkTaxes(t, []string{"v"}, 0, 0, 0, 0, 0)
	checkTaxes(t, []string{"v0"}, 1000, 1000, 1000, 1000, 0)
	checkTaxes(t, []string{"o"}, 1000, 1000, 1100, 1000, 100)
	checkTaxes(t, []string{"w"}, 1000, 800, 1000, 800, 200)
	checkTaxes(t, []string{"w"}, -1000, -800, -1000, -800, -200)
	checkTaxes(t, []string{"w"}, 0, 0, 0, 0, 0)
	checkTaxes(t, []string{"w0"}, 1000, 1000, 1000, 1000, 0)
	checkTaxes(t, []string{"r"}, 1000, 1000, 1000, 1000, 500)
	checkTaxes(t, []string{"r"}, -1000, -1000, -1000, -1000, -500)
	checkTaxes(t, []string{"v", "low"}, 1000, 1000, 1275, 1000, 200, 1000, 75)
	checkTaxes(t, []string{"o", "oo"}, 1000, 1000, 1128, 1000, 100, 1100, 28)
	checkTaxes(t, []string{"oo", "o"}, 1000, 1000, 1128, 1000, 25, 1025, 103)
	checkTaxes(t, []string{"r", "rr"}, 1000, 1000, 1000, 1000, 500, 1000, 190)
}

func TestBillOfMixedKinds(t *testing.T) {
	checkTaxes(t, []string{"v", "o"}, 1000, 1000, 1320, 1000, 200, 1200, 120)
	checkTaxes(t, []string{"o", "v"}, 1000, 1000, 1300, 1000, 100, 1000, 200)
	checkTaxes(t, []string{"w", "o"}, 1000, 800, 1100, 800, 200, 1000, 100)
	checkTaxes(t, []string{"o", "w"}, 1000, 800, 1080, 800, 80, 800, 200)
	checkTaxes(t, []string{"r", "o"}, 1000, 1000, 1100, 1000, 500, 1000, 100)
	checkTaxes(t, []string{"o", "r"}, 1000, 1000, 1100, 1000, 100, 1000, 500)
	checkTaxes(t, []string{"w", "v"}, 1000, 800, 1160, 800, 200, 800, 160)
	checkTaxes(t, []string{"v", "w"}, 1000, 800, 1160, 800, 160, 800, 200)
	checkTaxes(t, []string{"w", "r"}, 1000, 800, 1000, 800, 200, 800, 400)
	checkTaxes(t, []string{"r", "w"}, 1000, 800, 1000, 800, 400, 800, 200)
	checkTaxes(t, []string{"r", "v"}, 1000, 1000, 1200, 1000, 500, 1000, 200)
}

// What is within counts as ahead of a TaxOver only where its code stands ahead, though it is reckoned first.
func TestBillOfOverBehindAll(t *testing.T) {
	checkTaxes(t, []string{"w", "v", "r", "o", "oo"}, 1000, 800, 1308, 800, 200, 800, 160, 800, 400, 1160, 116, 1276, 32)
	checkTaxes(t, []string{"v", "w", "r", "o"}, 1000, 800, 1276, 800, 160, 800, 200, 800, 400, 1160, 116)
	checkTaxes(t, []string{"o", "v", "r", "w"}, 1000, 800, 1240, 800, 80, 800, 160, 800, 400, 800, 200)
	checkTaxes(t, []string{"v", "o", "w", "oo"}, 1000, 800, 1287, 800, 160, 960, 96, 800, 200, 1256, 31)
}

func TestBillOfSeveralWithin(t *testing.T) {
	checkTaxes(t, []string{"w", "ww"}, 1310, 1000, 1310, 1000, 250, 1000, 60)
	checkTaxes(t, []string{"ww", "w"}, 1310, 1000, 1310, 1000, 60, 1000, 250)
	checkTaxes(t, []string{"w", "w0", "ww"}, 1310, 1000, 1310, 1000, 250, 1000, 0, 1000, 60)
	checkTaxes(t, []string{"w0", "ww"}, 1060, 1000, 1060, 1000, 0, 1000, 60)
	checkTaxes(t, []string{"w", "ww"}, 5, 4, 5, 4, 1, 4, 0)
	checkTaxes(t, []string{"ww", "w"}, 5, 4, 5, 4, 0, 4, 1)
	checkTaxes(t, []string{"ww", "w"}, -5, -4, -5, -4, 0, -4, -1)
	checkTaxes(t, []string{"v", "w", "r", "ww", "o"}, 1310, 1000, 1661, 1000, 200, 1000, 250, 1000, 500, 1000, 60, 1510, 151)
	same := []impl.TaxRule{
		taxOf("a", impl.TaxWithin, 50000, 0, 9),
		taxOf("b", impl.TaxWithin, 50000, 0, 9),
		taxOf("c", impl.TaxWithin, 50000, 0, 9),
	}
	for _, sign := range []int{1, -1} {
		for at, want := range [][4]int{{0, 0, 0, 0}, {0, 1, 0, 0}, {1, 1, 0, 0}, {1, 1, 1, 0}, {2, 1, 1, 0}, {2, 1, 1, 1}, {2, 2, 1, 1}, {3, 2, 1, 1}, {3, 2, 2, 1}} {
			bill := impl.TaxBill{Net: sign * want[0], Gross: sign * at}
			for i, code := range []string{"c", "a", "b"} {
				bill.Parts = append(bill.Parts, partOf(code, impl.TaxWithin, bill.Net, sign*want[1+i]))
			}
			checkBill(t, same, []string{"c", "a", "b"}, nil, sign*at, 5, bill)
		}
	}
}

// Where the rates of all that is within are together 0, nothing is within.
func TestBillOfNothingWithin(t *testing.T) {
	rules := append(handTaxes(), taxOf("x0", impl.TaxWithin, 0, 0, 99))
	for _, price := range []int{1, 0, -1, 1310, impl.MaxMoney, -impl.MaxMoney} {
		none := impl.TaxBill{Net: price, Gross: price, Parts: []impl.TaxPart{
			partOf("w0", impl.TaxWithin, price, 0), partOf("x0", impl.TaxWithin, price, 0),
		}}
		checkBill(t, rules, []string{"w0", "x0"}, nil, price, taxDay, none)
		checkBill(t, rules, []string{"w0", "x0"}, []string{"x0"}, price, taxDay, none)
		freed := impl.TaxBill{Net: price, Gross: price, Parts: []impl.TaxPart{
			partOf("w", impl.TaxWithin, price, 0), partOf("ww", impl.TaxWithin, price, 0),
		}}
		checkBill(t, rules, []string{"w", "ww"}, []string{"ww", "w"}, price, taxDay, freed)
	}
	checkBill(t, rules, []string{"w", "o", "w0"}, []string{"w"}, 1000, taxDay, impl.TaxBill{Net: 1000, Gross: 1100, Parts: []impl.TaxPart{
		partOf("w", impl.TaxWithin, 1000, 0), partOf("o", impl.TaxOver, 1000, 100), partOf("w0", impl.TaxWithin, 1000, 0),
	}})
}

func TestBillOfFreeCodes(t *testing.T) {
	rules := handTaxes()
	codes := []string{"v", "w", "r", "o"}
	all := impl.TaxBill{Net: 1000, Gross: 1000, Parts: []impl.TaxPart{
		partOf("v", impl.TaxPlain, 1000, 0), partOf("w", impl.TaxWithin, 1000, 0),
		partOf("r", impl.TaxReverse, 1000, 0), partOf("o", impl.TaxOver, 1000, 0),
	}}
	checkBill(t, rules, codes, codes, 1000, taxDay, all)
	checkBill(t, rules, codes, []string{"o", "o", "r", "w", "v", "o"}, 1000, taxDay, all)
	freed := map[string]impl.TaxBill{
		"v": {Net: 800, Gross: 1100, Parts: []impl.TaxPart{partOf("v", impl.TaxPlain, 800, 0), partOf("w", impl.TaxWithin, 800, 200), partOf("r", impl.TaxReverse, 800, 400), partOf("o", impl.TaxOver, 1000, 100)}},
		"w": {Net: 1000, Gross: 1320, Parts: []impl.TaxPart{partOf("v", impl.TaxPlain, 1000, 200), partOf("w", impl.TaxWithin, 1000, 0), partOf("r", impl.TaxReverse, 1000, 500), partOf("o", impl.TaxOver, 1200, 120)}},
		"r": {Net: 800, Gross: 1276, Parts: []impl.TaxPart{partOf("v", impl.TaxPlain, 800, 160), partOf("w", impl.TaxWithin, 800, 200), partOf("r", impl.TaxReverse, 800, 0), partOf("o", impl.TaxOver, 1160, 116)}},
		"o": {Net: 800, Gross: 1160, Parts: []impl.TaxPart{partOf("v", impl.TaxPlain, 800, 160), partOf("w", impl.TaxWithin, 800, 200), partOf("r", impl.TaxReverse, 800, 400), partOf("o", impl.TaxOver, 1160, 0)}},
	}
	for code, want := range freed {
		checkBill(t, rules, codes, []string{code}, 1000, taxDay, want)
		checkBill(t, rules, codes, []string{code, code, code}, 1000, taxDay, want)
		checkBill(t, rules, codes, []string{"", "nowhere", "low", code, "a b"}, 1000, taxDay, want)
	}
	whole, _ := impl.TaxOf(rules, codes, nil, 1000, taxDay)
	for _, no := range [][]string{{}, {""}, {"nowhere"}, {"V", "W", "low", "ww", "v "}, noNames} {
		checkBill(t, rules, codes, no, 1000, taxDay, whole)
	}
}

func checkOneTax(t *testing.T, r impl.TaxRule, price, net, tax int) {
	t.Helper()
	want := impl.TaxBill{Net: net, Gross: net + tax, Parts: []impl.TaxPart{partOf(r.Code, r.Kind, net, tax)}}
	checkBill(t, []impl.TaxRule{r}, []string{r.Code}, nil, price, r.From, want)
}

// To the nearest, of two as near the one away from 0: a Tax and a Net, above and below 0.
func TestBillIsRounded(t *testing.T) {
	for _, sign := range []int{1, -1} {
		for kind := 1; kind <= 4; kind++ {
			rules := []impl.TaxRule{taxOf("a", kind, 50000, 0, 9), taxOf("b", kind, 49999, 0, 9), taxOf("c", kind, 100000, 0, 9), taxOf("d", kind, 300000, 0, 9)}
			for price := range 60 {
				for _, r := range rules {
					billAsWanted(t, rules, []string{r.Code}, nil, sign*price, 5)
				}
			}
		}
		plain := func(price, rate, tax int) {
			t.Helper()
			checkOneTax(t, taxOf("a", impl.TaxPlain, rate, 0, 9), sign*price, sign*price, sign*tax)
		}
		plain(1, 50000, 1)
		plain(1, 49999, 0)
		plain(1, 50001, 1)
		plain(3, 50000, 2)
		plain(5, 10000, 1)
		plain(4, 10000, 0)
		plain(99999, 1, 1)
		plain(50000, 1, 1)
		plain(49999, 1, 0)
		within := func(price, rate, net int) {
			t.Helper()
			checkOneTax(t, taxOf("a", impl.TaxWithin, rate, 0, 9), sign*price, sign*net, sign*(price-net))
		}
		within(1, 100000, 1)
		within(3, 100000, 2)
		within(2, 300000, 1)
		within(1, 300000, 0)
		within(6, 300000, 2)
		within(5, 1000000, 0)
		within(6, 1000000, 1)
		within(16, 1000000, 1)
		within(17, 1000000, 2)
		within(100001, 1, 100000)
		within(50000, 1, 50000)
		within(50001, 1, 50000)
	}
}

func TestBillOfGreatPrices(t *testing.T) {
	most := impl.MaxMoney
	checkTaxes(t, []string{"w"}, most, most/5*4, most, most/5*4, most/5)
	checkTaxes(t, []string{"w"}, -most, -most/5*4, -most, -most/5*4, -most/5)
	checkTaxes(t, []string{"r"}, most, most, most, most, most/2)
	checkTaxes(t, []string{"v0", "w0"}, -most, -most, -most, -most, 0, -most, 0)
	for _, price := range []int{most, most - 1, -most, 1 - most} {
		for _, r := range handTaxes() {
			billAsWanted(t, handTaxes(), []string{r.Code}, nil, price, taxDay)
			billAsWanted(t, handTaxes(), []string{r.Code}, []string{r.Code}, price, taxDay)
			checkBillOfWithins(t, price)
		}
	}
	for _, price := range noAmounts {
		for _, r := range handTaxes() {
			refuseBill(t, handTaxes(), []string{r.Code}, nil, price, taxDay)
			refuseBill(t, handTaxes(), []string{r.Code}, []string{r.Code}, price, taxDay)
		}
	}
}

// MaxTaxCodes taxes within, all of the greatest Rate: the rates together are the most that they may be.
func checkBillOfWithins(t *testing.T, price int) {
	t.Helper()
	rules, codes := []impl.TaxRule{}, []string{"a", "b", "c", "d", "e", "f"}
	for _, code := range codes {
		rules = append(rules, taxOf(code, impl.TaxWithin, mostTaxRate, 0, 9))
	}
	if !billAsWanted(t, rules, codes, nil, price, 5) {
		t.Errorf("taxes within of the greatest rate are refused at %d", price)
	}
}

// A Tax that leaves the amounts is refused, also where it does not count for Gross; a Gross and a Base are too.
func TestBillLeavesTheAmounts(t *testing.T) {
	rules := []impl.TaxRule{
		taxOf("ten", impl.TaxReverse, mostTaxRate, 0, 9),
		taxOf("all", impl.TaxPlain, wholeTax, 0, 9),
		taxOf("over0", impl.TaxOver, 0, 0, 9),
		taxOf("over", impl.TaxOver, wholeTax, 0, 9),
		taxOf("half", impl.TaxWithin, wholeTax, 0, 9),
		taxOf("all2", impl.TaxPlain, wholeTax, 0, 9),
	}
	take := func(price int, codes ...string) {
		t.Helper()
		if !billAsWanted(t, rules, codes, nil, price, 5) || !billAsWanted(t, rules, codes, nil, -price, 5) {
			t.Errorf("a bill of %d by %v is refused", price, codes)
		}
	}
	refuse := func(price int, codes ...string) {
		t.Helper()
		refuseBill(t, rules, codes, nil, price, 5)
		refuseBill(t, rules, codes, nil, -price, 5)
		checkBillPromise(t, codes, codes, price, freeBill(t, rules, codes, price))
	}
	most := impl.MaxMoney
	take(most/10, "ten")
	refuse(most/10+1, "ten")
	refuse(most, "ten")
	take(most/5, "half", "ten")
	refuse(most/5+2, "half", "ten")
	take(most/2, "all")
	refuse(most/2+1, "all")
	refuse(most, "all")
	take(most/2, "all", "over0")
	refuse(most/2+1, "all", "over0")
	take(most/4, "all", "over")
	refuse(most/4+1, "all", "over")
	take(most/2, "over")
	refuse(most/2+1, "over")
	take(most/3, "all", "all2")
	refuse(most/3+1, "all", "all2")
	take(most/10*6, "half", "all")
	take(most/3*2, "half", "all")
	refuse(most/3*2+2, "half", "all")
	take(most/2, "half", "over")
	refuse(most/2+1, "half", "over")
	take(most/3*2, "over", "half")
	refuse(most/3*2+2, "over", "half")
}

func freeBill(t *testing.T, rules []impl.TaxRule, codes []string, price int) impl.TaxBill {
	t.Helper()
	bill, ok := impl.TaxOf(rules, codes, codes, price, 5)
	if !ok {
		t.Errorf("a bill of %d by %v, all of them free, is refused", price, codes)
	}
	return bill
}

func TestHowManyCodesABillMayHave(t *testing.T) {
	codes := []string{"v", "low", "v0", "o", "oo", "w", "ww", "w0", "r", "rr"}
	for count := range len(codes) + 1 {
		if billAsWanted(t, handTaxes(), codes[:count], nil, 1000, taxDay) != (count <= impl.MaxTaxCodes) {
			t.Errorf("%d codes", count)
		}
		if billAsWanted(t, handTaxes(), codes[:count], codes, 1000, taxDay) != (count <= impl.MaxTaxCodes) {
			t.Errorf("%d codes, all of them free", count)
		}
	}
	refuseBill(t, handTaxes(), make([]string, 1000000), nil, 1000, taxDay)
}

func TestHowManyCodesMayBeFree(t *testing.T) {
	for _, name := range []string{"v", "low", "nowhere", ""} {
		for _, count := range []int{0, 1, impl.MaxTaxRules - 1, impl.MaxTaxRules, impl.MaxTaxRules + 1, impl.MaxTaxRules + 2, 100000} {
			free := slices.Repeat([]string{name}, count)
			if billAsWanted(t, handTaxes(), []string{"v"}, free, 1000, taxDay) != (count <= impl.MaxTaxRules) {
				t.Errorf("%d free", count)
			}
			if billAsWanted(t, handTaxes(), nil, free, 1000, taxDay) != (count <= impl.MaxTaxRules) {
				t.Errorf("%d free, and no codes", count)
			}
		}
	}
	free := append(slices.Repeat([]string{"low"}, impl.MaxTaxRules-1), "v")
	checkBill(t, handTaxes(), []string{"v"}, free, 1000, taxDay, impl.TaxBill{Net: 1000, Gross: 1000, Parts: []impl.TaxPart{partOf("v", impl.TaxPlain, 1000, 0)}})
}

func TestBillOfACodeTwice(t *testing.T) {
	for _, r := range handTaxes() {
		for _, free := range [][]string{nil, {r.Code}} {
			refuseBill(t, handTaxes(), []string{r.Code, r.Code}, free, 1000, taxDay)
			refuseBill(t, handTaxes(), []string{"v", r.Code, "o", r.Code}, free, 1000, taxDay)
			refuseBill(t, handTaxes(), []string{r.Code, r.Code, "w"}, free, 0, taxDay)
		}
	}
}

func TestBillOfACodeWithoutARule(t *testing.T) {
	for _, no := range append([]string{"nowhere", "V", "vv", "v.", "l", "lo", "lowe"}, noNames...) {
		for _, free := range [][]string{nil, {no}} {
			refuseBill(t, handTaxes(), []string{no}, free, 1000, taxDay)
			refuseBill(t, handTaxes(), []string{"v", no}, free, 1000, taxDay)
			refuseBill(t, handTaxes(), []string{no, "v"}, free, 1000, taxDay)
			refuseBill(t, nil, []string{no}, free, 1000, taxDay)
		}
	}
}

func TestBillByTheDay(t *testing.T) {
	late := map[int]int{10: 10, 11: 10, 20: 10, 22: 20, 24: 30, 25: 30, impl.MaxDay: 30}
	for _, day := range append([]int{0, 9, 10, 11, 20, 21, 22, 23, 24, 25, impl.MaxDay}, noDays...) {
		tax, held := late[day]
		if !held {
			refuseBill(t, handTaxes(), []string{"late"}, nil, 1000, day)
			refuseBill(t, handTaxes(), []string{"late"}, []string{"late"}, 1000, day)
			refuseBill(t, handTaxes(), []string{"v", "late"}, nil, 1000, day)
			continue
		}
		checkBill(t, handTaxes(), []string{"late"}, nil, 1000, day, impl.TaxBill{Net: 1000, Gross: 1000 + tax, Parts: []impl.TaxPart{partOf("late", impl.TaxPlain, 1000, tax)}})
	}
	checkBill(t, handTaxes(), []string{"turn"}, nil, 1000, 49, impl.TaxBill{Net: 1000, Gross: 1300, Parts: []impl.TaxPart{partOf("turn", impl.TaxPlain, 1000, 300)}})
	checkBill(t, handTaxes(), []string{"turn"}, nil, 1000, 50, impl.TaxBill{Net: 500, Gross: 1000, Parts: []impl.TaxPart{partOf("turn", impl.TaxWithin, 500, 500)}})
	checkBill(t, handTaxes(), []string{"turn"}, []string{"turn"}, 1000, 50, impl.TaxBill{Net: 1000, Gross: 1000, Parts: []impl.TaxPart{partOf("turn", impl.TaxWithin, 1000, 0)}})
	one := []impl.TaxRule{taxOf("a", impl.TaxPlain, wholeTax, 7, 7)}
	for day := 5; day <= 9; day++ {
		if billAsWanted(t, one, []string{"a"}, nil, 3, day) != (day == 7) {
			t.Errorf("a rule of one day on day %d", day)
		}
	}
}

func TestBillByWrongRules(t *testing.T) {
	wrong := [][]impl.TaxRule{
		append(handTaxes(), impl.TaxRule{}),
		append(handTaxes(), taxOf("late", impl.TaxPlain, 5, 23, 24)),
		append(handTaxes(), taxOf("z", impl.TaxPlain, 5, 7, 6)),
		append(handTaxes(), taxOf("z", 5, 5, 6, 7)),
		append(handTaxes(), taxOf("z", impl.TaxPlain, -1, 6, 7)),
		append(handTaxes(), taxOf("z", impl.TaxPlain, mostTaxRate+1, 6, 7)),
		append([]impl.TaxRule{taxOf("z z", impl.TaxPlain, 5, 6, 7)}, handTaxes()...),
		append([]impl.TaxRule{taxOf("z", impl.TaxPlain, 5, 6, impl.MaxDay+1)}, handTaxes()...),
		append(handTaxes(), severalTaxRules(impl.MaxTaxRules-len(handTaxes())+1)...),
	}
	for _, rules := range wrong {
		for _, codes := range [][]string{nil, {"v"}, {"w", "o"}, {"z"}} {
			refuseBill(t, rules, codes, nil, 1000, taxDay)
			refuseBill(t, rules, codes, codes, 0, taxDay)
		}
	}
	full := append(handTaxes(), severalTaxRules(impl.MaxTaxRules-len(handTaxes()))...)
	if !billAsWanted(t, full, []string{"v", "o"}, nil, 1000, taxDay) {
		t.Error("MaxTaxRules rules are refused")
	}
}

// Every order of up to three of the codes, and what some of them being free makes of it.
func TestBillsOfAllOrders(t *testing.T) {
	names := []string{"v", "low", "v0", "o", "oo", "w", "ww", "w0", "r", "rr"}
	taken := 0
	var choose func(codes []string)
	choose = func(codes []string) {
		for _, price := range []int{0, 1, -3, 1000, -1310, 99999, 7654321} {
			for _, free := range [][]string{nil, {"w", "o"}, {"ww", "v", "r"}, {"w", "ww"}} {
				if billAsWanted(t, handTaxes(), codes, free, price, taxDay) {
					taken++
				}
			}
		}
		if len(codes) == 3 {
			return
		}
		for _, name := range names {
			if !slices.Contains(codes, name) {
				choose(append(slices.Clone(codes), name))
			}
		}
	}
	choose(nil)
	if want := (1 + 10 + 90 + 720) * 7 * 4; taken != want {
		t.Errorf("%d bills taken of %d", taken, want)
	}
}

func somePrice(chance *rand.Rand) int {
	switch chance.Intn(5) {
	case 0:
		return chance.Intn(41) - 20
	case 1:
		return (1 - 2*chance.Intn(2)) * (impl.MaxMoney + 1 - chance.Intn(3))
	case 2:
		return chance.Intn(2*impl.MaxMoney) - impl.MaxMoney
	}
	return chance.Intn(2000001) - 1000000
}

func someNames(chance *rand.Rand, names []string, most int) []string {
	list := []string{}
	for range chance.Intn(most + 1) {
		list = append(list, names[chance.Intn(len(names))])
	}
	return list
}

func TestSomeBills(t *testing.T) {
	chance := rand.New(rand.NewSource(102))
	names := []string{"a", "b", "c", "d", "e", "f", "g"}
	taken, left := 0, 0
	for range 20000 {
		rules := someTaxRules(chance, names)
		codes := slices.Clone(names)
		chance.Shuffle(len(codes), func(i, k int) { codes[i], codes[k] = codes[k], codes[i] })
		codes = codes[:chance.Intn(len(codes)+1)]
		if chance.Intn(6) == 0 {
			codes = someNames(chance, names, 4)
		}
		if billAsWanted(t, rules, codes, someNames(chance, names, 3), somePrice(chance), 4+chance.Intn(14)) {
			taken++
		} else {
			left++
		}
	}
	if taken < 2000 || left < 2000 {
		t.Errorf("%d bills taken, %d refused", taken, left)
	}
}

// Behind each list stands more of it, which is neither read nor written nor handed out.
func TestTaxOfLeavesItsArguments(t *testing.T) {
	rules := append(handTaxes(), impl.TaxRule{}, taxOf("v", impl.TaxPlain, math.MaxInt, -1, -1))
	codes := []string{"w", "v", "o", "v", "nowhere"}
	free := []string{"ww", "o", "v", "w"}
	keptRules, keptCodes, keptFree := slices.Clone(rules), slices.Clone(codes), slices.Clone(free)
	for _, count := range []int{0, 1, 2, 3, 4, 5} {
		told := codes[:count]
		one, ok := impl.TaxOf(rules[:len(rules)-2], told, free[:2], 1000, taxDay)
		other, _ := impl.TaxOf(rules[:len(rules)-2], told, free[:2], 1000, taxDay)
		if ok != (count <= 3) {
			t.Errorf("TaxOf(%v) = %v, %v", told, one, ok)
		}
		for i := range one.Parts {
			one.Parts[i] = partOf("spoilt", 9, -99, -99)
		}
		_ = append(one.Parts, partOf("behind", 9, -98, -98))
		if len(other.Parts) != len(one.Parts) || slices.Contains(other.Parts, partOf("spoilt", 9, -99, -99)) {
			t.Errorf("two answers of TaxOf: %v, %v", one, other)
		}
		if !slices.Equal(rules, keptRules) || !slices.Equal(codes, keptCodes) || !slices.Equal(free, keptFree) {
			t.Fatal("TaxOf wrote into what it was given")
		}
	}
}
