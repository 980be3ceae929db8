package tests

import (
	"math"
	"math/rand"
	"slices"
	"strings"
	"testing"

	"loop.example/g00040/impl"
)

const wholeTax = 100000
const mostTaxRate = 1000000

var noTaxRates = []int{math.MinInt, -mostTaxRate, -2, -1, mostTaxRate + 1, mostTaxRate + 2, 10 * mostTaxRate, math.MaxInt}

var noTaxKinds = []int{math.MinInt, -1, 0, 5, 6, math.MaxInt}

func taxOf(code string, kind, rate, from, to int) impl.TaxRule {
	return impl.TaxRule{Code: code, From: from, To: to, Rate: rate, Kind: kind}
}

// The first days of both that they share and the last ones are held against each other.
func wantTaxRulesOk(rules []impl.TaxRule) bool {
	if len(rules) > impl.MaxTaxRules {
		return false
	}
	for i, r := range rules {
		if !accountName.MatchString(r.Code) || !isDay(r.From) || !isDay(r.To) || r.To-r.From < 0 {
			return false
		}
		if r.Rate < 0 || r.Rate > mostTaxRate || r.Kind < 1 || r.Kind > 4 {
			return false
		}
		for _, later := range rules[i+1:] {
			if later.Code == r.Code && max(later.From, r.From) <= min(later.To, r.To) {
				return false
			}
		}
	}
	return true
}

func checkTaxRules(t *testing.T, want bool, rules ...impl.TaxRule) {
	t.Helper()
	if got := impl.TaxRulesOk(rules); got != want {
		t.Errorf("TaxRulesOk(%d rules) = %v; want %v; the first ones: %v", len(rules), got, want, rules[:min(4, len(rules))])
	}
	bill, ok := impl.TaxOf(rules, nil, nil, 5, 5)
	if ok != want || !want && !sameBill(bill, impl.TaxBill{}) {
		t.Errorf("TaxOf no codes by %d rules = %v, %v; want %v; the first ones: %v", len(rules), bill, ok, want, rules[:min(4, len(rules))])
	}
}

func taxRulesAsWanted(t *testing.T, rules ...impl.TaxRule) bool {
	t.Helper()
	want := wantTaxRulesOk(rules)
	checkTaxRules(t, want, rules...)
	return want
}

// Every rule is changed on its own, wherever it stands in the list.
func eachTaxRule(rules []impl.TaxRule, change func(r *impl.TaxRule)) [][]impl.TaxRule {
	lists := [][]impl.TaxRule{}
	for at := range rules {
		list := slices.Clone(rules)
		change(&list[at])
		lists = append(lists, list)
	}
	return lists
}

func severalTaxRules(count int) []impl.TaxRule {
	rules := make([]impl.TaxRule, count)
	for i := range rules {
		rules[i] = taxOf(strings.Repeat("x", 1+i%20), 1+i%4, i, 10*i, 10*i+9)
	}
	return rules
}

func TestTaxRulesByHand(t *testing.T) {
	checkTaxRules(t, true)
	checkTaxRules(t, true, []impl.TaxRule{}...)
	checkTaxRules(t, false, impl.TaxRule{})
	checkTaxRules(t, true, taxOf("vat", impl.TaxPlain, 20000, 0, 99))
	checkTaxRules(t, true, taxOf("vat", impl.TaxPlain, 20000, 0, 99), taxOf("low", impl.TaxPlain, 7000, 0, 99))
	checkTaxRules(t, true, handTaxes()...)
	for i := range handTaxes() {
		checkTaxRules(t, false, append(handTaxes(), handTaxes()[i])...)
	}
}

func TestKindsOfTaxes(t *testing.T) {
	if impl.TaxPlain != 1 || impl.TaxOver != 2 || impl.TaxWithin != 3 || impl.TaxReverse != 4 {
		t.Error("the kinds of taxes are not 1 to 4")
	}
	for kind := 1; kind <= 4; kind++ {
		checkTaxRules(t, true, taxOf("a", kind, 5, 0, 9))
	}
	for _, kind := range noTaxKinds {
		checkTaxRules(t, false, taxOf("a", kind, 5, 0, 9))
		for _, rules := range eachTaxRule(handTaxes(), func(r *impl.TaxRule) { r.Kind = kind }) {
			checkTaxRules(t, false, rules...)
		}
	}
}

func TestHowManyTaxRulesThereMayBe(t *testing.T) {
	for _, count := range []int{1, 2, impl.MaxTaxRules - 1, impl.MaxTaxRules} {
		checkTaxRules(t, true, severalTaxRules(count)...)
	}
	checkTaxRules(t, false, severalTaxRules(impl.MaxTaxRules+1)...)
	checkTaxRules(t, false, severalTaxRules(impl.MaxTaxRules+2)...)
	checkTaxRules(t, false, make([]impl.TaxRule, 1000000)...)
	full := severalTaxRules(impl.MaxTaxRules)
	full[impl.MaxTaxRules-1].Code = ""
	checkTaxRules(t, false, full...)
}

func TestCodesOfTaxRules(t *testing.T) {
	for _, code := range []string{"a", "Z", "0", "-", "_", ".", "vat.low-2", strings.Repeat("a", impl.MaxName)} {
		checkTaxRules(t, true, taxOf(code, impl.TaxPlain, 5, 0, 9))
	}
	for _, code := range noNames {
		checkTaxRules(t, false, taxOf(code, impl.TaxPlain, 5, 0, 9))
		for _, rules := range eachTaxRule(handTaxes(), func(r *impl.TaxRule) { r.Code = code }) {
			checkTaxRules(t, false, rules...)
		}
	}
}

func TestRatesOfTaxRules(t *testing.T) {
	for kind := 1; kind <= 4; kind++ {
		for _, rate := range []int{0, 1, wholeTax, mostTaxRate - 1, mostTaxRate} {
			checkTaxRules(t, true, taxOf("a", kind, rate, 0, 9))
		}
		for _, rate := range noTaxRates {
			checkTaxRules(t, false, taxOf("a", kind, rate, 0, 9))
		}
	}
	for _, rate := range noTaxRates {
		for _, rules := range eachTaxRule(handTaxes(), func(r *impl.TaxRule) { r.Rate = rate }) {
			checkTaxRules(t, false, rules...)
		}
	}
}

func TestDaysOfTaxRules(t *testing.T) {
	days := []int{0, 1, 2, 20000, impl.MaxDay - 1, impl.MaxDay}
	for _, from := range days {
		for _, to := range days {
			checkTaxRules(t, from <= to, taxOf("a", impl.TaxPlain, 5, from, to))
			checkTaxRules(t, from <= to, taxOf("b", impl.TaxPlain, 5, 0, 9), taxOf("a", impl.TaxPlain, 5, from, to))
		}
		for _, no := range noDays {
			checkTaxRules(t, false, taxOf("a", impl.TaxPlain, 5, from, no))
			checkTaxRules(t, false, taxOf("a", impl.TaxPlain, 5, no, from))
			checkTaxRules(t, false, taxOf("b", impl.TaxPlain, 5, 0, 9), taxOf("a", impl.TaxPlain, 5, no, from))
			checkTaxRules(t, false, taxOf("a", impl.TaxPlain, 5, from, no), taxOf("b", impl.TaxPlain, 5, 0, 9))
		}
	}
	for _, from := range noDays {
		for _, to := range noDays {
			checkTaxRules(t, false, taxOf("a", impl.TaxPlain, 5, from, to))
		}
	}
}

// Of two rules in either order, with others of other codes around them; whatever their kinds and rates are.
func checkTwoSpans(t *testing.T, want bool, a, b, c, d int) {
	t.Helper()
	one, other := taxOf("a", impl.TaxPlain, 5, a, b), taxOf("a", impl.TaxReverse, 0, c, d)
	beside := taxOf("b", impl.TaxWithin, 5, 0, impl.MaxDay)
	checkTaxRules(t, want, one, other)
	checkTaxRules(t, want, other, one)
	checkTaxRules(t, want, one, beside, other)
	checkTaxRules(t, want, other, beside, one)
	checkTaxRules(t, want, beside, one, other)
	checkTaxRules(t, want, one, other, beside)
	other.Code = "A"
	checkTaxRules(t, true, one, other)
	checkTaxRules(t, true, other, one)
	other.Code = "aa"
	checkTaxRules(t, true, beside, one, other)
}

func TestSpansOfOneCode(t *testing.T) {
	checkTwoSpans(t, true, 0, 9, 10, 19)
	checkTwoSpans(t, true, 0, 9, 11, 19)
	checkTwoSpans(t, true, 5, 5, 6, 6)
	checkTwoSpans(t, true, 0, impl.MaxDay-1, impl.MaxDay, impl.MaxDay)
	checkTwoSpans(t, true, 0, 0, 1, impl.MaxDay)
	checkTwoSpans(t, false, 0, 9, 9, 19)
	checkTwoSpans(t, false, 5, 5, 5, 5)
	checkTwoSpans(t, false, 0, 9, 0, 9)
	checkTwoSpans(t, false, 0, 9, 4, 5)
	checkTwoSpans(t, false, 0, 9, 4, 4)
	checkTwoSpans(t, false, 0, 9, 0, 5)
	checkTwoSpans(t, false, 0, 9, 5, 9)
	checkTwoSpans(t, false, 0, 9, 5, 14)
	checkTwoSpans(t, false, 0, impl.MaxDay, impl.MaxDay, impl.MaxDay)
	checkTwoSpans(t, false, 0, impl.MaxDay, 0, 0)
	for a := range 5 {
		for b := a; b < 5; b++ {
			for c := range 5 {
				for d := c; d < 5; d++ {
					checkTwoSpans(t, b < c || d < a, a, b, c, d)
				}
			}
		}
	}
}

// A gap between two rules of a code is filled exactly, and then passed by one on either side.
func TestSpanBetweenTwoOthers(t *testing.T) {
	first, last := taxOf("a", impl.TaxPlain, 5, 0, 9), taxOf("a", impl.TaxPlain, 7, 20, 29)
	checkTaxRules(t, true, first, last, taxOf("a", impl.TaxOver, 6, 10, 19))
	checkTaxRules(t, true, last, taxOf("a", impl.TaxOver, 6, 10, 19), first)
	checkTaxRules(t, false, first, last, taxOf("a", impl.TaxOver, 6, 9, 19))
	checkTaxRules(t, false, first, last, taxOf("a", impl.TaxOver, 6, 10, 20))
	checkTaxRules(t, false, taxOf("a", impl.TaxOver, 6, 10, 20), first, last)
	checkTaxRules(t, false, last, first, taxOf("a", impl.TaxOver, 6, 0, 29))
	one := make([]impl.TaxRule, impl.MaxTaxRules)
	for i := range one {
		one[i] = taxOf("a", 1+i%4, 5, 7*i%60, 7*i%60)
	}
	checkTaxRules(t, true, one...)
	for i := range one[1:] {
		list := slices.Clone(one)
		list[i+1].From, list[i+1].To = 0, 0
		checkTaxRules(t, false, list...)
	}
}

func someTaxRules(chance *rand.Rand, codes []string) []impl.TaxRule {
	rules := []impl.TaxRule{}
	for _, code := range codes {
		for from := chance.Intn(3); from < 20; from += chance.Intn(3) {
			to := from + chance.Intn(8)
			rules = append(rules, taxOf(code, 1+chance.Intn(4), someTaxRate(chance), from, to))
			from = to + 1
		}
	}
	chance.Shuffle(len(rules), func(i, k int) { rules[i], rules[k] = rules[k], rules[i] })
	return rules
}

func someTaxRate(chance *rand.Rand) int {
	switch chance.Intn(6) {
	case 0:
		return 0
	case 1:
		return mostTaxRate - chance.Intn(3)
	case 2:
		return chance.Intn(mostTaxRate)
	}
	return 1000 * (1 + chance.Intn(60))
}

func spoilTaxRules(chance *rand.Rand, rules []impl.TaxRule) {
	r := &rules[chance.Intn(len(rules))]
	switch chance.Intn(6) {
	case 0:
		r.Code = rules[chance.Intn(len(rules))].Code
	case 1:
		r.From += chance.Intn(5) - 2
	case 2:
		r.To += chance.Intn(5) - 2
	case 3:
		r.Rate += 3 * (chance.Intn(3) - 1)
	case 4:
		r.Kind = chance.Intn(6)
	case 5:
		r.Code = []string{"", "a b", "new", "é"}[chance.Intn(4)]
	}
}

func TestSomeTaxRules(t *testing.T) {
	chance := rand.New(rand.NewSource(101))
	right, wrong := 0, 0
	for range 6000 {
		rules := someTaxRules(chance, []string{"a", "b", "c"}[:1+chance.Intn(3)])
		for range chance.Intn(3) {
			spoilTaxRules(chance, rules)
		}
		if taxRulesAsWanted(t, rules...) {
			right++
		} else {
			wrong++
		}
	}
	if right < 1000 || wrong < 1000 {
		t.Errorf("%d right, %d wrong", right, wrong)
	}
}

func TestTaxRulesOkLeavesItsRules(t *testing.T) {
	whole := append(handTaxes(), impl.TaxRule{}, handTaxes()[0])
	kept := slices.Clone(whole)
	if !impl.TaxRulesOk(whole[:len(whole)-2]) || impl.TaxRulesOk(whole[:len(whole)-1]) {
		t.Error("TaxRulesOk reads what lies behind the length")
	}
	if !slices.Equal(whole, kept) {
		t.Error("TaxRulesOk wrote into its rules")
	}
}
