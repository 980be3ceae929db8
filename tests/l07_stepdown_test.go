package tests

import (
	"math"
	"math/rand"
	"slices"
	"testing"

	"loop.example/g00040/impl"
)

func wantCostsOk(costs []int) bool {
	return len(costs) >= 1 && len(costs) <= impl.MaxParts && !slices.ContainsFunc(costs, func(c int) bool { return !amount(c) })
}

func placeAmong(place, places int) bool { return place >= 0 && place < places }

func wantRuleOk(places int, ahead []impl.Rule, r impl.Rule) bool {
	if !placeAmong(r.From, places) || len(r.To) < 1 || len(r.To) > impl.MaxParts || len(r.Weights) != len(r.To) {
		return false
	}
	for i, to := range r.To {
		if !placeAmong(to, places) || to == r.From || slices.Contains(r.To[:i], to) {
			return false
		}
	}
	for _, a := range ahead {
		if a.From == r.From || slices.Contains(r.To, a.From) {
			return false
		}
	}
	for _, w := range r.Weights {
		if w < 0 || w > impl.MaxFactor {
			return false
		}
	}
	return sumOf(r.Weights) > 0
}

func wantStepDown(costs []int, rules []impl.Rule) ([]int, bool) {
	if len(rules) > impl.MaxStages || !wantCostsOk(costs) {
		return nil, false
	}
	out := slices.Clone(costs)
	for i, r := range rules {
		if !wantRuleOk(len(costs), rules[:i], r) {
			return nil, false
		}
		for k, n := range wantShares(out[r.From], r.Weights) {
			out[r.To[k]] += n
		}
		out[r.From] = 0
		if !wantCostsOk(out) {
			return nil, false
		}
	}
	return out, true
}

func ruleOf(from int, to []int, weights ...int) impl.Rule {
	return impl.Rule{From: from, To: to, Weights: weights}
}

func alikeRule(from int, to ...int) impl.Rule { return ruleOf(from, to, repeated(1, len(to))...) }

// P20: the costs together are what they were, and each From has 0.
func checkStepPromise(t *testing.T, costs []int, rules []impl.Rule, got []int) {
	t.Helper()
	if len(got) != len(costs) || sumOf(got) != sumOf(costs) {
		t.Errorf("StepDown(%v, %v) = %v: together %d, not %d", costs, rules, got, sumOf(got), sumOf(costs))
		return
	}
	for _, r := range rules {
		if got[r.From] != 0 {
			t.Errorf("StepDown(%v, %v) = %v: %d gave and has %d", costs, rules, got, r.From, got[r.From])
		}
	}
}

func checkSteps(t *testing.T, costs []int, rules []impl.Rule, want ...int) {
	t.Helper()
	got, ok := impl.StepDown(costs, rules)
	if !ok || !slices.Equal(got, want) {
		t.Errorf("StepDown(%v, %v) = %v, %v; want %v, true", costs, rules, got, ok, want)
		return
	}
	checkStepPromise(t, costs, rules, got)
}

func refuseSteps(t *testing.T, costs []int, rules ...impl.Rule) {
	t.Helper()
	if got, ok := impl.StepDown(costs, rules); ok || len(got) != 0 {
		t.Errorf("StepDown(%v, %v) = %v, %v; want nothing and false", costs, rules, got, ok)
	}
}

func stepAsWanted(t *testing.T, costs []int, rules []impl.Rule) bool {
	t.Helper()
	want, ok := wantStepDown(costs, rules)
	if !ok {
		refuseSteps(t, costs, rules...)
		return false
	}
	checkSteps(t, costs, rules, want...)
	return true
}

func TestStepDownByHand(t *testing.T) {
	checkSteps(t, []int{5}, nil, 5)
	checkSteps(t, []int{5, -7, 0}, []impl.Rule{}, 5, -7, 0)
	checkSteps(t, []int{9, 1}, []impl.Rule{alikeRule(0, 1)}, 0, 10)
	checkSteps(t, []int{9, 1}, []impl.Rule{alikeRule(1, 0)}, 10, 0)
	checkSteps(t, []int{100, 60, 0, 0}, []impl.Rule{alikeRule(0, 1, 2), ruleOf(1, []int{2, 3}, 1, 10)}, 0, 0, 60, 100)
	checkSteps(t, []int{1, 2, 4, 8}, []impl.Rule{alikeRule(3, 2), alikeRule(2, 1), alikeRule(1, 0)}, 15, 0, 0, 0)
	checkSteps(t, []int{10, 20, 3}, []impl.Rule{ruleOf(0, []int{2, 1}, 3, 7)}, 0, 27, 6)
	checkSteps(t, []int{10, 20, 3}, []impl.Rule{ruleOf(0, []int{2, 1}, 0, 7)}, 0, 30, 3)
}

// Of a cost that can't be cut evenly what is left over goes by ones to the greatest rests, of the same rests to those that stand first in To.
func TestStepDownLeavesNothingOver(t *testing.T) {
	thirds := func(to ...int) []impl.Rule { return []impl.Rule{alikeRule(0, to...)} }
	checkSteps(t, []int{100, 0, 0, 0}, thirds(1, 2, 3), 0, 34, 33, 33)
	checkSteps(t, []int{100, 0, 0, 0}, thirds(3, 2, 1), 0, 33, 33, 34)
	checkSteps(t, []int{101, 0, 0, 0}, thirds(2, 3, 1), 0, 33, 34, 34)
	checkSteps(t, []int{-100, 0, 0, 0}, thirds(1, 2, 3), 0, -34, -33, -33)
	checkSteps(t, []int{-101, 0, 0, 0}, thirds(3, 1, 2), 0, -34, -33, -34)
	checkSteps(t, []int{1, 0, 0, 0}, []impl.Rule{ruleOf(0, []int{1, 2, 3}, 1, 2, 2)}, 0, 0, 1, 0)
	checkSteps(t, []int{-1, 0, 0, 0}, []impl.Rule{ruleOf(0, []int{1, 2, 3}, 1, 2, 2)}, 0, 0, -1, 0)
	for cost := -40; cost <= 40; cost++ {
		stepAsWanted(t, []int{cost, 7, -7, 0}, []impl.Rule{ruleOf(0, []int{1, 3, 2}, 5, 3, 3), ruleOf(3, []int{2, 1}, 2, 1)})
	}
}

// A cost of 0 is handed on like any other: its place gave, and gets nothing any more.
func TestStepDownOfNothing(t *testing.T) {
	checkSteps(t, []int{0, 5, 0}, []impl.Rule{alikeRule(0, 1, 2)}, 0, 5, 0)
	checkSteps(t, []int{0, 0}, []impl.Rule{alikeRule(0, 1)}, 0, 0)
	checkSteps(t, []int{6, -6, 9}, []impl.Rule{alikeRule(0, 1), alikeRule(1, 2)}, 0, 0, 9)
	refuseSteps(t, []int{0, 5, 0}, alikeRule(0, 1), alikeRule(1, 0))
	refuseSteps(t, []int{0, 5, 0}, alikeRule(0, 1), alikeRule(0, 2))
}

func TestStepDownOfCosts(t *testing.T) {
	refuseSteps(t, nil)
	refuseSteps(t, []int{})
	refuseSteps(t, nil, alikeRule(0, 1))
	for _, count := range []int{1, 2, 3, impl.MaxParts - 1, impl.MaxParts, impl.MaxParts + 1, 5000} {
		stepAsWanted(t, repeated(3, count), nil)
		stepAsWanted(t, repeated(-3, count), []impl.Rule{alikeRule(0, count-1)})
		stepAsWanted(t, repeated(3, count), []impl.Rule{alikeRule(count-1, 0)})
	}
	if _, ok := impl.StepDown(repeated(1, impl.MaxParts), nil); !ok {
		t.Error("MaxParts costs are refused")
	}
	refuseSteps(t, repeated(1, impl.MaxParts+1))
	for _, c := range []int{impl.MaxMoney, -impl.MaxMoney} {
		checkSteps(t, []int{c}, nil, c)
		checkSteps(t, []int{1, c}, nil, 1, c)
		checkSteps(t, []int{c, 0, 0}, []impl.Rule{alikeRule(0, 2)}, 0, 0, c)
		checkSteps(t, []int{c, -c, c}, []impl.Rule{alikeRule(0, 1)}, 0, 0, c)
	}
	for _, c := range noAmounts {
		refuseSteps(t, []int{c})
		refuseSteps(t, []int{1, 2, c})
		refuseSteps(t, []int{c, 0, 0}, alikeRule(0, 1, 2))
		refuseSteps(t, []int{0, c, 0}, alikeRule(0, 2))
	}
}

func TestStepDownOfPlaces(t *testing.T) {
	costs := []int{6, 5, 4}
	for _, no := range []int{math.MinInt, -2, -1, 3, 4, impl.MaxParts, math.MaxInt} {
		refuseSteps(t, costs, alikeRule(no, 1))
		refuseSteps(t, costs, alikeRule(0, no))
		refuseSteps(t, costs, alikeRule(0, 1, no))
		refuseSteps(t, costs, ruleOf(0, []int{no, 1}, 0, 1))
		refuseSteps(t, costs, alikeRule(0, 1), alikeRule(no, 2))
		refuseSteps(t, costs, alikeRule(0, 1), alikeRule(1, no))
	}
	checkSteps(t, costs, []impl.Rule{alikeRule(2, 0)}, 10, 5, 0)
	refuseSteps(t, costs, alikeRule(0, 1, 1))
	refuseSteps(t, costs, alikeRule(0, 1, 2, 1))
	refuseSteps(t, costs, ruleOf(0, []int{1, 2, 1}, 1, 1, 0))
	refuseSteps(t, costs, alikeRule(0, 0))
	refuseSteps(t, costs, alikeRule(0, 1, 0))
	refuseSteps(t, costs, ruleOf(0, []int{0, 2}, 0, 1))
	refuseSteps(t, costs, alikeRule(2, 0, 1, 2))
}

func TestStepDownOfRulesAheadAndBehind(t *testing.T) {
	costs := []int{6, 5, 4, 3}
	checkSteps(t, costs, []impl.Rule{alikeRule(0, 1), alikeRule(1, 2)}, 0, 0, 15, 3)
	checkSteps(t, costs, []impl.Rule{alikeRule(1, 2), alikeRule(0, 3)}, 0, 0, 9, 9)
	refuseSteps(t, costs, alikeRule(0, 1), alikeRule(1, 0))
	refuseSteps(t, costs, alikeRule(1, 2), alikeRule(0, 1))
	refuseSteps(t, costs, alikeRule(0, 1), alikeRule(1, 2), alikeRule(2, 3, 0))
	refuseSteps(t, costs, alikeRule(0, 1), alikeRule(1, 2), ruleOf(2, []int{3, 0}, 1, 0))
	refuseSteps(t, costs, alikeRule(0, 1), alikeRule(0, 1))
	refuseSteps(t, costs, alikeRule(0, 1), alikeRule(0, 2))
	refuseSteps(t, costs, alikeRule(0, 1), alikeRule(1, 2), alikeRule(0, 3))
	refuseSteps(t, costs, alikeRule(0, 1), alikeRule(1, 2), impl.Rule{})
}

func TestStepDownOfTos(t *testing.T) {
	costs := []int{7, 1, 1}
	refuseSteps(t, costs, impl.Rule{})
	refuseSteps(t, costs, impl.Rule{From: 1})
	refuseSteps(t, costs, impl.Rule{From: 1, To: []int{}, Weights: []int{}})
	refuseSteps(t, costs, impl.Rule{From: 1, Weights: []int{1}})
	refuseSteps(t, costs, impl.Rule{From: 1, To: []int{0}})
	refuseSteps(t, costs, ruleOf(0, []int{1, 2}, 1))
	refuseSteps(t, costs, ruleOf(0, []int{1, 2}, 1, 1, 1))
	refuseSteps(t, costs, ruleOf(0, []int{1, 2}, 1, 1, 0))
	refuseSteps(t, costs, ruleOf(0, []int{1}, 1, 1))
	many := repeated(5, impl.MaxParts)
	all := daysFrom(0, impl.MaxParts+2)
	stepAsWanted(t, many, []impl.Rule{alikeRule(0, all[1:impl.MaxParts]...)})
	if _, ok := impl.StepDown(many, []impl.Rule{alikeRule(0, all[1:impl.MaxParts]...)}); !ok {
		t.Error("all the other places are refused")
	}
	refuseSteps(t, many, alikeRule(0, all[1:impl.MaxParts+1]...))
	refuseSteps(t, many, alikeRule(0, all[1:impl.MaxParts+2]...))
	refuseSteps(t, many, alikeRule(0, all[:impl.MaxParts]...))
	refuseSteps(t, many, alikeRule(0, append(daysFrom(1, impl.MaxParts-1), 1)...))
	refuseSteps(t, many, alikeRule(0, append(daysFrom(1, impl.MaxParts-1), 1, 2)...))
	refuseSteps(t, many, alikeRule(0, repeated(1, 100000)...))
}

func TestStepDownOfWeights(t *testing.T) {
	costs := []int{70, 1, 1}
	to := []int{1, 2}
	refuseSteps(t, costs, ruleOf(0, to, 0, 0))
	refuseSteps(t, costs, ruleOf(0, []int{1}, 0))
	refuseSteps(t, []int{0, 0, 0}, ruleOf(0, to, 0, 0))
	checkSteps(t, costs, []impl.Rule{ruleOf(0, to, 0, 1)}, 0, 1, 71)
	checkSteps(t, costs, []impl.Rule{ruleOf(0, to, impl.MaxFactor, 0)}, 0, 71, 1)
	checkSteps(t, costs, []impl.Rule{ruleOf(0, to, impl.MaxFactor, impl.MaxFactor)}, 0, 36, 36)
	checkSteps(t, costs, []impl.Rule{ruleOf(0, to, impl.MaxFactor-1, 1)}, 0, 71, 1)
	for _, no := range noFactors {
		refuseSteps(t, costs, ruleOf(0, to, no, 1))
		refuseSteps(t, costs, ruleOf(0, to, 1, no))
		refuseSteps(t, costs, ruleOf(0, []int{1}, no))
		refuseSteps(t, costs, ruleOf(1, []int{2}, 1), ruleOf(2, []int{0}, no))
	}
	refuseSteps(t, costs, ruleOf(0, to, -1, 5))
	refuseSteps(t, costs, ruleOf(0, to, 5, -5))
}

func TestStepDownOfManyRules(t *testing.T) {
	costs := repeated(1, impl.MaxParts)
	rules := []impl.Rule{}
	for from := range impl.MaxStages + 1 {
		stepAsWanted(t, costs, rules)
		rules = append(rules, alikeRule(from, from+1, impl.MaxParts-1))
	}
	full := rules[:impl.MaxStages]
	if _, ok := impl.StepDown(costs, full); !ok {
		t.Error("MaxStages rules are refused")
	}
	refuseSteps(t, costs, rules...)
	refuseSteps(t, costs, slices.Repeat(full, 2)...)
	wrongLast := append(slices.Clone(full[:impl.MaxStages-1]), alikeRule(impl.MaxStages, 0))
	refuseSteps(t, costs, wrongLast...)
}

// A cost that leaves the amounts is refused as soon as it does so: what a rule behind would take off it again doesn't count.
func TestStepDownLeavesTheAmounts(t *testing.T) {
	for _, sign := range []int{1, -1} {
		greatest := sign * impl.MaxMoney
		checkSteps(t, []int{sign, greatest - sign, 0}, []impl.Rule{alikeRule(0, 1)}, 0, greatest, 0)
		refuseSteps(t, []int{sign, greatest, 0}, alikeRule(0, 1))
		refuseSteps(t, []int{greatest, greatest, 0}, alikeRule(0, 1))
		refuseSteps(t, []int{sign, greatest, -sign}, alikeRule(0, 1), alikeRule(2, 1))
		checkSteps(t, []int{sign, greatest, -sign}, []impl.Rule{alikeRule(2, 1), alikeRule(0, 1)}, 0, greatest, 0)
		refuseSteps(t, []int{sign, greatest, 0, 0}, alikeRule(0, 1), alikeRule(1, 2, 3))
		checkSteps(t, []int{sign, greatest, 0, 0}, []impl.Rule{alikeRule(1, 2, 3), alikeRule(0, 2)}, 0, 0, greatest/2+sign, greatest/2)
		refuseSteps(t, []int{3 * sign, 0, greatest - sign, 0}, alikeRule(0, 1, 2), alikeRule(1, 2))
		checkSteps(t, []int{2 * sign, 0, greatest - 2*sign, 0}, []impl.Rule{alikeRule(0, 1, 2), alikeRule(1, 2)}, 0, 0, greatest, 0)
	}
}

func someCost(chance *rand.Rand) int {
	switch chance.Intn(6) {
	case 0:
		return 0
	case 1:
		return impl.MaxMoney - chance.Intn(4)
	case 2:
		return chance.Intn(4) - impl.MaxMoney
	}
	return chance.Intn(2001) - 1000
}

func someCosts(chance *rand.Rand, count int) []int {
	costs := make([]int, count)
	for i := range costs {
		costs[i] = someCost(chance)
	}
	return costs
}

// The places give in the order of a shuffle, each to some of those that stand behind it there.
func someRules(chance *rand.Rand, places int) []impl.Rule {
	order := chance.Perm(places)
	rules := []impl.Rule{}
	for at := range min(places-1, impl.MaxStages) {
		behind := slices.Clone(order[at+1:])
		chance.Shuffle(len(behind), func(i, k int) { behind[i], behind[k] = behind[k], behind[i] })
		to := behind[:1+chance.Intn(len(behind))]
		weights := make([]int, len(to))
		for i := range weights {
			weights[i] = chance.Intn(5)
		}
		weights[chance.Intn(len(weights))] = 1 + chance.Intn(impl.MaxFactor)
		if chance.Intn(3) > 0 {
			rules = append(rules, ruleOf(order[at], to, weights...))
		}
	}
	return rules
}

func spoilRules(chance *rand.Rand, rules []impl.Rule, places int) {
	r := &rules[chance.Intn(len(rules))]
	switch chance.Intn(4) {
	case 0:
		r.From = chance.Intn(places+2) - 1
	case 1:
		r.To[chance.Intn(len(r.To))] = chance.Intn(places+2) - 1
	case 2:
		r.Weights[chance.Intn(len(r.Weights))] = chance.Intn(4) - 2
	case 3:
		r.Weights = r.Weights[1:]
	}
}

func TestSomeStepDowns(t *testing.T) {
	chance := rand.New(rand.NewSource(71))
	taken, left := 0, 0
	for range 4000 {
		places := 1 + chance.Intn(9)
		rules := someRules(chance, places)
		if len(rules) > 0 && chance.Intn(3) == 0 {
			spoilRules(chance, rules, places)
		}
		if stepAsWanted(t, someCosts(chance, places), rules) {
			taken++
		} else {
			left++
		}
	}
	if taken < 500 || left < 500 {
		t.Errorf("%d step-downs taken, %d refused", taken, left)
	}
	for range 60 {
		costs := repeated(0, impl.MaxParts)
		for i := range costs {
			costs[i] = chance.Intn(2000001) - 1000000
		}
		if !stepAsWanted(t, costs, someRules(chance, impl.MaxParts)) {
			t.Error("a great step-down is refused")
		}
	}
}

func copyRules(rules []impl.Rule) []impl.Rule {
	list := slices.Clone(rules)
	for i, r := range list {
		list[i].To = slices.Clone(r.To)
		list[i].Weights = slices.Clone(r.Weights)
	}
	return list
}

func sameRule(a, b impl.Rule) bool {
	return a.From == b.From && slices.Equal(a.To, b.To) && slices.Equal(a.Weights, b.Weights)
}

// Behind each list that is handed in stands more of it, which is neither read nor written.
func TestStepDownLeavesItsArguments(t *testing.T) {
	costs := []int{100, 60, 0, 0, 999, math.MaxInt}
	to, weights := []int{1, 2, 0, -1}, []int{1, 1, -5, math.MinInt}
	rules := []impl.Rule{{From: 0, To: to[:2], Weights: weights[:2]}, ruleOf(1, []int{2, 3}, 1, 10), {From: 0}}
	keptCosts, keptTo, keptWeights, keptRules := slices.Clone(costs), slices.Clone(to), slices.Clone(weights), copyRules(rules)
	for _, told := range [][]impl.Rule{rules[:2], rules, rules[:0], {alikeRule(0, 1), alikeRule(9, 1)}} {
		got, ok := impl.StepDown(costs[:4], told)
		again, _ := impl.StepDown(costs[:4], told)
		for i := range got {
			got[i] = -99
		}
		_ = append(got, -98)
		if ok != (len(again) == 4) || slices.Contains(again, -99) {
			t.Errorf("two answers of StepDown: %v, %v", got, again)
		}
		if !slices.Equal(costs, keptCosts) || !slices.Equal(to, keptTo) || !slices.Equal(weights, keptWeights) || !slices.EqualFunc(rules, keptRules, sameRule) {
			t.Fatal("StepDown wrote into what it was given, or handed it out")
		}
	}
	checkSteps(t, costs[:4], rules[:2], 0, 0, 60, 100)
}
