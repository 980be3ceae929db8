package tests

import (
	"math"
	"math/rand"
	"slices"
	"testing"

	"loop.example/g00040/impl"
)

// Qty, Cost and so on: "in" 4 for 40 is 4, 40; "out" 2 is -2, 0; an undoing of 3 is 0, 3.
func runOf(pairs ...int) []impl.Flow {
	list := []impl.Flow{}
	for i := 0; i < len(pairs); i += 2 {
		list = append(list, impl.Flow{Qty: pairs[i], Cost: pairs[i+1]})
	}
	return list
}

func manyFlows(count, qty, cost int) []impl.Flow {
	list := make([]impl.Flow, count)
	for i := range list {
		list[i] = impl.Flow{Qty: qty, Cost: cost}
	}
	return list
}

func wantFlow(w impl.Worth, f impl.Flow) (impl.Worth, int, bool) {
	if f.Qty < -impl.MaxQty {
		return impl.Worth{}, 0, false
	}
	if f.Qty < 0 {
		after, cost, ok := wantTakeOut(w, -f.Qty)
		return after, -cost, ok
	}
	after, ok := wantTakeIn(w, f.Qty, f.Cost)
	return after, f.Cost, ok
}

// Nothing is kept of what stood ahead of a flow: behind an undoing, what still stands is run anew from the beginning.
func wantRun(w impl.Worth, flows []impl.Flow) (impl.Worth, []int, int) {
	if !wantWorthOk(w) || len(flows) > impl.MaxMoves {
		return impl.Worth{}, []int{}, -2
	}
	now, told, stand := w, []int{}, []int{}
	for i, f := range flows {
		if f.Qty != 0 {
			after, tells, ok := wantFlow(now, f)
			if !ok {
				return now, told, i
			}
			now, told, stand = after, append(told, tells), append(stand, i)
			continue
		}
		if f.Cost < 1 || f.Cost > len(stand) {
			return now, told, i
		}
		left, back := len(stand)-f.Cost, 0
		now = w
		for k, at := range stand {
			if k < left {
				now, _, _ = wantFlow(now, flows[at])
			} else {
				back -= told[at]
			}
		}
		told, stand = append(told, back), stand[:left]
	}
	return now, told, -1
}

// The flows that still stand, found from behind, as brackets are; all of them may be.
func standing(flows []impl.Flow) []impl.Flow {
	list, undone := []impl.Flow{}, 0
	for _, f := range slices.Backward(flows) {
		switch {
		case f.Qty == 0:
			undone += f.Cost
		case undone > 0:
			undone--
		default:
			list = append(list, f)
		}
	}
	slices.Reverse(list)
	return list
}

// What is held is what was held and what all flows told; units come and go by the flows that stand.
func checkRunHeld(t *testing.T, w impl.Worth, flows []impl.Flow, end impl.Worth, told []int) {
	t.Helper()
	units := unitsOf(w.Lays)
	for _, f := range standing(flows[:len(told)]) {
		units += f.Qty
	}
	gotUnits, gotCosts := impl.Value(end)
	if gotUnits != units || gotCosts+end.Off != costsOf(w.Lays)+w.Off+sumOf(told) {
		t.Errorf("RunWorth(%v, %d flows) = %v, %v: %d units for %d and %d, not what was held and what the flows told", shortWorth(w), len(flows), shortWorth(end), told[:min(9, len(told))], gotUnits, gotCosts, end.Off)
	}
	if !wantWorthOk(end) || end.Method != w.Method || end.Price != w.Price {
		t.Errorf("RunWorth(%v, %d flows) = %v: not right", shortWorth(w), len(flows), shortWorth(end))
	}
}

func checkRun(t *testing.T, w impl.Worth, flows []impl.Flow, end impl.Worth, told []int, bad int) impl.Worth {
	t.Helper()
	keptWorth, keptFlows := copyWorth(w), slices.Clone(flows)
	got, gotTold, gotBad := impl.RunWorth(w, flows)
	other, otherTold, otherBad := wantRun(w, flows)
	if !sameWorth(got, end) || !slices.Equal(gotTold, told) || gotBad != bad {
		t.Errorf("RunWorth(%v, %v) = %v, %v, %d; want %v, %v, %d", shortWorth(w), flows[:min(9, len(flows))], shortWorth(got), gotTold[:min(9, len(gotTold))], gotBad, shortWorth(end), told[:min(9, len(told))], bad)
	} else if !sameWorth(other, end) || !slices.Equal(otherTold, told) || otherBad != bad {
		t.Errorf("the other way RunWorth(%v, %v) = %v, %v, %d; want %v, %v, %d", shortWorth(w), flows[:min(9, len(flows))], shortWorth(other), otherTold[:min(9, len(otherTold))], otherBad, shortWorth(end), told[:min(9, len(told))], bad)
	} else {
		checkRunHeld(t, w, flows, got, gotTold)
	}
	if !sameWorth(w, keptWorth) || !slices.Equal(flows, keptFlows) {
		t.Fatalf("RunWorth(%v, %v) wrote into its arguments", shortWorth(keptWorth), keptFlows)
	}
	return got
}

func noRun(t *testing.T, w impl.Worth, flows []impl.Flow) {
	t.Helper()
	_, _, other := wantRun(w, flows)
	if end, told, bad := impl.RunWorth(w, flows); bad != -2 || other != -2 || len(told) != 0 || !isZeroWorth(end) {
		t.Errorf("RunWorth(%v, %d flows) = %v, %v, %d; want nothing and -2", shortWorth(w), len(flows), shortWorth(end), told, bad)
	}
}

func TestRunWithoutFlows(t *testing.T) {
	for _, w := range []impl.Worth{worthOf(impl.First, 4, 40, 2, 31), worthOf(impl.Last, 4, 40, 2, 31), worthOf(impl.Mean, 6, 71), standardOf(9, 6, 17), worthOf(impl.First), worthOf(impl.Last), worthOf(impl.Mean), standardOf(9, 0, 17)} {
		checkRun(t, w, nil, w, nil, -1)
		checkRun(t, w, []impl.Flow{}, w, nil, -1)
	}
}

func TestRunInAndOut(t *testing.T) {
	flows := runOf(4, 40, 2, 31, -5, 0, 3, 10, -2, 0)
	checkRun(t, worthOf(impl.First), flows, worthOf(impl.First, 2, 7), []int{40, 31, -56, 10, -18}, -1)
	checkRun(t, worthOf(impl.Last), flows, worthOf(impl.Last, 1, 10, 1, 3), []int{40, 31, -61, 10, -7}, -1)
	checkRun(t, worthOf(impl.Mean), flows, worthOf(impl.Mean, 2, 11), []int{40, 31, -59, 10, -11}, -1)
	checkRun(t, standardOf(9, 0, 0), flows, standardOf(9, 2, 0), []int{40, 31, -45, 10, -18}, -1)
	checkRun(t, standardOf(9, 1, -5), flows, standardOf(9, 3, -5), []int{40, 31, -45, 10, -18}, -1)
}

func TestRunUndone(t *testing.T) {
	all := map[int][]int{ // what in 4 for 40, in 2 for 31 and out 5 tell
		impl.First: {40, 31, -56}, impl.Last: {40, 31, -61}, impl.Mean: {40, 31, -59}, impl.Standard: {40, 31, -45},
	}
	for _, method := range costMethods {
		nothing := impl.Worth{Method: method}
		if method == impl.Standard {
			nothing.Price = 9
		}
		one, _ := wantTakeIn(nothing, 4, 40)
		two, _ := wantTakeIn(one, 2, 31)
		told := all[method]
		start := runOf(4, 40, 2, 31, -5, 0)
		then := func(pairs ...int) []impl.Flow { return append(slices.Clone(start), runOf(pairs...)...) }
		tells := func(list ...int) []int { return append(slices.Clone(told), list...) }
		checkRun(t, nothing, then(0, 1), two, tells(-told[2]), -1)
		checkRun(t, nothing, then(0, 2), one, tells(-told[2]-31), -1)
		checkRun(t, nothing, then(0, 3), nothing, tells(-told[2]-71), -1)
		three, _, _ := wantTakeOut(two, 5)
		checkRun(t, nothing, then(0, 4), three, told, 3)
		checkRun(t, nothing, then(0, 0), three, told, 3)
		checkRun(t, nothing, then(0, -1), three, told, 3)
		// An undoing behind an undoing goes on where that one stopped; an undoing itself is none that stands.
		checkRun(t, nothing, then(0, 1, 0, 1), one, tells(-told[2], -31), -1)
		checkRun(t, nothing, then(0, 1, 0, 2), nothing, tells(-told[2], -71), -1)
		checkRun(t, nothing, then(0, 1, 0, 1, 0, 1), nothing, tells(-told[2], -31, -40), -1)
		checkRun(t, nothing, then(0, 1, 0, 1, 0, 1, 0, 1), nothing, tells(-told[2], -31, -40), 6)
		checkRun(t, nothing, then(0, 1, 0, 3), two, tells(-told[2]), 4)
		checkRun(t, nothing, then(0, 2, 0, 2), one, tells(-told[2]-31), 4)
		checkRun(t, nothing, then(0, 3, 0, 1), nothing, tells(-told[2]-71), 4)
	}
}

func TestFlowsBetweenUndoings(t *testing.T) {
	first, last, mean := worthOf(impl.First), worthOf(impl.Last), worthOf(impl.Mean)
	flows := runOf(4, 40, 2, 31, 0, 1, 3, 10, 0, 2, 5, 7) // the second undoing reaches past the first one
	for _, w := range []impl.Worth{first, last, mean} {
		checkRun(t, w, flows, worthOf(w.Method, 5, 7), []int{40, 31, -31, 10, -50, 7}, -1)
		checkRun(t, w, append(flows, runOf(0, 2)...), worthOf(w.Method, 5, 7), []int{40, 31, -31, 10, -50, 7}, 6)
		checkRun(t, w, append(flows, runOf(0, 1)...), worthOf(w.Method), []int{40, 31, -31, 10, -50, 7, -7}, -1)
	}
	flows = runOf(4, 40, 2, 31, -3, 0, 0, 1, -3, 0, 6, 2, 0, 2, -6, 0)
	checkRun(t, first, flows, first, []int{40, 31, -30, 30, -30, 2, 28, -71}, -1)
	checkRun(t, last, flows, last, []int{40, 31, -41, 41, -41, 2, 39, -71}, -1)
	checkRun(t, mean, flows, mean, []int{40, 31, -36, 36, -36, 2, 34, -71}, -1)
	checkRun(t, standardOf(9, 0, 0), flows, standardOf(9, 0, 17), []int{40, 31, -27, 27, -27, 2, 25, -54}, -1)
	// What was undone may be done again, and is then undone again.
	flows = runOf(4, 40, 0, 1, 4, 40, 0, 1, 4, 41, -1, 0, 0, 2, 4, 42)
	checkRun(t, first, flows, worthOf(impl.First, 4, 42), []int{40, -40, 40, -40, 41, -10, -31, 42}, -1)
}

func TestOffBehindAnUndoing(t *testing.T) {
	flows := runOf(3, 30, 2, 10, -1, 0) // Off is 3, then -5, and stays
	nothing := standardOf(9, 0, 0)
	checkRun(t, nothing, flows, standardOf(9, 4, -5), []int{30, 10, -9}, -1)
	checkRun(t, nothing, append(flows, runOf(0, 1)...), standardOf(9, 5, -5), []int{30, 10, -9, 9}, -1)
	checkRun(t, nothing, append(flows, runOf(0, 2)...), standardOf(9, 3, 3), []int{30, 10, -9, -1}, -1)
	checkRun(t, nothing, append(flows, runOf(0, 3)...), nothing, []int{30, 10, -9, -31}, -1)
	held := standardOf(9, 7, -100)
	checkRun(t, held, append(flows, runOf(0, 3)...), held, []int{30, 10, -9, -31}, -1)
	checkRun(t, held, append(flows, runOf(0, 2, 2, 20, 0, 1)...), standardOf(9, 10, -97), []int{30, 10, -9, -1, 20, -20}, -1)
	// What would leave Off's bounds may come in once something else is undone.
	edge := standardOf(9, 0, impl.MaxMoney-3)
	checkRun(t, edge, runOf(1, 12, 1, 10), standardOf(9, 1, impl.MaxMoney), []int{12}, 1)
	checkRun(t, edge, runOf(1, 12, 0, 1, 1, 10), standardOf(9, 1, impl.MaxMoney-2), []int{12, -12, 10}, -1)
}

func TestUndoingOfEachCount(t *testing.T) {
	flows := runOf(4, 40, 2, 31, -5, 0, 3, 10, -2, 0, 8, 3, -4, 0, -1, 0)
	for _, w := range []impl.Worth{worthOf(impl.First, 3, 10, 2, 5), worthOf(impl.Last, 3, 10, 2, 5), worthOf(impl.Mean, 5, 17), standardOf(7, 5, -3)} {
		for length := range len(flows) + 1 {
			end, told, _ := wantRun(w, flows[:length])
			for _, count := range []int{math.MinInt, -length, -2, -1, 0, length + 1, length + 2, impl.MaxMoves, math.MaxInt} {
				if count < 1 || count > length {
					checkRun(t, w, append(slices.Clone(flows[:length]), impl.Flow{Cost: count}), end, told, length)
				}
			}
			for count := 1; count <= length; count++ {
				ahead, aheadTold, _ := wantRun(w, flows[:length-count])
				back := sumOf(aheadTold) - sumOf(told)
				checkRun(t, w, append(slices.Clone(flows[:length]), impl.Flow{Cost: count}), ahead, append(slices.Clone(told), back), -1)
			}
		}
	}
}

func TestAFlowThatMayNotBe(t *testing.T) {
	right := runOf(4, 40, 2, 31, -5, 0, 0, 1, 3, 10, 0, 2, -1, 0)
	wrong := runOf(0, 0, 0, -1, 0, 99, 0, math.MinInt, 0, math.MaxInt,
		math.MinInt, 0, math.MinInt, 5, math.MinInt+1, 0, -impl.MaxQty-1, 0, -impl.MaxQty, 0, -100, 0,
		1, -1, 1, impl.MaxMoney+1, 1, math.MinInt, 1, math.MaxInt, impl.MaxQty+1, 0, impl.MaxQty, 0, math.MaxInt, 0)
	for _, w := range []impl.Worth{worthOf(impl.First, 3, 10, 2, 5), worthOf(impl.Last, 3, 10, 2, 5), worthOf(impl.Mean, 5, 17), standardOf(7, 5, -3)} {
		for at := range len(right) + 1 {
			end, told, bad := wantRun(w, right[:at])
			if bad != -1 {
				t.Fatal("these flows should be right")
			}
			for _, f := range wrong {
				checkRun(t, w, slices.Insert(slices.Clone(right), at, f), end, told, at)
			}
			checkRun(t, w, slices.Insert(slices.Clone(right), at, wrong[at], wrong[at+1]), end, told, at)
		}
	}
	// Nothing stands at the first place.
	for _, method := range costMethods {
		checkRun(t, worthOf(method), runOf(0, 1, 3, 10), worthOf(method), nil, 0)
		checkRun(t, worthOf(method), runOf(-1, 0, 3, 10), worthOf(method), nil, 0)
		checkRun(t, worthOf(method, 1, 0), runOf(-2, 0), worthOf(method, 1, 0), nil, 0)
	}
}

func TestTheCostOfWhatGoesOutSaysNothing(t *testing.T) {
	for _, cost := range []int{0, 1, -1, 99, impl.MaxMoney, impl.MaxMoney + 1, math.MinInt, math.MaxInt} {
		checkRun(t, worthOf(impl.First), runOf(4, 40, -1, cost, -2, cost), worthOf(impl.First, 1, 10), []int{40, -10, -20}, -1)
		checkRun(t, worthOf(impl.Mean, 3, 10), runOf(-2, cost, 0, 1), worthOf(impl.Mean, 3, 10), []int{-7, 7}, -1)
		checkRun(t, standardOf(9, 3, 1), runOf(-2, cost), standardOf(9, 1, 1), []int{-18}, -1)
		checkRun(t, worthOf(impl.Last, 3, 10), runOf(-4, cost), worthOf(impl.Last, 3, 10), nil, 0)
		checkRun(t, worthOf(impl.Last, 3, 10), runOf(math.MinInt, cost), worthOf(impl.Last, 3, 10), nil, 0)
	}
}

func TestHowManyFlowsThereMayBe(t *testing.T) {
	most := impl.MaxMoves
	for _, method := range []int{impl.First, impl.Last} {
		full := impl.Worth{Method: method, Lays: manyLays(most, 2, 9)}
		checkRun(t, worthOf(method), manyFlows(most, 2, 9), full, repeated(9, most), -1)
		checkRun(t, full, manyFlows(most, -2, 0), worthOf(method), repeated(-9, most), -1)
		// One Lay was there already, so the last flow finds no room.
		filled := impl.Worth{Method: method, Lays: append(laysOf(5, 1), manyLays(most-1, 2, 9)...)}
		checkRun(t, worthOf(method, 5, 1), manyFlows(most, 2, 9), filled, repeated(9, most-1), most-1)
		checkRun(t, full, runOf(1, 1), full, nil, 0)
		checkRun(t, full, runOf(-2, 0, 1, 1, 1, 1), checkedRun(full, runOf(-2, 0, 1, 1)), []int{-9, 1}, 2)
		checkRun(t, full, runOf(-2, 0, 1, 1, 0, 2, 1, 1), full, []int{-9, 1, 8}, 3)
	}
	checkRun(t, worthOf(impl.Mean), manyFlows(most, 2, 9), worthOf(impl.Mean, 2*most, 9*most), repeated(9, most), -1)
	checkRun(t, standardOf(4, 0, 0), manyFlows(most, 2, 9), standardOf(4, 2*most, most), repeated(9, most), -1)
	for _, w := range []impl.Worth{worthOf(impl.First), worthOf(impl.Last), worthOf(impl.Mean), standardOf(4, 0, 0)} {
		for _, count := range []int{most + 1, most + 2, 5000} {
			noRun(t, w, manyFlows(count, 2, 9))
			noRun(t, w, manyFlows(count, 0, 0))
		}
		undone := append(manyFlows(most-1, 2, 9), impl.Flow{Cost: most - 1})
		checkRun(t, w, undone, w, append(repeated(9, most-1), -9*(most-1)), -1)
		noRun(t, w, append(undone, impl.Flow{Qty: 1}))
		// Undoings count among the flows; flows that may not be do so too.
		checkRun(t, w, append(manyFlows(most-1, 2, 9), impl.Flow{Cost: most}), checkedRun(w, manyFlows(most-1, 2, 9)), repeated(9, most-1), most-1)
		back := []impl.Flow{}
		told := []int{}
		for range most / 2 {
			back, told = append(back, impl.Flow{Qty: 1, Cost: 3}, impl.Flow{Cost: 1}), append(told, 3, -3)
		}
		checkRun(t, w, back, w, told, -1)
	}
}

func checkedRun(w impl.Worth, flows []impl.Flow) impl.Worth {
	end, _, _ := wantRun(w, flows)
	return end
}

func TestRunAtTheBounds(t *testing.T) {
	checkRun(t, worthOf(impl.First), runOf(impl.MaxQty, impl.MaxMoney, -impl.MaxQty, 0, impl.MaxQty, impl.MaxMoney, 0, 3), worthOf(impl.First), []int{impl.MaxMoney, -impl.MaxMoney, impl.MaxMoney, -impl.MaxMoney}, -1)
	checkRun(t, worthOf(impl.Mean), runOf(impl.MaxQty, impl.MaxMoney, 1, 0), worthOf(impl.Mean, impl.MaxQty, impl.MaxMoney), []int{impl.MaxMoney}, 1)
	checkRun(t, worthOf(impl.Mean), runOf(impl.MaxQty-1, impl.MaxMoney, 1, 1), worthOf(impl.Mean, impl.MaxQty-1, impl.MaxMoney), []int{impl.MaxMoney}, 1)
	// What is told together by flows that are undone may be more than an amount.
	flows, told := []impl.Flow{}, []int{}
	for range 20 {
		flows, told = append(flows, runOf(1, impl.MaxMoney)...), append(told, impl.MaxMoney)
	}
	free := standardOf(impl.MaxPrice, 0, -impl.MaxMoney)
	checkRun(t, free, flows, standardOf(impl.MaxPrice, 2, impl.MaxMoney-2*impl.MaxPrice), told[:2], 2)
	checkRun(t, free, append(runOf(1, impl.MaxMoney, 1, impl.MaxMoney), runOf(0, 2)...), free, []int{impl.MaxMoney, impl.MaxMoney, -2 * impl.MaxMoney}, -1)
}

// Flows of which all may be: what is there and what stands is kept count of.
func someRun(chance *rand.Rand, units, count int) []impl.Flow {
	flows, held := []impl.Flow{}, []int{units}
	for range count {
		now := held[len(held)-1]
		f := impl.Flow{Qty: 1 + chance.Intn(9), Cost: chance.Intn(2) * chance.Intn(90)}
		switch kind := chance.Intn(10); {
		case kind < 4 && now > 0:
			f = impl.Flow{Qty: -1 - chance.Intn(now), Cost: chance.Intn(5) - 2}
		case kind < 7 && len(held) > 1:
			f = impl.Flow{Cost: 1 + chance.Intn(min(3, len(held)-1))}
			if chance.Intn(8) == 0 {
				f.Cost = len(held) - 1
			}
		}
		if f.Qty == 0 {
			held = held[:len(held)-f.Cost]
		} else {
			held = append(held, now+f.Qty)
		}
		flows = append(flows, f)
	}
	return flows
}

func TestSomeRuns(t *testing.T) {
	chance := rand.New(rand.NewSource(162))
	whole, halted, none := 0, 0, 0
	for range 4000 {
		w := someWorth(chance, costMethods[chance.Intn(4)], []int{1, 9, 1000}[chance.Intn(3)])
		flows := someRun(chance, unitsOf(w.Lays), chance.Intn(30))
		for range chance.Intn(3) {
			at := chance.Intn(len(flows) + 1)
			flows = slices.Insert(flows, at, impl.Flow{Qty: chance.Intn(7) - 4, Cost: chance.Intn(7) - 2})
		}
		if chance.Intn(9) == 0 {
			spoilWorth(chance, &w)
		}
		end, told, bad := wantRun(w, flows)
		switch bad {
		case -2:
			noRun(t, w, flows)
			none++
			continue
		case -1:
			whole++
		default:
			halted++
		}
		checkRun(t, w, flows, end, told, bad)
	}
	if whole < 500 || halted < 500 || none < 100 {
		t.Errorf("%d whole, %d halted, %d none", whole, halted, none)
	}
}

// The first place behind a cut whose undoing reaches back over it; -1 when none does.
func reachesBack(flows []impl.Flow, cut int) int {
	stand := 0
	for i, f := range flows[cut:] {
		if f.Qty != 0 {
			stand++
			continue
		}
		if stand -= f.Cost; stand < 0 {
			return cut + i
		}
	}
	return -1
}

func TestRunsInPieces(t *testing.T) {
	chance := rand.New(rand.NewSource(163))
	same, reaching := 0, 0
	for range 600 {
		w := someWorth(chance, costMethods[chance.Intn(4)], 9)
		flows := someRun(chance, unitsOf(w.Lays), 1+chance.Intn(20))
		end, told, bad := impl.RunWorth(w, flows)
		if bad != -1 {
			t.Fatalf("RunWorth(%v, %v) = %d; these flows should be right", w, flows, bad)
		}
		for cut := range len(flows) + 1 {
			middle, ahead, bad := impl.RunWorth(w, flows[:cut])
			if bad != -1 || !slices.Equal(ahead, told[:cut]) {
				t.Errorf("RunWorth(%v, %v) told %v, %d; the longer run %v", w, flows[:cut], ahead, bad, told)
			}
			rest, behind, bad := impl.RunWorth(middle, flows[cut:])
			if at := reachesBack(flows, cut); at >= 0 {
				reaching++
				if bad != at-cut || !slices.Equal(behind, told[cut:at]) {
					t.Errorf("RunWorth(%v, %v) told %v, %d; want %v, %d", middle, flows[cut:], behind, bad, told[cut:at], at-cut)
				}
				continue
			}
			same++
			if bad != -1 || !sameWorth(rest, end) || !slices.Equal(behind, told[cut:]) {
				t.Errorf("RunWorth(%v, %v) in pieces of %d = %v, %v, %d; in one %v, %v", w, flows, cut, rest, behind, bad, end, told)
			}
		}
	}
	if same < 1000 || reaching < 1000 {
		t.Errorf("%d the same, %d reaching back", same, reaching)
	}
}

// Of flows that were undone nothing is left, wherever in a run they stood.
func TestWhatIsUndoneLeavesNoTrace(t *testing.T) {
	chance := rand.New(rand.NewSource(164))
	for range 1500 {
		w := someWorth(chance, costMethods[chance.Intn(4)], 9)
		ahead := someRun(chance, unitsOf(w.Lays), chance.Intn(12))
		middle, told, _ := impl.RunWorth(w, ahead)
		gone := someRun(chance, unitsOf(middle.Lays), 1+chance.Intn(12))
		_, goneTold, _ := impl.RunWorth(middle, gone)
		behind := someRun(chance, unitsOf(middle.Lays), chance.Intn(6))
		end, behindTold, _ := impl.RunWorth(middle, behind)
		back := []impl.Flow{}
		if stands := len(standing(gone)); stands > 0 {
			back = runOf(0, stands)
			goneTold = append(goneTold, -sumOf(goneTold))
		}
		checkRun(t, w, slices.Concat(ahead, gone, back), middle, slices.Concat(told, goneTold), -1)
		checkRun(t, w, slices.Concat(ahead, gone, back, behind), end, slices.Concat(told, goneTold, behindTold), -1)
	}
}

func TestAllMethodsLeaveTheSameUnits(t *testing.T) {
	chance := rand.New(rand.NewSource(165))
	for range 800 {
		flows := someRun(chance, 0, 1+chance.Intn(40))
		if chance.Intn(3) == 0 {
			flows = slices.Insert(flows, chance.Intn(len(flows)+1), impl.Flow{Qty: -1 - chance.Intn(60)})
		}
		units, _, bad := unitsBehind(worthOf(impl.First), flows)
		for _, w := range []impl.Worth{worthOf(impl.Last), worthOf(impl.Mean), standardOf(0, 0, 0), standardOf(9, 0, 0)} {
			if other, _, otherBad := unitsBehind(w, flows); other != units || otherBad != bad {
				t.Errorf("behind %v there are %d units (%d) by method %d, %d (%d) by First", flows, other, otherBad, w.Method, units, bad)
			}
		}
	}
}

func unitsBehind(w impl.Worth, flows []impl.Flow) (int, int, int) {
	end, told, bad := impl.RunWorth(w, flows)
	units, _ := impl.Value(end)
	return units, len(told), bad
}

// What is answered when nothing was done, all was undone or a flow was refused is no more the argument's memory than what was made by flows.
func TestRunLeavesItsArguments(t *testing.T) {
	for _, method := range costMethods {
		lays := laysWithMoreBehind(4, 0)
		if method == impl.First || method == impl.Last {
			lays = laysWithMoreBehind(4, 40, 2, 31)
		}
		w := impl.Worth{Method: method, Lays: lays}
		flows := append(runOf(3, 7, -5, 0, 0, 1, 0, 1, -1, 0, 0, 1), runOf(0, 9, -1, 0)...)[:6]
		keptLays, keptFlows := slices.Clone(lays[:cap(lays)]), slices.Clone(flows[:cap(flows)])
		for range 2 {
			for length := range len(flows) + 1 {
				for _, more := range []int{0, 1} { // of 1 the last one may not be
					list := append(slices.Clone(flows[:length]), runOf(-99, 0)[:more]...)
					end, told, bad := wantRun(w, list)
					end = copyWorth(end)
					got := checkRun(t, w, list, end, told, bad)
					spoilWorthAnswer(got)
				}
				_, told, _ := impl.RunWorth(w, flows[:length])
				for i := range told[:cap(told)] {
					told[:cap(told)][i] = -77
				}
			}
			if !slices.Equal(lays[:cap(lays)], keptLays) || !slices.Equal(flows[:cap(flows)], keptFlows) {
				t.Fatal("an argument was written into")
			}
		}
	}
}
