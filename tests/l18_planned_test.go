package tests

import (
	"math/rand"
	"runtime"
	"slices"
	"testing"

	"loop.example/g00040/impl"
)

func somePlan(chance *rand.Rand, buckets, most int) impl.Plan {
	p := planOf(chance.Intn([]int{1, 3, buckets + 2}[chance.Intn(3)]), buckets)
	if chance.Intn(2) == 0 {
		p.Lots = someLots(chance, most)
	}
	if chance.Intn(2) == 0 {
		p.Have, p.Safety = chance.Intn(2*most+1), chance.Intn(most+1)
	}
	if chance.Intn(3) == 0 {
		p.Coming = someQtys(chance, buckets, most)
	}
	return p
}

// What may be planned, though numbers on the way may leave the quantities.
func somePlanning(chance *rand.Rand) toPlan {
	most := []int{2, 9, 400}[chance.Intn(3)]
	p := toPlan{items: someItems(chance, most), day: chance.Intn(13)}
	buckets := 1 + chance.Intn([]int{4, 9, impl.MaxBuckets}[chance.Intn(3)])
	for _, item := range p.items {
		p.plans = append(p.plans, somePlan(chance, buckets, most))
		demand := make([]int, buckets)
		if !item.Phantom && chance.Intn(2) == 0 {
			demand = someQtys(chance, buckets, most)
		}
		p.demand = append(p.demand, demand)
	}
	return p
}

func spoilPlan(chance *rand.Rand, p *impl.Plan) {
	switch chance.Intn(5) {
	case 0:
		p.Lead = noLeads[chance.Intn(len(noLeads))]
	case 1:
		p.Have = noQtys[chance.Intn(len(noQtys))]
	case 2:
		p.Safety = noQtys[chance.Intn(len(noQtys))]
	case 3:
		p.Coming[chance.Intn(len(p.Coming))] = noQtys[chance.Intn(len(noQtys))]
	case 4:
		spoilLots(chance, &p.Lots)
	}
}

func spoilPlanning(chance *rand.Rand, p *toPlan) {
	switch chance.Intn(7) {
	case 0:
		spoilItems(chance, p.items)
	case 1:
		spoilPlan(chance, &p.plans[chance.Intn(len(p.plans))])
	case 2:
		p.demand[chance.Intn(len(p.demand))][0] = noQtys[chance.Intn(len(noQtys))]
	case 3:
		i := chance.Intn(len(p.demand))
		p.demand[i] = append(p.demand[i], 0)
	case 4:
		i := chance.Intn(len(p.plans))
		p.plans[i].Coming = p.plans[i].Coming[1:]
	case 5:
		p.demand[chance.Intn(len(p.demand))][0]++
	case 6:
		p.day = noDays[chance.Intn(len(noDays))]
	}
}

func TestSomePlans(t *testing.T) {
	chance := rand.New(rand.NewSource(188))
	told, none := 0, 0
	for range 3000 {
		p := somePlanning(chance)
		if chance.Intn(6) == 0 {
			spoilPlanning(chance, &p)
		}
		if p.asWanted(t) {
			told++
		} else {
			none++
		}
	}
	if told < 1000 || none < 500 {
		t.Errorf("%d told, %d not", told, none)
	}
}

// What an item needs in each bucket: its demand, and what all that starts above it takes.
func (p toPlan) needsBy(t *testing.T, all []impl.Planned, item int) []int {
	t.Helper()
	needs := slices.Clone(p.demand[item])
	for above, planned := range all[:item] {
		for bucket, qty := range planned.Starts {
			taken, ok := impl.Needs(p.items, above, qty, p.day)
			if !ok {
				t.Fatalf("Needs(%v, %d, %d, %d) are not told", p.items, above, qty, p.day)
			}
			needs[bucket] += taken[item]
		}
	}
	return needs
}

func checkPlannedNeeds(t *testing.T, p toPlan, all []impl.Planned) {
	t.Helper()
	for item, planned := range all {
		needs := p.needsBy(t, all, item)
		if p.items[item].Phantom && sumOf(needs) > 0 {
			t.Errorf("the Phantom %d of %v needs %v", item, p.items, needs)
		}
		plan := p.plans[item]
		checkNet(t, needs, plan.Have, plan.Safety, plan.Coming, planned.Missing...)
		checkLots(t, plan.Lots, planned.Missing, planned.Orders...)
	}
}

// What is not late starts Lead ahead of its order; what is late starts first.
func checkPlannedStarts(t *testing.T, plan impl.Plan, planned impl.Planned) {
	t.Helper()
	late, first := 0, 0
	for bucket, n := range planned.Orders {
		start := bucket - plan.Lead
		if start < 0 {
			late += n
		}
		if start <= 0 {
			first += n
		} else if planned.Starts[start] != n {
			t.Errorf("with a lead of %d the orders %v start as %v", plan.Lead, planned.Orders, planned.Starts)
		}
	}
	if planned.Late != late || planned.Starts[0] != first || sumOf(planned.Starts) != sumOf(planned.Orders) || len(planned.Starts) != len(planned.Orders) {
		t.Errorf("with a lead of %d the orders %v start as %v, %d late", plan.Lead, planned.Orders, planned.Starts, planned.Late)
	}
}

func TestWhatIsPlanned(t *testing.T) {
	chance := rand.New(rand.NewSource(189))
	told, late := 0, 0
	for range 2500 {
		p := somePlanning(chance)
		all, ok := p.ask()
		if !ok {
			continue
		}
		told++
		checkPlannedNeeds(t, p, all)
		for item, planned := range all {
			checkPlannedStarts(t, p.plans[item], planned)
			if planned.Late > 0 {
				late++
			}
		}
	}
	if told < 1000 || late < 1000 {
		t.Errorf("%d told, %d late", told, late)
	}
}

// Of items without Phantoms, planned lot for lot and at once for one demand, just what Explode tells is ordered.
func checkPlannedIsExplode(t *testing.T, items []impl.Item, at, qty, day, bucket, buckets int) bool {
	t.Helper()
	there, ok := impl.Explode(items, at, qty, day)
	p := planningFirst(items, make([]int, buckets)...)
	p.demand[at][bucket], p.day = qty, day
	all, isPlanned := p.ask()
	if !isPlanned {
		return false
	}
	if !ok {
		t.Fatalf("Explode(%v, %d, %d, %d) is not told, but planned as %v", items, at, qty, day, all)
	}
	for item, planned := range all {
		want := make([]int, buckets)
		want[bucket] = there[item]
		if !samePlanned(planned, atOnce(want...)) {
			t.Errorf("of %v for %d of item %d item %d is planned as %v; Explode tells %d", items, qty, at, item, planned, there[item])
		}
	}
	return true
}

func TestPlannedAtOnceIsExplode(t *testing.T) {
	bench := handBench()
	for i := range bench {
		bench[i].Phantom = false
	}
	for at := range bench {
		for qty := range 15 {
			if !checkPlannedIsExplode(t, bench, at, qty, 5, 1, 3) {
				t.Errorf("%d of item %d are not planned", qty, at)
			}
		}
	}
	chance := rand.New(rand.NewSource(190))
	told := 0
	for range 4000 {
		items := someItems(chance, []int{3, 40, 3000}[chance.Intn(3)])
		for i := range items {
			items[i].Phantom = false
		}
		buckets := 1 + chance.Intn(5)
		if checkPlannedIsExplode(t, items, chance.Intn(len(items)), chance.Intn(60), chance.Intn(12), chance.Intn(buckets), buckets) {
			told++
		}
	}
	if told < 1500 {
		t.Errorf("%d told", told)
	}
}

// As much as there may be, in time: each item takes of many, in all buckets.
func TestTheGreatestPlan(t *testing.T) {
	items := manyItems(impl.MaxItems)
	for i := range items {
		items[i].Batch = 1
		for k := i + 1; k < len(items) && len(items[i].Parts) < impl.MaxPartsOf; k++ {
			if i%20 != 19 {
				continue
			}
			items[i].Parts = append(items[i].Parts, takes(k, 1))
		}
	}
	p := planningFirst(items, repeated(2, impl.MaxBuckets)...)
	for i := range p.plans {
		p.demand[i] = repeated(2, impl.MaxBuckets)
		p.plans[i].Lots, p.plans[i].Lead = leastLots(4, 1), i%3
	}
	if !p.asWanted(t) {
		t.Error("the greatest plan is not told")
	}
}

func roomyPlanning() toPlan {
	p := planningFirst(roomyItems(goodsOf(madeOf(1, takes(1, 2), takes(2, 1)), phantomOf(1, takes(2, 3)), madeOf(1))), withRoom(4, 0, 6)...)
	for i := range p.plans {
		p.plans[i].Coming, p.demand[i] = withRoom(0, 0, 0), withRoom(p.demand[i]...)
	}
	p.plans = append(p.plans, impl.Plan{Lead: -7}, impl.Plan{Have: -7})[:3]
	p.demand = append(p.demand, []int{-7}, nil)[:3]
	return p
}

func (p toPlan) allRoom() toPlan {
	p.items, p.plans, p.demand = allRoom(p.items), slices.Clone(p.plans[:cap(p.plans)]), slices.Clone(p.demand[:cap(p.demand)])
	for i := range p.plans {
		p.plans[i].Coming = roomOf(p.plans[i].Coming)
	}
	for i := range p.demand {
		p.demand[i] = roomOf(p.demand[i])
	}
	return p
}

// Spoils one list of the answer after the other, and looks at all others each time.
func checkPlannedShareNothing(t *testing.T, all []impl.Planned) {
	t.Helper()
	for i := range all {
		for k := range 3 {
			lists := [][]int{}
			for _, planned := range all {
				lists = append(lists, planned.Missing, planned.Orders, planned.Starts)
			}
			kept := []int{}
			for n, list := range lists {
				if n != 3*i+k {
					kept = append(kept, list...)
				}
			}
			spoilList(lists[3*i+k])
			left := []int{}
			for n, list := range lists {
				if n != 3*i+k {
					left = append(left, list...)
				}
			}
			if !slices.Equal(kept, left) {
				t.Fatalf("list %d of item %d shares with another one", k, i)
			}
		}
	}
}

func TestPlansLeaveTheirArguments(t *testing.T) {
	p := roomyPlanning()
	kept := p.allRoom()
	for _, lots := range []impl.Lots{lotForLot, fixedLots(1), spanLots(1), leastLots(0, 1)} {
		for i := range p.plans {
			p.plans[i].Lots, kept.plans[i].Lots = lots, lots
		}
		for range 2 {
			all := p.check(t, allAtOnce([]int{4, 0, 6}, []int{0, 0, 0}, []int{28, 0, 42})...)
			checkPlannedShareNothing(t, all)
			for i := range all[:cap(all)] {
				all[:cap(all)][i] = impl.Planned{Late: -9}
			}
			wide := p
			wide.demand = p.demand[:4]
			wide.refuse(t)
			wide.plans, wide.items = p.plans[:4], p.items[:4]
			wide.refuse(t)
		}
		if now := p.allRoom(); !now.sameAs(kept) {
			t.Fatalf("the arguments were written into: %v", now)
		}
	}
}

func TestPlansLeaveNoGoroutineBehind(t *testing.T) {
	ahead := runtime.NumGoroutine()
	p := roomyPlanning()
	for range 100 {
		p.check(t, allAtOnce([]int{4, 0, 6}, []int{0, 0, 0}, []int{28, 0, 42})...)
		checkLots(t, leastLots(10, 1), []int{4, 0, 3, 9, 9}, 7, 0, 0, 18, 0)
		checkNet(t, []int{5, 5, 5}, 7, 1, []int{0, 2, 0}, 0, 2, 5)
		refuseLotCost(t, leastLots(10, 1), nil, nil)
	}
	checkNoneLeftBehind(t, ahead)
}
