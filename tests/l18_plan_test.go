package tests

import (
	"math"
	"slices"
	"testing"

	"loop.example/g00040/impl"
)

var noLeads = []int{math.MinInt, -impl.MaxBuckets, -2, -1, impl.MaxBuckets + 1, impl.MaxBuckets + 2, math.MaxInt}

var lotForLot = impl.Lots{Kind: impl.LotForLot, Size: 1}

// What is to be planned: at once, lot for lot, with nothing there, unless it is changed.
type toPlan struct {
	items  []impl.Item
	plans  []impl.Plan
	demand [][]int
	day    int
}

func planOf(lead, buckets int) impl.Plan {
	return impl.Plan{Lead: lead, Lots: lotForLot, Coming: make([]int, buckets)}
}

// The demand for each item, in as many buckets.
func planning(items []impl.Item, demand ...[]int) toPlan {
	p := toPlan{items: items, demand: demand, day: 5}
	for range items {
		p.plans = append(p.plans, planOf(0, len(demand[0])))
	}
	return p
}

// The first item alone has demand.
func planningFirst(items []impl.Item, demand ...int) toPlan {
	lists := [][]int{demand}
	for range items[1:] {
		lists = append(lists, make([]int, len(demand)))
	}
	return planning(items, lists...)
}

func (p toPlan) copied() toPlan {
	p.items, p.plans, p.demand = copyItems(p.items), slices.Clone(p.plans), slices.Clone(p.demand)
	for i := range p.plans {
		p.plans[i].Coming = slices.Clone(p.plans[i].Coming)
	}
	for i := range p.demand {
		p.demand[i] = slices.Clone(p.demand[i])
	}
	return p
}

func (p toPlan) with(change func(p *toPlan)) toPlan {
	changed := p.copied()
	change(&changed)
	return changed
}

func samePlan(a, b impl.Plan) bool {
	return a.Lead == b.Lead && a.Have == b.Have && a.Safety == b.Safety && a.Lots == b.Lots && slices.Equal(a.Coming, b.Coming)
}

func (p toPlan) sameAs(other toPlan) bool {
	lists := slices.EqualFunc(p.demand, other.demand, slices.Equal[[]int])
	return sameItems(p.items, other.items) && lists && slices.EqualFunc(p.plans, other.plans, samePlan)
}

func isPlan(p impl.Plan, buckets int) bool {
	numbers := placeAmong(p.Lead, impl.MaxBuckets+1) && areQtys([]int{p.Have, p.Safety})
	return numbers && areLots(p.Lots) && len(p.Coming) == buckets && areQtys(p.Coming)
}

func (p toPlan) isRight() bool {
	if !wantItemsOk(p.items) || len(p.plans) != len(p.items) || len(p.demand) != len(p.items) || !isDay(p.day) || !areBuckets(p.demand[0]) {
		return false
	}
	for i, list := range p.demand {
		if len(list) != len(p.demand[0]) || !areQtys(list) || !isPlan(p.plans[i], len(list)) || p.items[i].Phantom && sumOf(list) != 0 {
			return false
		}
	}
	return true
}

// wantPlanning is asked from the last item upwards: each asks those above it what their starts take.
type wantPlanning struct {
	toPlan
	known map[int]impl.Planned
	taken map[[2]int][]int // by item and bucket
	left  bool             // something is false
}

func (w *wantPlanning) takenBy(item, bucket int) []int {
	key := [2]int{item, bucket}
	if w.taken[key] == nil {
		taken, ok := needing.want(w.items, item, w.planned(item).Starts[bucket], w.day)
		if !ok {
			w.left, taken = true, make([]int, len(w.items))
		}
		w.taken[key] = taken
	}
	return w.taken[key]
}

func (w *wantPlanning) needsOf(item int) []int {
	needs := slices.Clone(w.demand[item])
	for above := range item {
		for bucket := range needs {
			needs[bucket] += w.takenBy(above, bucket)[item]
		}
	}
	return needs
}

// What each bucket starts is what the bucket Lead behind it orders; the first one starts what is ordered ahead of that too.
func wantStarts(orders []int, lead int) []int {
	starts := make([]int, len(orders))
	for b := range starts {
		if b+lead < len(orders) {
			starts[b] = orders[b+lead]
		}
	}
	starts[0] = sumOf(orders[:min(lead+1, len(orders))])
	return starts
}

func (w *wantPlanning) planned(item int) impl.Planned {
	if known, ok := w.known[item]; ok {
		return known
	}
	plan := w.plans[item]
	missing, ok := wantMissing(w.needsOf(item), plan.Have, plan.Safety, plan.Coming)
	orders, isOrdered := wantLots(plan.Lots, missing)
	planned := impl.Planned{Missing: missing, Orders: orders}
	if !ok || !isOrdered {
		w.left = true
		planned.Starts = make([]int, len(w.demand[item]))
	} else {
		planned.Starts = wantStarts(orders, plan.Lead)
		planned.Late = sumOf(orders[:min(plan.Lead, len(orders))])
	}
	w.known[item] = planned
	return planned
}

func (p toPlan) want() ([]impl.Planned, bool) {
	if !p.isRight() {
		return nil, false
	}
	w := &wantPlanning{toPlan: p, known: map[int]impl.Planned{}, taken: map[[2]int][]int{}}
	all := make([]impl.Planned, len(p.items))
	for item := len(p.items) - 1; item >= 0; item-- {
		all[item] = w.planned(item)
		for bucket := range p.demand[item] {
			w.takenBy(item, bucket)
		}
	}
	return all, !w.left
}

func samePlanned(a, b impl.Planned) bool {
	return slices.Equal(a.Missing, b.Missing) && slices.Equal(a.Orders, b.Orders) && slices.Equal(a.Starts, b.Starts) && a.Late == b.Late
}

func (p toPlan) ask() ([]impl.Planned, bool) { return impl.PlanAll(p.items, p.plans, p.demand, p.day) }

func (p toPlan) check(t *testing.T, want ...impl.Planned) []impl.Planned {
	t.Helper()
	kept := p.copied()
	got, ok := p.ask()
	other, otherOk := p.want()
	if !ok || !slices.EqualFunc(got, want, samePlanned) {
		t.Errorf("PlanAll(%v, %v, %v, %d) = %v, %v; want %v", shortItems(p.items), p.plans, p.demand, p.day, got, ok, want)
	} else if !otherOk || !slices.EqualFunc(other, want, samePlanned) {
		t.Errorf("the other way PlanAll(%v, %v, %v, %d) = %v, %v; want %v", shortItems(p.items), p.plans, p.demand, p.day, other, otherOk, want)
	}
	if !p.sameAs(kept) {
		t.Fatalf("PlanAll(%v, %v, %v, %d) wrote into its arguments", shortItems(kept.items), kept.plans, kept.demand, p.day)
	}
	return got
}

func (p toPlan) refuse(t *testing.T) {
	t.Helper()
	_, otherOk := p.want()
	if got, ok := p.ask(); ok || otherOk || len(got) != 0 {
		t.Errorf("PlanAll(%v, %v, %v, %d) = %v, %v; want nothing", shortItems(p.items), p.plans, p.demand, p.day, got, ok)
	}
}

func (p toPlan) asWanted(t *testing.T) bool {
	t.Helper()
	want, ok := p.want()
	if ok {
		p.check(t, want...)
	} else {
		p.refuse(t)
	}
	return ok
}

func planned(missing, orders, starts []int, late int) impl.Planned {
	return impl.Planned{Missing: missing, Orders: orders, Starts: starts, Late: late}
}

// Planned at once and lot for lot: what is missing is ordered and starts.
func atOnce(list ...int) impl.Planned { return planned(list, list, list, 0) }

func allAtOnce(lists ...[]int) []impl.Planned {
	all := []impl.Planned{}
	for _, list := range lists {
		all = append(all, atOnce(list...))
	}
	return all
}

func TestPlansByHand(t *testing.T) {
	two := goodsOf(madeOf(1, takes(1, 2)), madeOf(1))
	p := planning(two, []int{0, 4, 3}, []int{0, 0, 1})
	p.plans[0].Lead = 1
	p.plans[1] = impl.Plan{Lead: 2, Have: 5, Lots: lotForLot, Coming: []int{0, 0, 0}}
	p.check(t, planned([]int{0, 4, 3}, []int{0, 4, 3}, []int{4, 3, 0}, 0), planned([]int{3, 6, 1}, []int{3, 6, 1}, []int{10, 0, 0}, 9))
	planningFirst(two, 5).check(t, allAtOnce([]int{5}, []int{10})...)
	planningFirst(two, 0, 0).check(t, allAtOnce([]int{0, 0}, []int{0, 0})...)
	planning(goodsOf(madeOf(1)), []int{3, 0, 4}).check(t, atOnce(3, 0, 4))
}

func TestWhenOrdersStart(t *testing.T) {
	one := planningFirst(goodsOf(madeOf(1), madeOf(1)), 1, 0, 2, 4, 8)
	rows := []struct {
		lead   int
		starts []int
		late   int
	}{
		{0, []int{1, 0, 2, 4, 8}, 0}, {1, []int{1, 2, 4, 8, 0}, 1}, {2, []int{3, 4, 8, 0, 0}, 1}, {3, []int{7, 8, 0, 0, 0}, 3}, {4, []int{15, 0, 0, 0, 0}, 7},
		{5, []int{15, 0, 0, 0, 0}, 15}, {6, []int{15, 0, 0, 0, 0}, 15}, {impl.MaxBuckets - 1, []int{15, 0, 0, 0, 0}, 15}, {impl.MaxBuckets, []int{15, 0, 0, 0, 0}, 15},
	}
	for _, r := range rows {
		one.plans[0].Lead = r.lead
		one.check(t, planned(one.demand[0], one.demand[0], r.starts, r.late), atOnce(0, 0, 0, 0, 0))
		other := one.with(func(p *toPlan) { slices.Reverse(p.plans); slices.Reverse(p.demand) })
		other.check(t, atOnce(0, 0, 0, 0, 0), planned(one.demand[0], one.demand[0], r.starts, r.late))
	}
	for _, lead := range noLeads {
		for at := range 2 {
			one.with(func(p *toPlan) { p.plans[at].Lead = lead }).refuse(t)
		}
	}
	// What is ordered just Lead behind bucket 0 isn't late; one bucket ahead of that it is.
	for lead := range impl.MaxBuckets {
		p := planningFirst(goodsOf(madeOf(1)), repeated(0, impl.MaxBuckets)...)
		p.demand[0][lead] = 7
		p.plans[0].Lead = lead
		starts := append([]int{7}, repeated(0, impl.MaxBuckets-1)...)
		p.check(t, planned(p.demand[0], p.demand[0], starts, 0))
		p.plans[0].Lead++
		p.check(t, planned(p.demand[0], p.demand[0], starts, 7))
	}
}

func TestPartsNeededWhereItStarts(t *testing.T) {
	p := planningFirst(goodsOf(madeOf(1, takes(1, 3)), madeOf(1)), 0, 0, 5, 1)
	p.plans[0].Lead = 2
	p.check(t, planned([]int{0, 0, 5, 1}, []int{0, 0, 5, 1}, []int{5, 1, 0, 0}, 0), atOnce(15, 3, 0, 0))
	p.plans[0].Lead = 3
	p.check(t, planned([]int{0, 0, 5, 1}, []int{0, 0, 5, 1}, []int{6, 0, 0, 0}, 5), atOnce(18, 0, 0, 0))
	p.plans[1].Lead = 1
	p.check(t, planned([]int{0, 0, 5, 1}, []int{0, 0, 5, 1}, []int{6, 0, 0, 0}, 5), planned([]int{18, 0, 0, 0}, []int{18, 0, 0, 0}, []int{18, 0, 0, 0}, 18))
	// What starts together is made in one row of batches.
	p.items[0].Batch = 4
	p.check(t, planned([]int{0, 0, 5, 1}, []int{0, 0, 5, 1}, []int{6, 0, 0, 0}, 5), planned([]int{6, 0, 0, 0}, []int{6, 0, 0, 0}, []int{6, 0, 0, 0}, 6))
	p.plans[0].Lead, p.plans[1].Lead = 2, 0
	p.check(t, planned([]int{0, 0, 5, 1}, []int{0, 0, 5, 1}, []int{5, 1, 0, 0}, 0), atOnce(6, 3, 0, 0))
}

func TestItemsThatSeveralTake(t *testing.T) {
	shared := goodsOf(madeOf(1, takes(2, 2)), madeOf(1, takes(2, 3)), madeOf(1))
	planning(shared, []int{1, 0, 4}, []int{0, 5, 6}, []int{7, 0, 0}).check(t, allAtOnce([]int{1, 0, 4}, []int{0, 5, 6}, []int{9, 15, 26})...)
	// On two ways, at once and through another one that takes its time.
	ways := planningFirst(goodsOf(madeOf(1, takes(1, 2), takes(2, 1), takes(2, 10)), madeOf(1, takes(2, 5)), madeOf(1)), 0, 3)
	ways.check(t, allAtOnce([]int{0, 3}, []int{0, 6}, []int{0, 63})...)
	ways.plans[1].Lead = 1
	ways.check(t, atOnce(0, 3), planned([]int{0, 6}, []int{0, 6}, []int{6, 0}, 0), atOnce(30, 33))
	// A line of all levels.
	line := planningFirst(lineOfItems(impl.MaxLevel+1, 0), repeated(0, impl.MaxLevel+1)...)
	line.demand[0][impl.MaxLevel] = 9
	want := []impl.Planned{}
	for i := range line.items {
		line.plans[i].Lead = 1
		list, starts := repeated(0, impl.MaxLevel+1), repeated(0, impl.MaxLevel+1)
		list[impl.MaxLevel-i], starts[max(impl.MaxLevel-i-1, 0)] = 9, 9
		late := 0
		if i == impl.MaxLevel {
			late = 9
		}
		want = append(want, planned(list, list, starts, late))
	}
	line.check(t, want...)
}

func TestPhantomsInPlans(t *testing.T) {
	items := goodsOf(madeOf(1, takes(1, 2)), phantomOf(4, takes(2, 5), takes(3, 1)), madeOf(1), madeOf(1))
	p := planningFirst(items, 3, 0, 4)
	p.check(t, allAtOnce([]int{3, 0, 4}, []int{0, 0, 0}, []int{10, 0, 10}, []int{2, 0, 2})...)
	for _, n := range []int{1, 5, impl.MaxQty} {
		for bucket := range 3 {
			p.with(func(p *toPlan) { p.demand[1][bucket] = n }).refuse(t)
		}
	}
	// What is to be kept of one is planned like all others, and takes its Parts.
	kept := p.with(func(p *toPlan) { p.plans[1].Safety, p.plans[1].Lead = 5, 1 })
	kept.check(t, atOnce(3, 0, 4), planned([]int{5, 0, 0}, []int{5, 0, 0}, []int{5, 0, 0}, 5), atOnce(20, 0, 10), atOnce(4, 0, 2))
	kept.plans[1].Have = 5
	kept.check(t, atOnce(3, 0, 4), atOnce(0, 0, 0), atOnce(10, 0, 10), atOnce(2, 0, 2))
	// One in another one.
	nested := goodsOf(madeOf(1, takes(1, 1)), phantomOf(1, takes(2, 2)), phantomOf(1, takes(3, 3)), madeOf(1))
	planningFirst(nested, 0, 5).check(t, allAtOnce([]int{0, 5}, []int{0, 0}, []int{0, 0}, []int{0, 30})...)
}

func TestPlansOfADay(t *testing.T) {
	items := goodsOf(madeOf(4, takesOn(0, 6, 1, 3), grouped(2, takesOn(5, 9, 2, 7)), grouped(2, losing(10, takes(3, 10)))), madeOf(1), madeOf(1), madeOf(1))
	p := planningFirst(items, 5, 0, 8)
	for day := range 12 {
		p.day = day
		first, second, third := []int{0, 0, 0}, []int{0, 0, 0}, []int{0, 0, 0}
		if day <= 6 {
			first = []int{6, 0, 6}
		}
		if day >= 5 && day <= 9 {
			second = []int{14, 0, 14}
		} else {
			third = []int{22, 0, 22}
		}
		p.check(t, allAtOnce([]int{5, 0, 8}, first, second, third)...)
	}
	for _, day := range []int{0, 1, impl.MaxDay - 1, impl.MaxDay} {
		p.day = day
		p.asWanted(t)
	}
	for _, day := range noDays {
		p.day = day
		p.refuse(t)
		p.with(func(p *toPlan) { p.demand[0] = []int{0, 0, 0} }).refuse(t)
	}
}

func TestPlansWithWhatIsThere(t *testing.T) {
	p := planningFirst(goodsOf(madeOf(1, takes(1, 2)), madeOf(1)), 4, 0, 6)
	coming := func(at int, list ...int) toPlan { return p.with(func(p *toPlan) { p.plans[at].Coming = list }) }
	// All, some and none of it comes in; what comes in isn't started, and takes nothing.
	coming(0, 4, 0, 6).check(t, allAtOnce([]int{0, 0, 0}, []int{0, 0, 0})...)
	coming(0, 9, 0, 1).check(t, allAtOnce([]int{0, 0, 0}, []int{0, 0, 0})...)
	coming(0, 1, 0, 2).check(t, allAtOnce([]int{3, 0, 4}, []int{6, 0, 8})...)
	coming(0, 0, 5, 0).check(t, allAtOnce([]int{4, 0, 1}, []int{8, 0, 2})...)
	coming(1, 8, 0, 12).check(t, allAtOnce([]int{4, 0, 6}, []int{0, 0, 0})...)
	coming(1, 1, 1, 1).check(t, allAtOnce([]int{4, 0, 6}, []int{7, 0, 10})...)
	p.with(func(p *toPlan) { p.plans[0].Have = 5 }).check(t, allAtOnce([]int{0, 0, 5}, []int{0, 0, 10})...)
	p.with(func(p *toPlan) { p.plans[0].Safety = 5 }).check(t, allAtOnce([]int{9, 0, 6}, []int{18, 0, 12})...)
	p.with(func(p *toPlan) { p.plans[1].Have, p.plans[1].Safety = 5, 3 }).check(t, allAtOnce([]int{4, 0, 6}, []int{6, 0, 12})...)
}

func TestPlansOfEachKindOfLots(t *testing.T) {
	p := planningFirst(goodsOf(madeOf(1, takes(1, 1)), madeOf(1)), 4, 0, 3, 9, 9)
	missing := p.demand[0]
	for _, r := range []struct {
		lots   impl.Lots
		orders []int
	}{{lotForLot, missing}, {fixedLots(5), []int{5, 0, 5, 10, 5}}, {spanLots(2), []int{4, 0, 12, 0, 9}}, {leastLots(10, 1), []int{7, 0, 0, 18, 0}}} {
		first := p.with(func(p *toPlan) { p.plans[0].Lots = r.lots })
		first.check(t, planned(missing, r.orders, r.orders, 0), atOnce(r.orders...))
		second := p.with(func(p *toPlan) { p.plans[1].Lots = r.lots; p.plans[1].Lead = 1 })
		second.check(t, atOnce(missing...), planned(missing, r.orders, wantStarts(r.orders, 1), r.orders[0]))
	}
	both := p.with(func(p *toPlan) { p.plans[0].Lots, p.plans[1].Lots = fixedLots(5), spanLots(3) })
	both.check(t, planned(missing, []int{5, 0, 5, 10, 5}, []int{5, 0, 5, 10, 5}, 0), planned([]int{5, 0, 5, 10, 5}, []int{10, 0, 0, 15, 0}, []int{10, 0, 0, 15, 0}, 0))
}

func TestHowManyPlansThereMustBe(t *testing.T) {
	p := planning(goodsOf(madeOf(1, takes(1, 2)), madeOf(1), madeOf(1)), []int{4, 1}, []int{0, 1}, []int{2, 0})
	p.check(t, allAtOnce([]int{4, 1}, []int{8, 3}, []int{2, 0})...)
	for _, changed := range []toPlan{
		p.with(func(p *toPlan) { p.plans = p.plans[:2] }),
		p.with(func(p *toPlan) { p.plans = append(p.plans, planOf(0, 2)) }),
		p.with(func(p *toPlan) { p.plans = nil }),
		p.with(func(p *toPlan) { p.demand = p.demand[:2] }),
		p.with(func(p *toPlan) { p.demand = append(p.demand, []int{0, 0}) }),
		p.with(func(p *toPlan) { p.demand = nil }),
		p.with(func(p *toPlan) { p.plans, p.demand = p.plans[:2], p.demand[:2] }),
		p.with(func(p *toPlan) { p.items = p.items[:2] }),
		p.with(func(p *toPlan) { p.plans, p.demand, p.items = nil, nil, nil }),
		p.with(func(p *toPlan) { p.plans, p.demand = nil, nil }),
	} {
		changed.refuse(t)
	}
	for at := range 3 {
		p.with(func(p *toPlan) { p.demand[at] = p.demand[at][:1] }).refuse(t)
		p.with(func(p *toPlan) { p.demand[at] = append(p.demand[at], 0) }).refuse(t)
		p.with(func(p *toPlan) { p.demand[at] = nil }).refuse(t)
		p.with(func(p *toPlan) { p.plans[at].Coming = []int{0} }).refuse(t)
		p.with(func(p *toPlan) { p.plans[at].Coming = []int{0, 0, 0} }).refuse(t)
		p.with(func(p *toPlan) { p.plans[at].Coming = nil }).refuse(t)
	}
}

func TestHowManyBucketsPlansMayHave(t *testing.T) {
	items := goodsOf(madeOf(1, takes(1, 2)), madeOf(1))
	for _, count := range []int{1, 2, impl.MaxBuckets - 1, impl.MaxBuckets} {
		planningFirst(items, repeated(3, count)...).check(t, allAtOnce(repeated(3, count), repeated(6, count))...)
	}
	for _, count := range []int{0, impl.MaxBuckets + 1, impl.MaxBuckets + 2, 500} {
		planningFirst(items, repeated(3, count)...).refuse(t)
		planningFirst(items, repeated(0, count)...).refuse(t)
	}
}

func TestPlansThatAreNotRight(t *testing.T) {
	p := planningFirst(goodsOf(madeOf(1, takes(1, 2)), madeOf(1), madeOf(1)), 4, 1)
	for at := range 3 {
		for _, none := range noQtys {
			p.with(func(p *toPlan) { p.plans[at].Have = none }).refuse(t)
			p.with(func(p *toPlan) { p.plans[at].Safety = none }).refuse(t)
			for bucket := range 2 {
				p.with(func(p *toPlan) { p.plans[at].Coming[bucket] = none }).refuse(t)
				p.with(func(p *toPlan) { p.demand[at][bucket] = none }).refuse(t)
			}
		}
		for _, kind := range noLotKinds {
			p.with(func(p *toPlan) { p.plans[at].Lots.Kind = kind }).refuse(t)
		}
		for _, size := range noQtysAbove0 {
			p.with(func(p *toPlan) { p.plans[at].Lots.Size = size }).refuse(t)
		}
		for _, setup := range noFactors {
			p.with(func(p *toPlan) { p.plans[at].Lots.Setup = setup }).refuse(t)
		}
		for _, hold := range noHolds {
			p.with(func(p *toPlan) { p.plans[at].Lots.Hold = hold }).refuse(t)
		}
		top := impl.MaxQty
		p.with(func(p *toPlan) {
			p.plans[at] = impl.Plan{Lead: impl.MaxBuckets, Have: top, Safety: top, Lots: impl.Lots{Kind: impl.LotLeast, Size: top, Setup: impl.MaxFactor, Hold: mostHold}, Coming: []int{0, 0}}
		}).asWanted(t)
	}
	p.with(func(p *toPlan) { p.plans = make([]impl.Plan, 3) }).refuse(t)
}

func TestNeedsThatLeaveTheQuantitiesOfPlans(t *testing.T) {
	top := impl.MaxQty
	shared := goodsOf(madeOf(1, takes(2, 2)), madeOf(1, takes(2, 3)), madeOf(1))
	for bucket := range 2 {
		at := func(n int) []int {
			list := []int{0, 0}
			list[bucket] = n
			return list
		}
		planning(shared, at(200000), at(100000), at(300000)).check(t, allAtOnce(at(200000), at(100000), at(top))...)
		planning(shared, at(200000), at(100000), at(300001)).refuse(t)
		planning(shared, at(200001), at(100000), at(300000)).refuse(t)
		planning(shared, at(500000), at(0), at(0)).check(t, allAtOnce(at(500000), at(0), at(top))...)
		planning(shared, at(500000), at(0), at(1)).refuse(t)
		// What is there doesn't help a need that is no quantity.
		much := planning(shared, at(500000), at(0), at(1))
		much.plans[2].Have = top
		much.refuse(t)
		// It is of each bucket by itself.
		other, both := []int{top, top}, []int{top, top}
		other[bucket], both[bucket] = 0, 700000
		planning(shared, at(200000), at(100000), other).check(t, allAtOnce(at(200000), at(100000), both)...)
	}
	planning(shared, []int{top / 2, 0}, []int{0, top / 3}, []int{0, 1}).check(t, allAtOnce([]int{top / 2, 0}, []int{0, top / 3}, []int{top, top})...)
}

func TestPlansThatNetOrLotsRefuse(t *testing.T) {
	top := impl.MaxQty
	p := planning(goodsOf(madeOf(1, takes(2, 1)), madeOf(1), madeOf(1)), []int{5, 1, 3}, []int{5, 1, 3}, []int{0, 0, 0})
	for at := range 3 {
		// More than can be there comes in, or more than can be ordered is missing.
		full := p.with(func(p *toPlan) { p.plans[at].Have, p.plans[at].Coming[0] = top-7, 7 })
		full.asWanted(t)
		full.plans[at].Coming[0]++
		full.refuse(t)
		much := p.with(func(p *toPlan) { p.plans[at].Safety = top - 5 })
		if !much.asWanted(t) {
			t.Errorf("what is missing of item %d is just a quantity", at)
		}
		much.plans[at].Safety++
		much.refuse(t)
		// An order is no quantity.
		for _, lots := range []impl.Lots{fixedLots(top/2 + 1), fixedLots(top)} {
			fixed := p.with(func(p *toPlan) { p.plans[at].Lots = lots })
			if !fixed.asWanted(t) {
				t.Errorf("one lot of item %d is a quantity", at)
			}
		}
		p.with(func(p *toPlan) { p.plans[at].Lots = fixedLots(top/2 + 1); p.plans[at].Safety = top / 2 }).refuse(t)
		for _, lots := range []impl.Lots{spanLots(2), leastLots(impl.MaxFactor, 0)} {
			span := p.with(func(p *toPlan) { p.plans[at].Lots, p.demand[at] = lots, []int{0, top - 9, 4} })
			span.plans[2].Have = 9
			if at == 2 {
				span.plans[2].Have = 0
				span.demand[0] = []int{0, 0, 0}
			}
			if !span.asWanted(t) {
				t.Errorf("the order of item %d is a quantity", at)
			}
			span.demand[at][2] = 10
			span.refuse(t)
		}
	}
}

// What starts is asked of Needs: of all items, also of one that is bought, and of a bucket in which several orders start.
func TestPlansThatNeedsRefuses(t *testing.T) {
	top := impl.MaxQty
	for _, item := range []impl.Item{madeOf(1), madeOf(1, takesOn(0, 4, 1, 1)), madeOf(1, takes(1, 1))} {
		p := planningFirst(goodsOf(item, madeOf(1)), top-4, 3, 1)
		p.plans[0].Lead = 1
		if !p.asWanted(t) {
			t.Error("what starts first is a quantity")
		}
		p.plans[0].Lead = 2
		if !p.asWanted(t) {
			t.Error("what starts first is just a quantity")
		}
		p.demand[0][2] = 2
		p.refuse(t)
		p.plans[0].Lead = 1
		if !p.asWanted(t) {
			t.Error("what starts first is a quantity without the last")
		}
		p.items[0].Batch = 333333
		p.demand[0] = []int{0, 999999, 0}
		if !p.asWanted(t) {
			t.Error("all batches are a quantity")
		}
		p.demand[0] = []int{0, top, 0}
		p.refuse(t)
		last := p.with(func(p *toPlan) {
			p.items = goodsOf(madeOf(1), madeOf(333333))
			slices.Reverse(p.plans)
			slices.Reverse(p.demand)
		})
		last.refuse(t)
		last.demand[1][1]--
		if !last.asWanted(t) {
			t.Error("all batches of the last are a quantity")
		}
	}
	// Too much of a Part, also of a Phantom that is passed by.
	p := planningFirst(goodsOf(madeOf(1, takes(1, 2)), phantomOf(1, takes(2, 2)), madeOf(1)), 0, 250000)
	p.check(t, allAtOnce([]int{0, 250000}, []int{0, 0}, []int{0, top})...)
	p.demand[0][1]++
	p.refuse(t)
	p.items[0].Parts[0].Last = 4
	p.check(t, allAtOnce([]int{0, 250001}, []int{0, 0}, []int{0, 0})...)
}

func TestPlansOfWrongItems(t *testing.T) {
	for _, items := range [][]impl.Item{{{}}, {{Name: "a"}}, goodsOf(madeOf(0)), goodsOf(madeOf(1, takes(0, 1))), goodsOf(madeOf(1, takes(1, 1))), goodsOf(madeOf(1), madeOf(1, takes(0, 1))), goodsOf(phantomOf(1)), manyItems(impl.MaxItems), manyItems(impl.MaxItems + 1), append(goodsOf(madeOf(1)), goodsOf(madeOf(1))...), lineOfItems(impl.MaxLevel+2, 0)} {
		planningFirst(items, 0, 0).refuse(t)
		planningFirst(items, 3).refuse(t)
	}
	full := manyItems(impl.MaxItems + 1)
	for i := range full {
		full[i].Batch = 1
	}
	planningFirst(full, 3).refuse(t)
	p := planningFirst(full[:impl.MaxItems], 3, 4)
	want := append([]impl.Planned{atOnce(3, 4)}, slices.Repeat([]impl.Planned{atOnce(0, 0)}, impl.MaxItems-1)...)
	p.check(t, want...)
}
