package tests

import (
	"math/rand"
	"slices"
	"testing"

	"loop.example/g00040/impl"
)

// What Needs, Explode and Output have alike: what they are asked, and what they tell nothing of.
type makingAsk struct {
	name string
	ask  func(items []impl.Item, at int, qty int, day int) ([]int, bool)
	fill func(w *wantMaking)
}

var needing = makingAsk{name: "Needs", ask: impl.Needs, fill: (*wantMaking).fillNeeds}

var exploding = makingAsk{name: "Explode", ask: impl.Explode, fill: (*wantMaking).fillExplode}

var yielding = makingAsk{name: "Output", ask: impl.Output, fill: (*wantMaking).fillOutput}

var makings = []makingAsk{needing, exploding, yielding}

// Each number is told from the side of what is taken: all that take of an item are asked how much.
type wantMaking struct {
	items []impl.Item
	at    int
	qty   int
	day   int
	told  []int
	left  bool // a number has left the quantities
}

func (w *wantMaking) keep(n int) int {
	if !isQty(n) {
		w.left = true
		return 0
	}
	return n
}

func (w *wantMaking) batches(item, qty int) int {
	batch := w.items[item].Batch
	count := (qty + batch - 1) / batch
	w.keep(count * batch)
	return count
}

// Does the part at that place count: has it the day, and none ahead of it with its Group?
func wantCounts(list []impl.Part, at, day int) bool {
	has := func(p impl.Part) bool { return day >= p.First && day <= p.Last }
	hasAhead := func(p impl.Part) bool { return p.Group == list[at].Group && has(p) }
	return has(list[at]) && (list[at].Group == 0 || !slices.ContainsFunc(list[:at], hasAhead))
}

func isMadeOn(item impl.Item, day int) bool {
	for k := range item.Parts {
		if wantCounts(item.Parts, k, day) {
			return true
		}
	}
	return false
}

// How much of an item the list tells of so many batches.
func (w *wantMaking) of(item int, list []impl.Part, batches int) int {
	all := 0
	for k, p := range list {
		if p.Item == item && wantCounts(list, k, w.day) {
			all += w.keep((w.keep(batches*p.Qty)*(100+p.Scrap) + 99) / 100)
		}
	}
	return w.keep(all)
}

func (w *wantMaking) fillNeeds() {
	makers := map[int]int{w.at: w.batches(w.at, w.qty)}
	for item := range w.items {
		all := 0
		for maker, batches := range makers {
			all = w.keep(all + w.of(item, w.items[maker].Parts, batches))
		}
		if all > 0 && w.items[item].Phantom {
			makers[item] = w.batches(item, all)
		} else {
			w.told[item] = all
		}
	}
}

func (w *wantMaking) fillExplode() {
	w.told[w.at] = w.qty
	for item := w.at + 1; item < len(w.items); item++ {
		for maker := w.at; maker < item; maker++ {
			if w.told[maker] > 0 && isMadeOn(w.items[maker], w.day) {
				w.told[item] = w.keep(w.told[item] + w.of(item, w.items[maker].Parts, w.batches(maker, w.told[maker])))
			}
		}
	}
}

func (w *wantMaking) fillOutput() {
	batches := w.batches(w.at, w.qty)
	for item := range w.items {
		w.told[item] = w.of(item, w.items[w.at].Also, batches)
	}
	w.told[w.at] = w.keep(batches * w.items[w.at].Batch)
}

func (k makingAsk) want(items []impl.Item, at, qty, day int) ([]int, bool) {
	if !wantItemsOk(items) || !placeAmong(at, len(items)) || !isQty(qty) || !isDay(day) {
		return nil, false
	}
	w := &wantMaking{items: items, at: at, qty: qty, day: day, told: make([]int, len(items))}
	k.fill(w)
	if w.left {
		return nil, false
	}
	return w.told, true
}

func (k makingAsk) check(t *testing.T, items []impl.Item, at, qty, day int, want ...int) []int {
	t.Helper()
	kept := copyItems(items)
	got, ok := k.ask(items, at, qty, day)
	other, otherOk := k.want(items, at, qty, day)
	if !ok || !slices.Equal(got, want) {
		t.Errorf("%s(%v, %d, %d, %d) = %v, %v; want %v", k.name, shortItems(items), at, qty, day, got, ok, want)
	} else if !otherOk || !slices.Equal(other, want) {
		t.Errorf("the other way %s(%v, %d, %d, %d) = %v, %v; want %v", k.name, shortItems(items), at, qty, day, other, otherOk, want)
	}
	if !sameItems(items, kept) {
		t.Fatalf("%s(%v, %d, %d, %d) wrote into its items", k.name, shortItems(kept), at, qty, day)
	}
	return got
}

func (k makingAsk) refuse(t *testing.T, items []impl.Item, at, qty, day int) {
	t.Helper()
	_, otherOk := k.want(items, at, qty, day)
	if got, ok := k.ask(items, at, qty, day); ok || otherOk || len(got) != 0 {
		t.Errorf("%s(%v, %d, %d, %d) = %v, %v; want nothing", k.name, shortItems(items), at, qty, day, got, ok)
	}
}

// Whether it was answered as the other way does.
func (k makingAsk) asWanted(t *testing.T, items []impl.Item, at, qty, day int) bool {
	t.Helper()
	want, ok := k.want(items, at, qty, day)
	if ok {
		k.check(t, items, at, qty, day, want...)
	} else {
		k.refuse(t, items, at, qty, day)
	}
	return ok
}

func TestNeedsByHand(t *testing.T) {
	bench := handBench()
	needing.check(t, bench, 0, 3, 5, 0, 0, 12, 0, 124, 0, 0)
	needing.check(t, bench, 0, 10, 5, 0, 0, 40, 0, 177, 0, 0)
	needing.check(t, bench, 0, 11, 5, 0, 0, 44, 0, 285, 0, 0)
	needing.check(t, bench, 0, 0, 5, 0, 0, 0, 0, 0, 0, 0)
	needing.check(t, bench, 1, 3, 5, 0, 0, 12, 0, 100, 0, 0)
	needing.check(t, bench, 2, 13, 5, 0, 0, 0, 0, 0, 9, 0)
	needing.check(t, bench, 3, 11, 5, 0, 0, 0, 0, 200, 0, 0)
	for at := 4; at <= 6; at++ {
		needing.check(t, bench, at, 7, 5, 0, 0, 0, 0, 0, 0, 0)
	}
}

func TestWholeBatches(t *testing.T) {
	for _, batch := range []int{1, 2, 6, 7, 1000} {
		items := goodsOf(madeOf(batch, takes(1, 3), takes(2, 1)), madeOf(5), madeOf(1))
		for batches := range 4 {
			for _, qty := range []int{batches*batch - 1, batches * batch, batches*batch + 1} {
				want := 0
				for made := 0; made < qty; made += batch {
					want++
				}
				if qty >= 0 {
					needing.check(t, items, 0, qty, 0, 0, 3*want, want)
				}
			}
		}
		needing.check(t, items, 0, 1, 0, 0, 3, 1)
	}
	one := goodsOf(madeOf(1, takes(1, 1)), madeOf(1))
	needing.check(t, one, 0, impl.MaxQty, 0, 0, impl.MaxQty)
	needing.check(t, one, 0, impl.MaxQty-1, 0, 0, impl.MaxQty-1)
	whole := goodsOf(madeOf(impl.MaxQty, takes(1, 7)), madeOf(1))
	for _, qty := range []int{1, 2, impl.MaxQty - 1, impl.MaxQty} {
		needing.check(t, whole, 0, qty, 0, 0, 7)
	}
	needing.check(t, whole, 0, 0, 0, 0, 0)
}

func TestDaysOnWhichPartsCount(t *testing.T) {
	items := goodsOf(madeOf(1, takesOn(5, 8, 1, 2), takesOn(8, 8, 2, 3), takesOn(0, 7, 3, 1), takesOn(9, impl.MaxDay, 3, 4)), madeOf(1), madeOf(1), madeOf(1))
	needing.check(t, items, 0, 10, 0, 0, 0, 0, 10)
	needing.check(t, items, 0, 10, 4, 0, 0, 0, 10)
	needing.check(t, items, 0, 10, 5, 0, 20, 0, 10)
	needing.check(t, items, 0, 10, 7, 0, 20, 0, 10)
	needing.check(t, items, 0, 10, 8, 0, 20, 30, 0)
	needing.check(t, items, 0, 10, 9, 0, 0, 0, 40)
	needing.check(t, items, 0, 10, impl.MaxDay, 0, 0, 0, 40)
	ends := goodsOf(madeOf(1, takesOn(0, 0, 1, 2), takesOn(impl.MaxDay, impl.MaxDay, 1, 3)), madeOf(1))
	needing.check(t, ends, 0, 5, 0, 0, 10)
	needing.check(t, ends, 0, 5, 1, 0, 0)
	needing.check(t, ends, 0, 5, impl.MaxDay-1, 0, 0)
	needing.check(t, ends, 0, 5, impl.MaxDay, 0, 15)
}

func TestGroupsOfParts(t *testing.T) {
	for group := 1; group <= mostGroup; group++ {
		in := func(first, last, item, qty int) impl.Part { return grouped(group, takesOn(first, last, item, qty)) }
		two := goodsOf(madeOf(1, in(5, 8, 1, 2), in(0, 9, 2, 3)), madeOf(1), madeOf(1))
		needing.check(t, two, 0, 1, 4, 0, 0, 3)
		needing.check(t, two, 0, 1, 5, 0, 2, 0)
		needing.check(t, two, 0, 1, 8, 0, 2, 0)
		needing.check(t, two, 0, 1, 9, 0, 0, 3)
		needing.check(t, two, 0, 1, 10, 0, 0, 0)
		three := goodsOf(madeOf(1, in(5, 8, 1, 2), in(7, 9, 2, 3), in(0, 12, 3, 4)), madeOf(1), madeOf(1), madeOf(1))
		needing.check(t, three, 0, 1, 4, 0, 0, 0, 4)
		needing.check(t, three, 0, 1, 7, 0, 2, 0, 0)
		needing.check(t, three, 0, 1, 9, 0, 0, 3, 0)
		needing.check(t, three, 0, 1, 10, 0, 0, 0, 4)
		// What is of no Group, or of another one, takes nothing from it and stands between.
		other := group%mostGroup + 1
		mixed := goodsOf(madeOf(1, takes(1, 1), in(5, 8, 1, 10), grouped(other, takes(1, 100)), takes(1, 1000), in(0, 9, 2, 3), grouped(other, takes(2, 7))), madeOf(1), madeOf(1))
		needing.check(t, mixed, 0, 1, 4, 0, 1101, 3)
		needing.check(t, mixed, 0, 1, 5, 0, 1111, 0)
		needing.check(t, mixed, 0, 1, 9, 0, 1101, 3)
	}
	// Of Group 0 all count; a Group is one of its item alone.
	all := goodsOf(madeOf(1, takes(1, 1), takes(1, 2), takes(2, 4)), madeOf(1), madeOf(1))
	needing.check(t, all, 0, 1, 5, 0, 3, 4)
	apart := goodsOf(madeOf(1, grouped(3, takes(1, 2)), grouped(3, takes(2, 9))), phantomOf(1, grouped(3, takes(2, 5)), grouped(3, takes(3, 9))), madeOf(1), madeOf(1))
	needing.check(t, apart, 0, 1, 5, 0, 0, 10, 0)
}

// Each Part is rounded by itself, also where two are of one Item.
func TestWhatIsLost(t *testing.T) {
	rows := []struct{ qty, scrap, of, want int }{
		{1, 0, 7, 7}, {1, mostScrap, 7, 14}, {1, 1, 7, 8}, {1, 99, 7, 14}, {10, 10, 7, 77}, {10, 11, 7, 78}, {1, 10, 10, 11}, {1, 10, 11, 13},
		{1, 1, 100, 101}, {1, 1, 101, 103}, {3, 33, 1, 4}, {100, 33, 1, 133}, {0, 50, 9, 0}, {1, 50, 1, 2}, {2, 50, 1, 3},
	}
	for _, r := range rows {
		items := goodsOf(madeOf(1, losing(r.scrap, takes(1, r.of))), madeOf(1))
		needing.check(t, items, 0, r.qty, 5, 0, r.want)
		twice := goodsOf(madeOf(1, losing(r.scrap, takes(1, r.of)), losing(r.scrap, takes(1, r.of))), madeOf(1))
		needing.check(t, twice, 0, r.qty, 5, 0, 2*r.want)
		mixed := goodsOf(madeOf(1, losing(r.scrap, takes(1, r.of)), takes(1, 3)), madeOf(1))
		needing.check(t, mixed, 0, r.qty, 5, 0, r.want+3*r.qty)
	}
	// Of whole batches, not of the quantity.
	needing.check(t, goodsOf(madeOf(4, losing(10, takes(1, 5))), madeOf(1)), 0, 5, 5, 0, 11)
}

func TestPhantomsPassedBy(t *testing.T) {
	// One in another one, three deep.
	nested := goodsOf(madeOf(1, takes(1, 2)), phantomOf(1, takes(2, 3), takes(4, 1)), phantomOf(1, losing(50, takes(3, 1))), phantomOf(1, takes(4, 5), takes(5, 1)), madeOf(1), madeOf(1))
	needing.check(t, nested, 0, 1, 5, 0, 0, 0, 0, 47, 9)
	needing.check(t, nested, 1, 1, 5, 0, 0, 0, 0, 26, 5)
	needing.check(t, nested, 2, 1, 5, 0, 0, 0, 0, 10, 2)
	needing.check(t, nested, 3, 1, 5, 0, 0, 0, 0, 5, 1)
	// One that several lead to: what all take is made together, in whole batches.
	shared := goodsOf(madeOf(1, takes(1, 3), takes(2, 4), takes(3, 5)), phantomOf(1, takes(3, 2)), phantomOf(1, takes(3, 1)), phantomOf(10, takes(4, 7)), madeOf(1))
	needing.check(t, shared, 0, 1, 5, 0, 0, 0, 0, 14)
	needing.check(t, shared, 0, 2, 5, 0, 0, 0, 0, 21)
	needing.check(t, shared, 1, 5, 5, 0, 0, 0, 0, 7)
	needing.check(t, shared, 1, 6, 5, 0, 0, 0, 0, 14)
	// One that is asked for itself, with a Batch.
	needing.check(t, shared, 3, 10, 5, 0, 0, 0, 0, 7)
	needing.check(t, shared, 3, 11, 5, 0, 0, 0, 0, 14)
	// What is made but no Phantom stays, and isn't looked into.
	stays := goodsOf(madeOf(1, takes(1, 2)), madeOf(1, takes(2, 3)), phantomOf(1, takes(3, 4)), madeOf(1))
	needing.check(t, stays, 0, 1, 5, 0, 2, 0, 0)
	needing.check(t, stays, 1, 1, 5, 0, 0, 0, 12)
}

func TestPhantomsOnTheirDays(t *testing.T) {
	items := goodsOf(
		madeOf(1, takesOn(0, 6, 1, 2), takes(2, 1)),
		phantomOf(1, takesOn(5, 9, 2, 3), takesOn(0, 3, 3, 4)),
		phantomOf(2, takesOn(3, 9, 3, 5)),
		madeOf(1),
	)
	needing.check(t, items, 0, 1, 2, 0, 0, 0, 8)
	needing.check(t, items, 0, 1, 3, 0, 0, 0, 13)
	needing.check(t, items, 0, 1, 4, 0, 0, 0, 5)
	needing.check(t, items, 0, 1, 5, 0, 0, 0, 20)
	needing.check(t, items, 0, 1, 7, 0, 0, 0, 5)
	needing.check(t, items, 0, 1, 10, 0, 0, 0, 0)
	// A Phantom ahead of the item asked for, or one of which nothing is taken, is left alone.
	ahead := goodsOf(phantomOf(1, takes(1, 1), takes(3, 9)), madeOf(1, takes(3, 2)), phantomOf(1, takes(3, 5)), madeOf(1))
	needing.check(t, ahead, 1, 4, 5, 0, 0, 0, 8)
}

// At n times Qty, and behind Scrap; of what counts alone.
func TestNumbersThatLeaveTheQuantities(t *testing.T) {
	top := impl.MaxQty
	for _, r := range [][2]int{{1, top}, {top, 1}, {1000, 1000}, {500, 2000}, {8, 125000}} {
		items := goodsOf(madeOf(1, takes(1, r[1])), madeOf(1))
		needing.check(t, items, 0, r[0], 5, 0, top)
		needing.refuse(t, items, 0, r[0]+1, 5)
		if r[1] < top {
			needing.refuse(t, goodsOf(madeOf(1, takes(1, r[1]+1)), madeOf(1)), 0, r[0], 5)
		}
	}
	for _, most := range []int{top, 2} {
		needing.refuse(t, goodsOf(madeOf(1, takes(1, most)), madeOf(1)), 0, top, 5)
		needing.check(t, goodsOf(madeOf(1, takesOn(0, 4, 1, most)), madeOf(1)), 0, top, 5, 0, 0)
		needing.check(t, goodsOf(madeOf(1, grouped(1, takes(1, 1)), grouped(1, takes(1, most))), madeOf(1)), 0, top, 5, 0, top)
		needing.refuse(t, goodsOf(madeOf(1, grouped(1, takesOn(6, 9, 1, 1)), grouped(1, takes(1, most))), madeOf(1)), 0, top, 5)
	}
	for _, r := range []struct{ scrap, most int }{{100, 500000}, {10, 909090}, {1, 990099}, {99, 502512}, {50, 666666}} {
		want := (r.most*(100+r.scrap) + 99) / 100
		needing.check(t, goodsOf(madeOf(1, losing(r.scrap, takes(1, r.most))), madeOf(1)), 0, 1, 5, 0, want)
		needing.refuse(t, goodsOf(madeOf(1, losing(r.scrap, takes(1, r.most+1))), madeOf(1)), 0, 1, 5)
		needing.check(t, goodsOf(madeOf(1, takes(1, r.most+1)), madeOf(1)), 0, 1, 5, 0, r.most+1)
		needing.check(t, goodsOf(madeOf(1, losing(r.scrap, takes(1, 1))), madeOf(1)), 0, r.most, 5, 0, want)
		needing.refuse(t, goodsOf(madeOf(1, losing(r.scrap, takes(1, 1))), madeOf(1)), 0, r.most+1, 5)
	}
}

func TestBatchesThatLeaveTheQuantities(t *testing.T) {
	top := impl.MaxQty
	for _, r := range []struct{ batch, most int }{{600000, 600000}, {500000, top}, {500001, 500001}, {3, 999999}, {333333, 999999}, {333334, 666668}, {top, top}, {top - 1, top - 1}, {7, 999999}, {1, top}} {
		for _, items := range [][]impl.Item{
			goodsOf(madeOf(r.batch)),
			goodsOf(madeOf(r.batch, takesOn(0, 4, 1, 1)), madeOf(1)),
			goodsOf(madeOf(r.batch, takes(1, 1)), madeOf(1)),
			goodsOf(phantomOf(r.batch, takes(1, 1)), madeOf(1)),
		} {
			want := make([]int, len(items))
			if isMadeOn(items[0], 5) {
				want[1] = (r.most + r.batch - 1) / r.batch
			}
			needing.check(t, items, 0, r.most, 5, want...)
			needing.refuse(t, items, 0, r.most+1, 5)
		}
		// A Phantom's batches on the way, whether its Parts count or not.
		for _, last := range []int{4, 9} {
			items := goodsOf(madeOf(1, takes(1, 1)), phantomOf(r.batch, takesOn(0, last, 2, 1)), madeOf(1))
			want := 0
			if last == 9 {
				want = (r.most + r.batch - 1) / r.batch
			}
			needing.check(t, items, 0, r.most, 5, 0, 0, want)
			needing.refuse(t, items, 0, r.most+1, 5)
		}
		// What is no Phantom is made in no batches here.
		items := goodsOf(madeOf(1, takes(1, 1)), madeOf(r.batch, takes(2, 1)), madeOf(1))
		needing.check(t, items, 0, top, 5, 0, top, 0)
	}
}

func TestSumsThatLeaveTheQuantities(t *testing.T) {
	top := impl.MaxQty
	for more := range 3 {
		add := func(items ...impl.Item) {
			t.Helper()
			if more > 0 {
				needing.refuse(t, goodsOf(items...), 0, 1, 5)
				return
			}
			told := make([]int, len(items))
			told[len(told)-1] = top
			needing.check(t, goodsOf(items...), 0, 1, 5, told...)
		}
		add(madeOf(1, takes(1, top-9), takes(1, 9+more)), madeOf(1))
		add(madeOf(1, takes(1, 9+more), takes(1, top-9)), madeOf(1))
		add(madeOf(1, takes(1, top-9), losing(50, takes(1, 6+more))), madeOf(1))
		add(madeOf(1, takes(2, top-9), takes(1, 9+more)), phantomOf(1, takes(2, 1)), madeOf(1))
		add(madeOf(1, takes(1, top-4), takes(2, 4+more)), phantomOf(1, takes(3, 1)), phantomOf(1, takes(3, 1)), madeOf(1))
	}
	// A Phantom's own number too, though it becomes 0.
	for _, parts := range [][]impl.Part{{takes(1, top)}, {takes(1, top-1), takes(1, 1)}} {
		items := goodsOf(madeOf(1, parts...), phantomOf(top, takes(2, 1)), madeOf(1))
		needing.check(t, items, 0, 1, 5, 0, 0, 1)
		needing.refuse(t, items, 0, 2, 5)
		items[0].Parts = append(items[0].Parts, takes(1, 1))
		needing.refuse(t, items, 0, 1, 5)
	}
	// All items together may take more than one may.
	needing.check(t, goodsOf(madeOf(1, takes(1, top), takes(2, top), takes(3, top)), madeOf(1), madeOf(1), madeOf(1)), 0, 1, 5, 0, top, top, top)
}

// What is refused far behind leaves nothing of what was told ahead.
func TestPhantomsThatLeaveTheQuantitiesFarDown(t *testing.T) {
	items := lineOfItems(impl.MaxLevel+1, 0)
	for i := range items[:impl.MaxLevel] {
		items[i].Phantom = i > 0
		items[i].Parts[0].Qty = 2
	}
	want := make([]int, len(items))
	needing.refuse(t, items, 0, 1, 5)
	items[7].Parts[0].Qty = 1
	want[impl.MaxLevel] = 1 << 19
	needing.check(t, items, 0, 1, 5, want...)
	needing.refuse(t, items, 0, 2, 5)
}

func TestAsksThatAreNone(t *testing.T) {
	bench := handBench()
	for _, k := range makings {
		for _, at := range append([]int{len(bench), len(bench) + 1, impl.MaxItems}, farPlaces...) {
			k.refuse(t, bench, at, 3, 5)
			k.refuse(t, bench, at, 0, 5)
		}
		for at := range bench {
			for _, qty := range noQtys {
				k.refuse(t, bench, at, qty, 5)
			}
			for _, day := range noDays {
				k.refuse(t, bench, at, 3, day)
				k.refuse(t, bench, at, 0, day)
			}
			for _, day := range []int{0, 1, impl.MaxDay - 1, impl.MaxDay} {
				k.asWanted(t, bench, at, 3, day)
			}
		}
		for _, count := range []int{1, impl.MaxItems} {
			many := lineOfItems(count, count)
			k.asWanted(t, many, count-1, 7, 5)
			k.refuse(t, many, count, 7, 5)
			k.refuse(t, many, -1, 7, 5)
		}
	}
}

// Two quantities take together at least what both take at once.
func checkHalves(t *testing.T, items []impl.Item, at, one, other, day int) {
	t.Helper()
	whole, ok := impl.Needs(items, at, one+other, day)
	if !ok {
		return
	}
	first, firstOk := impl.Needs(items, at, one, day)
	second, secondOk := impl.Needs(items, at, other, day)
	if !firstOk || !secondOk {
		t.Errorf("Needs(%v, %d, ..) of %d and %d: %v, %v; want both, as there are those of both at once", shortItems(items), at, one, other, firstOk, secondOk)
		return
	}
	for i := range whole {
		if first[i]+second[i] < whole[i] || max(first[i], second[i]) > whole[i] {
			t.Errorf("Needs(%v, %d, ..) of %d and %d: %v and %v; of both at once %v", shortItems(items), at, one, other, first, second, whole)
			return
		}
	}
}

func TestNeedsOfTwoQuantities(t *testing.T) {
	bench := handBench()
	for at := range bench {
		for one := range 14 {
			for other := range 14 {
				checkHalves(t, bench, at, one, other, 5)
			}
		}
	}
	chance := rand.New(rand.NewSource(172))
	for range 6000 {
		items := someItems(chance, []int{3, 40, 3000}[chance.Intn(3)])
		checkHalves(t, items, chance.Intn(len(items)), chance.Intn(60), chance.Intn(60), chance.Intn(12))
	}
}

// What changes on a day shows on that day alone.
func TestAPartOfOneDay(t *testing.T) {
	for day := range 12 {
		with := handBench()
		with[0].Parts = append(with[0].Parts, takesOn(4, 6, 5, 2))
		with[1].Parts = append(with[1].Parts, takesOn(6, 6, 3, 20))
		needs, _ := impl.Needs(handBench(), 0, 3, day)
		want := slices.Clone(needs)
		if 4 <= day && day <= 6 {
			want[5] += 6
		}
		if day == 6 {
			want[4] += 600
		}
		needing.check(t, with, 0, 3, day, want...)
	}
}

func TestSomeMakings(t *testing.T) {
	chance := rand.New(rand.NewSource(173))
	for _, k := range makings {
		told, none := 0, 0
		for range 8000 {
			items := someItems(chance, []int{3, 40, 3000, impl.MaxQty}[chance.Intn(4)])
			if chance.Intn(10) == 0 {
				spoilItems(chance, items)
			}
			at, qty := chance.Intn(len(items)+2)-1, chance.Intn([]int{9, 2000, impl.MaxQty + 2}[chance.Intn(3)])
			if k.asWanted(t, items, at, qty, chance.Intn(13)) {
				told++
			} else {
				none++
			}
		}
		if told < 2000 || none < 1000 {
			t.Errorf("%s: %d told, %d not", k.name, told, none)
		}
	}
}

func TestMakingsLeaveTheirItems(t *testing.T) {
	items := roomyItems(handBench())
	kept := allRoom(items)
	for range 2 {
		for _, k := range makings {
			for at := range items {
				want, _ := k.want(items, at, 13, 5)
				got := k.check(t, items, at, 13, 5, want...)
				for i := range got[:cap(got)] {
					got[:cap(got)][i] = -9
				}
				k.refuse(t, items, at, -1, 5)
				k.refuse(t, items[:len(items)+1], at, 13, 5)
			}
		}
		if !sameItems(allRoom(items), kept) {
			t.Fatal("the items were written into")
		}
	}
}
