package tests

import (
	"math/rand"
	"slices"
	"testing"

	"loop.example/g00040/impl"
)

func TestExplodeByHand(t *testing.T) {
	bench := handBench()
	exploding.check(t, bench, 0, 3, 5, 3, 3, 12, 3, 124, 6, 0)
	exploding.check(t, bench, 0, 11, 5, 11, 11, 44, 11, 285, 24, 0)
	exploding.check(t, bench, 0, 0, 5, 0, 0, 0, 0, 0, 0, 0)
	exploding.check(t, bench, 1, 3, 5, 0, 3, 12, 3, 100, 6, 0)
	exploding.check(t, bench, 2, 13, 5, 0, 0, 13, 0, 0, 9, 0)
	exploding.check(t, bench, 3, 11, 5, 0, 0, 0, 11, 200, 0, 0)
	exploding.check(t, bench, 4, 7, 5, 0, 0, 0, 0, 7, 0, 0)
	exploding.check(t, bench, 6, impl.MaxQty, 5, 0, 0, 0, 0, 0, 0, impl.MaxQty)
}

// What stands ahead of the item asked for has no number, though it takes of the same.
func TestWhatStandsAhead(t *testing.T) {
	items := goodsOf(madeOf(1, takes(1, 2), takes(3, 100)), phantomOf(1, takes(2, 3), takes(3, 10)), madeOf(1, takes(3, 1)), madeOf(1))
	exploding.check(t, items, 0, 1, 5, 1, 2, 6, 126)
	exploding.check(t, items, 1, 1, 5, 0, 1, 3, 13)
	exploding.check(t, items, 2, 1, 5, 0, 0, 1, 1)
	exploding.check(t, items, 3, 1, 5, 0, 0, 0, 1)
}

// What several take of an item is made together, in whole batches, once all of it is known.
func TestMadeOnSeveralWays(t *testing.T) {
	items := goodsOf(madeOf(1, takes(1, 3), takes(2, 4), takes(3, 5)), madeOf(2, takes(3, 2)), madeOf(3, losing(50, takes(3, 1))), madeOf(10, takes(4, 7)), madeOf(1))
	exploding.check(t, items, 0, 1, 5, 1, 3, 4, 12, 14)
	exploding.check(t, items, 0, 2, 5, 2, 6, 8, 21, 21)
	exploding.check(t, items, 1, 9, 5, 0, 9, 0, 10, 7)
	// Near and far at once: two steps, one step and none between.
	near := goodsOf(madeOf(1, takes(2, 1), takes(1, 1)), madeOf(1, takes(2, 10)), madeOf(1, takes(3, 100)), madeOf(1))
	exploding.check(t, near, 0, 2, 5, 2, 2, 22, 2200)
	// A Phantom's number stays, whoever takes of it.
	near[1].Phantom, near[2].Phantom = true, true
	exploding.check(t, near, 0, 2, 5, 2, 2, 22, 2200)
	exploding.check(t, near, 1, 2, 5, 0, 2, 20, 2000)
}

func TestExplodeOnDays(t *testing.T) {
	items := goodsOf(
		madeOf(1, takesOn(0, 6, 1, 2), grouped(1, takesOn(2, 4, 2, 1)), grouped(1, takes(3, 9))),
		madeOf(4, takesOn(3, 5, 3, 7)),
		phantomOf(1, takesOn(4, 9, 3, 100)),
		madeOf(1),
	)
	exploding.check(t, items, 0, 3, 0, 3, 6, 0, 27)
	exploding.check(t, items, 0, 3, 2, 3, 6, 3, 0)
	exploding.check(t, items, 0, 3, 3, 3, 6, 3, 14)
	exploding.check(t, items, 0, 3, 4, 3, 6, 3, 314)
	exploding.check(t, items, 0, 3, 5, 3, 6, 0, 41)
	exploding.check(t, items, 0, 3, 6, 3, 6, 0, 27)
	exploding.check(t, items, 0, 3, 7, 3, 0, 0, 27)
	exploding.check(t, items, 2, 3, 3, 0, 0, 3, 0)
	exploding.check(t, items, 2, 3, 9, 0, 0, 3, 300)
}

// What has no Parts that count is bought, and not by batches.
func TestWhatIsBoughtHasNoBatches(t *testing.T) {
	for _, batch := range []int{600000, impl.MaxQty, 7} {
		for _, bought := range []impl.Item{madeOf(batch, takesOn(0, 4, 2, 1)), phantomOf(batch, takesOn(6, 9, 2, 1)), bringing(madeOf(batch), takes(2, 1)), madeOf(batch)} {
			items := goodsOf(madeOf(1, takes(1, 1)), bought, madeOf(1))
			for _, qty := range []int{1, 600000, 600001, impl.MaxQty} {
				exploding.check(t, items, 0, qty, 5, qty, qty, 0)
				exploding.check(t, items, 1, qty, 5, 0, qty, 0)
			}
		}
		for _, made := range []impl.Item{madeOf(batch, takes(2, 1)), phantomOf(batch, takes(2, 1))} {
			items := goodsOf(madeOf(1, takes(1, 1)), made, madeOf(1))
			most := impl.MaxQty / batch
			exploding.check(t, items, 0, most*batch, 5, most*batch, most*batch, most)
			exploding.check(t, items, 1, most*batch, 5, 0, most*batch, most)
			if most*batch < impl.MaxQty {
				exploding.refuse(t, items, 0, most*batch+1, 5)
				exploding.refuse(t, items, 1, most*batch+1, 5)
			}
		}
	}
}

func TestExplodedNumbersThatLeaveTheQuantities(t *testing.T) {
	top := impl.MaxQty
	// One step down is well, and the last one of many is too much.
	for _, steps := range []int{1, 2, 5, impl.MaxLevel} {
		items := lineOfItems(steps+1, 0)
		items[steps-1].Parts[0].Qty = 1000
		exploding.check(t, items, 0, 1000, 5, append(repeated(1000, steps), top)...)
		exploding.refuse(t, items, 0, 1001, 5)
		exploding.refuse(t, items, steps-1, 1001, 5)
		items[steps-1].Parts[0].Scrap = 1
		exploding.refuse(t, items, 0, 1000, 5)
		exploding.check(t, items, 0, 990, 5, append(repeated(990, steps), 999900)...)
		items[steps-1].Parts[0].Last = 4
		exploding.check(t, items, 0, 1001, 5, append(repeated(1001, steps), 0)...)
		if steps > 1 {
			needing.check(t, items, 0, top, 4, append([]int{0, top}, repeated(0, steps-1)...)...)
			exploding.refuse(t, items, 0, top, 4)
		}
	}
	doubling := lineOfItems(impl.MaxLevel+1, 0)
	for i := range doubling[:impl.MaxLevel] {
		doubling[i].Parts[0].Qty = 2
	}
	exploding.refuse(t, doubling, 0, 1, 5)
	want := []int{0}
	for i := range impl.MaxLevel {
		want = append(want, 1<<i)
	}
	exploding.check(t, doubling, 1, 1, 5, want...)
	// Several ways together, of which each alone is well.
	for more := range 3 {
		items := goodsOf(madeOf(1, takes(1, 1), takes(2, 1), takes(3, 9)), madeOf(1, takes(3, top-20)), phantomOf(1, takes(3, 11+more)), madeOf(1))
		if more == 0 {
			exploding.check(t, items, 0, 1, 5, 1, 1, 1, top)
		} else {
			exploding.refuse(t, items, 0, 1, 5)
		}
	}
}

// What there must be of each item is what was asked for and the needs of all that there must be, where nothing is passed by.
func checkExplodeOfNeeds(t *testing.T, items []impl.Item, at, qty, day int) bool {
	t.Helper()
	there, ok := impl.Explode(items, at, qty, day)
	if !ok {
		return false
	}
	want := make([]int, len(items))
	want[at] = qty
	for maker, n := range there {
		if !isMadeOn(items[maker], day) {
			continue
		}
		needs, ok := impl.Needs(items, maker, n, day)
		if !ok {
			t.Errorf("Needs(%v, %d, %d, %d): nothing; Explode tells %v", shortItems(items), maker, n, day, there)
			return false
		}
		for i := range needs {
			want[i] += needs[i]
		}
	}
	if !slices.Equal(there, want) {
		t.Errorf("Explode(%v, %d, %d, %d) = %v; asked for and needed are %v", shortItems(items), at, qty, day, there, want)
	}
	return true
}

// Where some are passed by, there must be at least what the one that is made needs.
func checkExplodeHolds(t *testing.T, items []impl.Item, at, qty, day int) bool {
	t.Helper()
	there, ok := impl.Explode(items, at, qty, day)
	needs, needsOk := impl.Needs(items, at, qty, day)
	if !ok || !needsOk {
		if ok && isMadeOn(items[at], day) {
			t.Errorf("Needs(%v, %d, %d, %d): nothing; Explode tells %v", shortItems(items), at, qty, day, there)
		}
		return false
	}
	for i := range needs {
		if there[i] < needs[i] || items[i].Phantom && needs[i] != 0 {
			t.Errorf("Explode(%v, %d, %d, %d) = %v; Needs are %v", shortItems(items), at, qty, day, there, needs)
			break
		}
	}
	return true
}

func TestWhatThereMustBe(t *testing.T) {
	bench := handBench()
	for at := range bench {
		for qty := range 40 {
			checkExplodeHolds(t, bench, at, qty, 5)
		}
	}
	chance := rand.New(rand.NewSource(174))
	told, held := 0, 0
	for range 6000 {
		items := someItems(chance, []int{3, 40, 3000}[chance.Intn(3)])
		at, qty, day := chance.Intn(len(items)), chance.Intn(60), chance.Intn(12)
		if checkExplodeHolds(t, items, at, qty, day) {
			held++
		}
		for i := range items {
			items[i].Phantom = false
		}
		if checkExplodeOfNeeds(t, items, at, qty, day) {
			told++
		}
	}
	if told < 1500 || held < 1500 {
		t.Errorf("%d told, %d held", told, held)
	}
}
