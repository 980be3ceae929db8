package tests

import (
	"math/rand"
	"testing"

	"loop.example/g00040/impl"
)

func TestOutputByHand(t *testing.T) {
	bench := handBench()
	yielding.check(t, bench, 2, 12, 5, 0, 0, 12, 0, 0, 0, 4)
	yielding.check(t, bench, 2, 13, 5, 0, 0, 18, 0, 0, 0, 6)
	yielding.check(t, bench, 2, 1, 5, 0, 0, 6, 0, 0, 0, 2)
	yielding.check(t, bench, 2, 0, 5, 0, 0, 0, 0, 0, 0, 0)
	// Without Also: itself alone, made or bought, a Phantom too.
	yielding.check(t, bench, 0, 3, 5, 3, 0, 0, 0, 0, 0, 0)
	yielding.check(t, bench, 1, 3, 5, 0, 3, 0, 0, 0, 0, 0)
	yielding.check(t, bench, 3, 3, 5, 0, 0, 0, 10, 0, 0, 0)
	yielding.check(t, bench, 6, impl.MaxQty, 5, 0, 0, 0, 0, 0, 0, impl.MaxQty)
}

func TestWhatComesOutBeside(t *testing.T) {
	items := goodsOf(
		bringing(madeOf(4, takes(3, 9)), takes(1, 2), takesOn(3, 6, 2, 5), takes(1, 10), takesOn(6, 6, 3, 7)),
		bringing(madeOf(1, takes(2, 1)), takes(3, 100)),
		madeOf(1),
		madeOf(1),
	)
	// The same Item twice; what doesn't count on the day; whole batches.
	yielding.check(t, items, 0, 4, 2, 4, 12, 0, 0)
	yielding.check(t, items, 0, 5, 2, 8, 24, 0, 0)
	yielding.check(t, items, 0, 5, 3, 8, 24, 10, 0)
	yielding.check(t, items, 0, 8, 6, 8, 24, 10, 14)
	yielding.check(t, items, 0, 9, 7, 12, 36, 0, 0)
	// What is brought beside isn't made, and brings nothing.
	yielding.check(t, items, 1, 3, 5, 0, 3, 0, 300)
	// Parts are not asked, whether they count or are too many.
	items[0].Parts = []impl.Part{takes(3, impl.MaxQty), takesOn(0, 1, 2, 1)}
	yielding.check(t, items, 0, 9, 7, 12, 36, 0, 0)
	items[0].Parts = nil
	yielding.check(t, items, 0, 9, 7, 12, 36, 0, 0)
}

func TestDaysOnWhichItComesOut(t *testing.T) {
	items := goodsOf(bringing(madeOf(1), takesOn(5, 8, 1, 2), takesOn(8, 8, 2, 3), takesOn(0, 0, 1, 50), takesOn(impl.MaxDay, impl.MaxDay, 2, 60)), madeOf(1), madeOf(1))
	yielding.check(t, items, 0, 10, 0, 10, 500, 0)
	yielding.check(t, items, 0, 10, 4, 10, 0, 0)
	yielding.check(t, items, 0, 10, 5, 10, 20, 0)
	yielding.check(t, items, 0, 10, 7, 10, 20, 0)
	yielding.check(t, items, 0, 10, 8, 10, 20, 30)
	yielding.check(t, items, 0, 10, 9, 10, 0, 0)
	yielding.check(t, items, 0, 10, impl.MaxDay, 10, 0, 600)
}

func TestOutputsThatLeaveTheQuantities(t *testing.T) {
	top := impl.MaxQty
	for _, r := range []struct{ batch, most int }{{600000, 600000}, {500000, top}, {500001, 500001}, {3, 999999}, {top, top}, {1, top}} {
		batches := (r.most + r.batch - 1) / r.batch
		for _, items := range [][]impl.Item{
			goodsOf(madeOf(r.batch), madeOf(1)),
			goodsOf(phantomOf(r.batch, takes(1, top)), madeOf(1)),
			goodsOf(bringing(madeOf(r.batch), takesOn(0, 4, 1, top)), madeOf(1)),
		} {
			yielding.check(t, items, 0, r.most, 5, batches*r.batch, 0)
			yielding.refuse(t, items, 0, r.most+1, 5)
		}
		items := goodsOf(bringing(madeOf(r.batch), takes(1, 1)), madeOf(1))
		yielding.check(t, items, 0, r.most, 5, batches*r.batch, batches)
		yielding.refuse(t, items, 0, r.most+1, 5)
	}
	for _, r := range [][2]int{{1, top}, {1000, 1000}, {top, 1}, {8, 125000}} {
		items := goodsOf(bringing(madeOf(1), takes(1, r[1])), madeOf(1))
		yielding.check(t, items, 0, r[0], 5, r[0], top)
		yielding.refuse(t, items, 0, r[0]+1, 5)
		twice := goodsOf(bringing(madeOf(1), takes(2, 1), takes(1, r[1])), madeOf(1), madeOf(1))
		yielding.check(t, twice, 0, r[0], 5, r[0], top, r[0])
		twice[0].Also[0].Item = 1
		yielding.refuse(t, twice, 0, r[0], 5)
	}
	// Just a quantity in two, and one more.
	for more := range 3 {
		items := goodsOf(bringing(madeOf(1), takes(1, top-9), takes(1, 9+more), takes(2, top)), madeOf(1), madeOf(1))
		if more == 0 {
			yielding.check(t, items, 0, 1, 5, 1, top, top)
		} else {
			yielding.refuse(t, items, 0, 1, 5)
			yielding.check(t, items, 0, 0, 5, 0, 0, 0)
		}
	}
	yielding.refuse(t, goodsOf(bringing(madeOf(1), takes(1, top)), madeOf(1)), 0, top, 5)
}

// Of itself comes out at least what was asked for, and less than a batch more; what comes beside comes by whole batches.
func TestOutputsAreWholeBatches(t *testing.T) {
	chance := rand.New(rand.NewSource(175))
	told := 0
	for range 4000 {
		items := someItems(chance, []int{3, 40, 3000}[chance.Intn(3)])
		at, qty, day := chance.Intn(len(items)), chance.Intn(90), chance.Intn(12)
		out, ok := impl.Output(items, at, qty, day)
		if !ok {
			continue
		}
		told++
		one, _ := impl.Output(items, at, 1, day)
		batch := items[at].Batch
		for i := range out {
			if out[at]%batch != 0 || out[at] < qty || out[at]-qty >= batch || out[i] != one[i]*(out[at]/batch) {
				t.Fatalf("Output(%v, %d, %d, %d) = %v; of one %v", shortItems(items), at, qty, day, out, one)
			}
		}
	}
	if told < 2000 {
		t.Errorf("%d told", told)
	}
}
