package tests

import (
	"math/rand"
	"runtime"
	"slices"
	"testing"
	"time"

	"loop.example/g00040/impl"
)

// wantPegs lays all units in a row, as they are there and as they are needed: a peg is what two stretches have in common.
func wantPegs(needs []int, have int, orders []int) []impl.Peg {
	pegs := []impl.Peg{}
	if !areBuckets(needs) || !areQtys(orders) || len(orders) != len(needs) || !isQty(have) {
		return pegs
	}
	for n := range needs {
		from, to := sumOf(needs[:n]), sumOf(needs[:n+1])
		met := 0
		for o := -1; o <= n; o++ {
			begin, end := 0, have
			if o >= 0 {
				begin, end = have+sumOf(orders[:o]), have+sumOf(orders[:o+1])
			}
			if both := min(to, end) - max(from, begin); both > 0 {
				pegs = append(pegs, impl.Peg{Order: o, Need: n, Qty: both})
				met += both
			}
		}
		if met < needs[n] {
			return nil
		}
	}
	return pegs
}

// Each need is given just what it is, no order gives more than it has, and none to a need ahead of it.
func checkGiven(t *testing.T, needs []int, have int, orders []int, pegs []impl.Peg) {
	t.Helper()
	met, given, fromHave := make([]int, len(needs)), make([]int, len(orders)), 0
	for _, p := range pegs {
		met[p.Need] += p.Qty
		if p.Order < 0 {
			fromHave += p.Qty
		} else {
			given[p.Order] += p.Qty
		}
		if p.Qty <= 0 || p.Order < -1 || p.Order > p.Need {
			t.Errorf("Pegs(%v, %d, %v) has %v", needs, have, orders, p)
		}
	}
	short := slices.ContainsFunc(daysFrom(0, len(orders)), func(o int) bool { return given[o] > orders[o] })
	if !slices.Equal(met, needs) || short || fromHave > have {
		t.Errorf("Pegs(%v, %d, %v) = %v: the needs are given %v, by the orders %v, by what is there %d", needs, have, orders, pegs, met, given, fromHave)
	}
}

func checkPegs(t *testing.T, needs []int, have int, orders []int, want ...impl.Peg) []impl.Peg {
	t.Helper()
	got := impl.Pegs(needs, have, orders)
	if !slices.Equal(got, want) {
		t.Errorf("Pegs(%v, %d, %v) = %v; want %v", needs, have, orders, got, want)
	} else if other := wantPegs(needs, have, orders); !slices.Equal(other, want) {
		t.Errorf("the other way Pegs(%v, %d, %v) = %v; want %v", needs, have, orders, other, want)
	} else if len(want) > 0 {
		checkGiven(t, needs, have, orders, got)
	}
	return got
}

func peg(order, need, qty int) impl.Peg { return impl.Peg{Order: order, Need: need, Qty: qty} }

func TestPegsByHand(t *testing.T) {
	checkPegs(t, []int{3, 4}, 2, []int{1, 9}, peg(-1, 0, 2), peg(0, 0, 1), peg(1, 1, 4))
	checkPegs(t, []int{3, 4}, 2, []int{4, 1}, peg(-1, 0, 2), peg(0, 0, 1), peg(0, 1, 3), peg(1, 1, 1))
	checkPegs(t, []int{5}, 0, []int{5}, peg(0, 0, 5))
}

func TestPegsOfWhatIsThere(t *testing.T) {
	needs := []int{4, 3}
	checkPegs(t, needs, 0, []int{4, 3}, peg(0, 0, 4), peg(1, 1, 3))
	checkPegs(t, needs, 1, []int{3, 3}, peg(-1, 0, 1), peg(0, 0, 3), peg(1, 1, 3))
	checkPegs(t, needs, 3, []int{1, 3}, peg(-1, 0, 3), peg(0, 0, 1), peg(1, 1, 3))
	checkPegs(t, needs, 4, []int{0, 3}, peg(-1, 0, 4), peg(1, 1, 3))
	checkPegs(t, needs, 4, []int{1, 3}, peg(-1, 0, 4), peg(0, 1, 1), peg(1, 1, 2))
	checkPegs(t, needs, 5, []int{0, 2}, peg(-1, 0, 4), peg(-1, 1, 1), peg(1, 1, 2))
	checkPegs(t, needs, 7, []int{0, 0}, peg(-1, 0, 4), peg(-1, 1, 3))
	checkPegs(t, needs, 8, []int{6, 0}, peg(-1, 0, 4), peg(-1, 1, 3))
	checkPegs(t, needs, impl.MaxQty, []int{impl.MaxQty, impl.MaxQty}, peg(-1, 0, 4), peg(-1, 1, 3))
	checkPegs(t, []int{0, 0, 6}, 6, []int{0, 0, 0}, peg(-1, 2, 6))
}

func TestPegsOfSplitOrders(t *testing.T) {
	checkPegs(t, []int{2, 3, 4}, 0, []int{9, 0, 0}, peg(0, 0, 2), peg(0, 1, 3), peg(0, 2, 4))
	checkPegs(t, []int{2, 3, 4}, 0, []int{10, 5, 1}, peg(0, 0, 2), peg(0, 1, 3), peg(0, 2, 4))
	checkPegs(t, []int{0, 0, 9}, 0, []int{2, 3, 4}, peg(0, 2, 2), peg(1, 2, 3), peg(2, 2, 4))
	checkPegs(t, []int{0, 0, 9}, 1, []int{2, 3, 4}, peg(-1, 2, 1), peg(0, 2, 2), peg(1, 2, 3), peg(2, 2, 3))
	checkPegs(t, []int{1, 5, 1, 5}, 0, []int{3, 3, 3, 3}, peg(0, 0, 1), peg(0, 1, 2), peg(1, 1, 3), peg(2, 2, 1), peg(2, 3, 2), peg(3, 3, 3))
	// Needs and orders of nothing between.
	checkPegs(t, []int{0, 2, 0, 0, 3, 0}, 0, []int{0, 2, 0, 1, 0, 0})
	checkPegs(t, []int{0, 2, 0, 0, 3, 0}, 0, []int{0, 2, 0, 1, 2, 0}, peg(1, 1, 2), peg(3, 4, 1), peg(4, 4, 2))
	checkPegs(t, []int{0, 2, 0, 0, 3, 0}, 0, []int{0, 4, 0, 0, 1, 0}, peg(1, 1, 2), peg(1, 4, 2), peg(4, 4, 1))
	checkPegs(t, []int{0, 2, 0, 0, 3, 0}, 0, []int{1, 0, 0, 0, 4, 7})
	checkPegs(t, []int{0, 0, 2, 0, 3}, 0, []int{1, 0, 1, 0, 3}, peg(0, 2, 1), peg(2, 2, 1), peg(4, 4, 3))
	checkPegs(t, []int{0, 0, 0}, 0, []int{0, 0, 0})
	checkPegs(t, []int{0, 0, 0}, 5, []int{1, 2, 3})
}

func TestNeedsThatAreNotMetInTime(t *testing.T) {
	checkPegs(t, []int{3, 4}, 0, []int{2, 9})
	checkPegs(t, []int{3, 4}, 1, []int{1, 9})
	checkPegs(t, []int{3, 4}, 1, []int{2, 9}, peg(-1, 0, 1), peg(0, 0, 2), peg(1, 1, 4))
	checkPegs(t, []int{3, 4}, 0, []int{3, 3})
	checkPegs(t, []int{3, 4}, 0, []int{0, 0})
	checkPegs(t, []int{3, 4}, 6, []int{0, 0})
	checkPegs(t, []int{1}, 0, []int{0})
	checkPegs(t, []int{1, 0}, 0, []int{0, 1})
	checkPegs(t, []int{0, 0, 1}, 0, []int{0, 0, 0})
	for late := range impl.MaxBuckets {
		needs, orders := repeated(2, impl.MaxBuckets), repeated(2, impl.MaxBuckets)
		orders[late]--
		checkPegs(t, needs, 0, orders)
		if late > 0 {
			orders[late-1]++
			checkPegs(t, needs, 0, orders, wantPegs(needs, 0, orders)...)
			orders[late-1]--
		}
		if late+1 < impl.MaxBuckets {
			orders[late+1]++
			checkPegs(t, needs, 0, orders)
			checkPegs(t, needs, 1, orders, wantPegs(needs, 1, orders)...)
		}
	}
}

func TestPegsThatAreNone(t *testing.T) {
	checkPegs(t, nil, 0, nil)
	checkPegs(t, nil, 5, nil)
	checkPegs(t, []int{}, 0, []int{})
	checkPegs(t, []int{1}, 9, nil)
	checkPegs(t, nil, 9, []int{1})
	checkPegs(t, []int{1, 1}, 9, []int{2})
	checkPegs(t, []int{1}, 9, []int{1, 1})
	for _, none := range noQtys {
		checkPegs(t, []int{1, 1}, none, []int{1, 1})
		checkPegs(t, []int{1, 1}, none, []int{9, 9})
		checkPegs(t, []int{0, 1}, none, []int{impl.MaxQty, 0})
		for b := range 3 {
			wrong := []int{2, 2, 2}
			wrong[b] = none
			checkPegs(t, wrong, 9, []int{2, 2, 2})
			checkPegs(t, []int{2, 2, 2}, 9, wrong)
			checkPegs(t, wrong, 9, wrong)
		}
	}
	top := impl.MaxQty
	checkPegs(t, []int{top, top}, top, []int{0, top}, peg(-1, 0, top), peg(1, 1, top))
	checkPegs(t, []int{top, top}, 0, []int{top, top}, peg(0, 0, top), peg(1, 1, top))
	for _, count := range []int{impl.MaxBuckets - 1, impl.MaxBuckets, impl.MaxBuckets + 1, impl.MaxBuckets + 2, 500} {
		want := []impl.Peg{}
		for b := range count {
			if count <= impl.MaxBuckets {
				want = append(want, peg(b, b, 1))
			}
		}
		checkPegs(t, repeated(1, count), 0, repeated(1, count), want...)
	}
}

func TestSomePegs(t *testing.T) {
	chance := rand.New(rand.NewSource(186))
	met, none := 0, 0
	for range 12000 {
		most := []int{1, 3, 40, impl.MaxQty / 8}[chance.Intn(4)]
		needs := someMissing(chance, most)
		have := chance.Intn(most+1) * chance.Intn(2)
		orders := someOrders(chance, needs)
		switch chance.Intn(6) {
		case 0:
			orders[chance.Intn(len(orders))] = chance.Intn(most + 1)
		case 1:
			[][]int{needs, orders}[chance.Intn(2)][chance.Intn(len(needs))] = noQtys[chance.Intn(len(noQtys))]
		case 2:
			orders = someQtys(chance, len(needs), most)
		}
		want := wantPegs(needs, have, orders)
		checkPegs(t, needs, have, orders, want...)
		if len(want) > 0 {
			met++
		} else {
			none++
		}
	}
	if met < 4000 || none < 2000 {
		t.Errorf("%d met, %d not", met, none)
	}
}

// What Net tells and LotsOf orders gives each need, with what is there, just what it is.
func TestPegsOfWhatIsOrdered(t *testing.T) {
	chance := rand.New(rand.NewSource(187))
	told := 0
	for range 4000 {
		most := []int{3, 40, 9000}[chance.Intn(3)]
		needs := someMissing(chance, most)
		have := chance.Intn(most + 1)
		missing, ok := impl.Net(needs, have, 0, repeated(0, len(needs)))
		orders, isOrdered := impl.LotsOf(someLots(chance, most), missing)
		if !ok || !isOrdered || sumOf(needs) == 0 {
			continue
		}
		pegs := impl.Pegs(needs, have, orders)
		if len(pegs) == 0 {
			t.Fatalf("Pegs(%v, %d, %v) are none", needs, have, orders)
		}
		checkGiven(t, needs, have, orders, pegs)
		told++
	}
	if told < 3000 {
		t.Errorf("%d told", told)
	}
}

func TestPegsLeaveTheirArguments(t *testing.T) {
	needs, orders := withRoom(3, 4, 0), withRoom(1, 9, 2)
	keptNeeds, keptOrders := roomOf(needs), roomOf(orders)
	for range 2 {
		got := checkPegs(t, needs, 2, orders, peg(-1, 0, 2), peg(0, 0, 1), peg(1, 1, 4))
		for i := range got[:cap(got)] {
			got[:cap(got)][i] = peg(-9, -9, -9)
		}
		checkPegs(t, needs[:4], 2, orders[:4])
		checkPegs(t, needs, 0, orders)
	}
	if !slices.Equal(roomOf(needs), keptNeeds) || !slices.Equal(roomOf(orders), keptOrders) {
		t.Error("the arguments were written into")
	}
}

// One that has said its last is given some time to be gone.
func checkNoneLeftBehind(t *testing.T, ahead int) {
	t.Helper()
	for range 200 {
		if runtime.NumGoroutine() <= ahead {
			return
		}
		time.Sleep(5 * time.Millisecond)
	}
	t.Errorf("%d goroutines; there were %d", runtime.NumGoroutine(), ahead)
}

func TestPegsLeaveNoGoroutineBehind(t *testing.T) {
	ahead := runtime.NumGoroutine()
	for range 300 {
		checkPegs(t, []int{3, 4}, 2, []int{1, 9}, peg(-1, 0, 2), peg(0, 0, 1), peg(1, 1, 4))
		checkPegs(t, []int{3, 4}, 0, []int{2, 9})
		checkPegs(t, []int{3, 4}, 0, []int{3, 3})
		checkPegs(t, []int{0, 0}, 0, []int{0, 0})
		checkPegs(t, []int{3, 4}, -1, []int{1, 9})
		checkPegs(t, nil, 0, nil)
	}
	checkNoneLeftBehind(t, ahead)
}
