package tests

import (
	"math/rand"
	"slices"
	"testing"

	"loop.example/g00040/impl"
)

func areQtys(list []int) bool {
	return !slices.ContainsFunc(list, func(n int) bool { return !isQty(n) })
}

// A quantity for each of 1 to MaxBuckets buckets.
func areBuckets(list []int) bool {
	return len(list) != 0 && len(list) <= impl.MaxBuckets && areQtys(list)
}

// wantMissing reckons as if nothing that is missing came in: all that is missing up to a bucket is as much as the flow fell below safety at its deepest.
func wantMissing(needs []int, have, safety int, coming []int) ([]int, bool) {
	if !areBuckets(needs) || len(coming) != len(needs) || !areQtys(coming) || !areQtys([]int{have, safety}) {
		return nil, false
	}
	missing := make([]int, len(needs))
	deepest := 0
	for b := range needs {
		came := have + sumOf(coming[:b+1]) - sumOf(needs[:b])
		deeper := max(deepest, safety-came+needs[b])
		missing[b] = deeper - deepest
		if came+deepest > impl.MaxQty || missing[b] > impl.MaxQty {
			return nil, false
		}
		deepest = deeper
	}
	return missing, true
}

// What is told keeps stock at its safety, and brings it no higher where something was missing.
func checkNetKeeps(t *testing.T, needs []int, have, safety int, coming, missing []int) {
	t.Helper()
	stock := have
	for b := range needs {
		without := stock + coming[b] - needs[b]
		stock = without + missing[b]
		if stock < safety || missing[b] < 0 || missing[b] > 0 && stock != safety || without >= safety && missing[b] != 0 {
			t.Errorf("Net(%v, %d, %d, %v) = %v: %d are there at the end of bucket %d", needs, have, safety, coming, missing, stock, b)
		}
	}
}

func checkNet(t *testing.T, needs []int, have, safety int, coming []int, want ...int) []int {
	t.Helper()
	got, ok := impl.Net(needs, have, safety, coming)
	other, otherOk := wantMissing(needs, have, safety, coming)
	if !ok || !slices.Equal(got, want) {
		t.Errorf("Net(%v, %d, %d, %v) = %v, %v; want %v", needs, have, safety, coming, got, ok, want)
	} else if !otherOk || !slices.Equal(other, want) {
		t.Errorf("the other way Net(%v, %d, %d, %v) = %v, %v; want %v", needs, have, safety, coming, other, otherOk, want)
	} else {
		checkNetKeeps(t, needs, have, safety, coming, got)
	}
	return got
}

func refuseNet(t *testing.T, needs []int, have, safety int, coming []int) {
	t.Helper()
	_, otherOk := wantMissing(needs, have, safety, coming)
	if got, ok := impl.Net(needs, have, safety, coming); ok || otherOk || len(got) != 0 {
		t.Errorf("Net(%v, %d, %d, %v) = %v, %v; want nothing", needs, have, safety, coming, got, ok)
	}
}

func TestNetByHand(t *testing.T) {
	checkNet(t, []int{5, 5, 5}, 7, 1, []int{0, 2, 0}, 0, 2, 5)
	checkNet(t, []int{5, 5, 5}, 0, 0, []int{0, 0, 0}, 5, 5, 5)
	checkNet(t, []int{5, 5, 5}, 15, 0, []int{0, 0, 0}, 0, 0, 0)
	checkNet(t, []int{5, 5, 5}, 14, 0, []int{0, 0, 0}, 0, 0, 1)
	checkNet(t, []int{5, 5, 5}, 0, 0, []int{9, 0, 0}, 0, 1, 5)
	checkNet(t, []int{5, 5, 5}, 0, 0, []int{0, 0, 9}, 5, 5, 0)
	checkNet(t, []int{0, 0, 0}, 0, 0, []int{0, 0, 0}, 0, 0, 0)
	// What is missing in a bucket is there behind it: what comes in later isn't taken for it.
	checkNet(t, []int{8, 0, 2, 9}, 3, 2, []int{1, 4, 0, 1}, 6, 0, 0, 6)
}

func TestStockAroundItsSafety(t *testing.T) {
	for _, safety := range []int{0, 1, 7, 500, impl.MaxQty / 2} {
		for _, need := range []int{0, 1, 9, 400000} {
			// Just at it, one above it, and one below it.
			checkNet(t, []int{need}, safety+need, safety, []int{0}, 0)
			checkNet(t, []int{need}, safety+need+1, safety, []int{0}, 0)
			checkNet(t, []int{need, 1, 0}, safety+need+1, safety, []int{0, 0, 0}, 0, 0, 0)
			checkNet(t, []int{need, 1, 0, 1}, safety+need, safety, []int{0, 0, 0, 0}, 0, 1, 0, 1)
			// A need is met out of what comes in its bucket, not out of what comes in the one behind.
			checkNet(t, []int{need, need}, safety, safety, []int{need, need}, 0, 0)
			checkNet(t, []int{need, need}, safety, safety, []int{need + 1, need}, 0, 0)
			checkNet(t, []int{need + 1, need}, safety, safety, []int{need, need}, 1, 0)
			checkNet(t, []int{need, 0}, safety, safety, []int{0, need}, need, 0)
		}
		if safety > 0 {
			checkNet(t, []int{3, 4}, safety-1, safety, []int{3, 4}, 1, 0)
			checkNet(t, []int{0, 0, 2}, 0, safety, []int{0, 0, 0}, safety, 0, 2)
			checkNet(t, []int{0, 0, 2}, 0, safety, []int{0, 1, 0}, safety, 0, 1)
		}
	}
}

func TestSafetyAboveAllThatIsThere(t *testing.T) {
	top := impl.MaxQty
	checkNet(t, []int{0, 0, 0}, 0, top, []int{0, 0, 0}, top, 0, 0)
	checkNet(t, []int{0, 5, 2}, 0, top, []int{0, 0, 0}, top, 5, 2)
	refuseNet(t, []int{0, 5, 2}, 0, top, []int{0, 0, 2})
	checkNet(t, []int{2, 3, 4}, 50, 1000, []int{5, 0, 10}, 947, 3, 0)
	checkNet(t, []int{2, 3, 4}, 999, 1000, []int{0, 4, 4}, 3, 0, 0)
}

func TestStockThatLeavesTheQuantities(t *testing.T) {
	top := impl.MaxQty
	checkNet(t, []int{0}, top, 0, []int{0}, 0)
	checkNet(t, []int{0}, 0, 0, []int{top}, 0)
	checkNet(t, []int{0}, top, top, []int{0}, 0)
	checkNet(t, []int{top}, top, 0, []int{0}, 0)
	checkNet(t, []int{top}, 0, 0, []int{top}, 0)
	checkNet(t, []int{top}, 0, 0, []int{0}, top)
	for _, have := range []int{0, 1, 400000, top - 1, top} {
		checkNet(t, []int{0}, have, 0, []int{top - have}, 0)
		refuseNet(t, []int{0}, have, 0, []int{top - have + 1})
		// It comes in ahead of what goes out.
		refuseNet(t, []int{1}, have, 0, []int{top - have + 1})
		refuseNet(t, []int{top}, have, 0, []int{top - have + 1})
		checkNet(t, []int{1, 0}, have, 0, []int{top - have, 1}, 0, 0)
		refuseNet(t, []int{1, 0}, have, 0, []int{top - have, 2})
		refuseNet(t, []int{0, 1, 0}, have, 0, []int{0, top - have, 2})
	}
	// What was missing is there too.
	checkNet(t, []int{5, 0}, 0, 700000, []int{0, 300000}, 700005, 0)
	refuseNet(t, []int{5, 0}, 0, 700000, []int{0, 300001})
	refuseNet(t, []int{5, 0, 0}, 0, 700000, []int{0, 300000, 1})
}

func TestMissingThatLeavesTheQuantities(t *testing.T) {
	top := impl.MaxQty
	for _, need := range []int{1, 2, 300000, top - 1, top} {
		for _, have := range []int{0, 1, need} {
			safety := top - need + have
			if safety > top {
				continue
			}
			checkNet(t, []int{need, need, 0}, have, safety, []int{0, 0, 0}, top, need, 0)
			checkNet(t, []int{0, need}, 0, top-need, []int{0, 0}, top-need, need)
			if safety < top {
				refuseNet(t, []int{need, 0}, have, safety+1, []int{0, 0})
				checkNet(t, []int{need, 0}, have, safety+1, []int{1, 0}, top, 0)
			}
			if need < top {
				refuseNet(t, []int{need + 1, 0}, have, safety, []int{0, 0})
				checkNet(t, []int{need + 1, 0}, have, safety, []int{1, 0}, top, 0)
			}
		}
	}
	refuseNet(t, []int{top}, 0, top, []int{0})
	refuseNet(t, []int{1, 0, top}, 0, top, []int{0, 0, 0})
	checkNet(t, []int{0, 0, top}, 0, top, []int{0, 0, 0}, top, 0, top)
	checkNet(t, []int{0, 0, top}, 0, 0, []int{0, 0, 0}, 0, 0, top)
}

func TestHowManyBucketsThereMayBe(t *testing.T) {
	for _, count := range []int{0, 1, 2, impl.MaxBuckets - 1, impl.MaxBuckets, impl.MaxBuckets + 1, impl.MaxBuckets + 2, 500} {
		needs, coming := repeated(3, count), repeated(1, count)
		if count == 0 || count > impl.MaxBuckets {
			refuseNet(t, needs, 0, 0, coming)
			refuseNet(t, needs, 5, 5, coming)
			continue
		}
		checkNet(t, needs, 0, 0, coming, repeated(2, count)...)
		checkNet(t, needs, 2*count, 0, coming, repeated(0, count)...)
		refuseNet(t, needs, 0, 0, coming[1:])
		refuseNet(t, needs, 0, 0, append(coming, 1))
		refuseNet(t, needs, 0, 0, nil)
		refuseNet(t, needs[1:], 0, 0, coming)
		refuseNet(t, nil, 0, 0, coming)
		rising := daysFrom(0, count)
		checkNet(t, rising, 0, 0, repeated(0, count), rising...)
	}
	refuseNet(t, nil, 0, 0, nil)
	refuseNet(t, []int{}, 0, 0, []int{})
}

func TestNumbersThatNetRefuses(t *testing.T) {
	for _, none := range noQtys {
		refuseNet(t, []int{1}, none, 0, []int{1})
		refuseNet(t, []int{1}, 0, none, []int{1})
		for at := range 4 {
			wrong := []int{2, 0, 3, 1}
			wrong[at] = none
			refuseNet(t, wrong, 5, 1, []int{0, 0, 0, 0})
			refuseNet(t, []int{2, 0, 3, 1}, 5, 1, wrong)
			refuseNet(t, wrong, 5, 1, wrong)
		}
	}
	for _, n := range []int{0, 1, impl.MaxQty - 1, impl.MaxQty} {
		checkNet(t, []int{n, 0}, n, 0, []int{0, n}, 0, 0)
		checkNet(t, []int{n, 0}, n, n, []int{0, 0}, n, 0)
	}
}

// Quantities of buckets, in some of which there is nothing.
func someQtys(chance *rand.Rand, count, most int) []int {
	list := make([]int, count)
	for i := range list {
		if chance.Intn(3) > 0 {
			list[i] = chance.Intn(most + 1)
		}
	}
	return list
}

func TestSomeNets(t *testing.T) {
	chance := rand.New(rand.NewSource(181))
	told, none := 0, 0
	for range 20000 {
		count := 1 + chance.Intn([]int{4, impl.MaxBuckets}[chance.Intn(2)])
		most := []int{3, 40, impl.MaxQty / 3, impl.MaxQty}[chance.Intn(4)]
		needs, coming := someQtys(chance, count, most), someQtys(chance, count, most)
		have, safety := chance.Intn(most+1), chance.Intn(most+1)*chance.Intn(2)
		if chance.Intn(8) == 0 {
			[][]int{needs, coming}[chance.Intn(2)][chance.Intn(count)] = noQtys[chance.Intn(len(noQtys))]
		}
		if want, ok := wantMissing(needs, have, safety, coming); ok {
			checkNet(t, needs, have, safety, coming, want...)
			told++
		} else {
			refuseNet(t, needs, have, safety, coming)
			none++
		}
	}
	if told < 6000 || none < 3000 {
		t.Errorf("%d told, %d not", told, none)
	}
}

// A list with numbers behind it that are right in none.
func withRoom(list ...int) []int { return append(slices.Clone(list), -7, -7)[:len(list)] }

// A list with all the room behind it.
func roomOf(list []int) []int { return slices.Clone(list[:cap(list)]) }

func spoilList(list []int) {
	for i := range list[:cap(list)] {
		list[:cap(list)][i] = -9
	}
}

func TestNetLeavesItsArguments(t *testing.T) {
	needs, coming := withRoom(5, 5, 5), withRoom(0, 2, 0)
	keptNeeds, keptComing := roomOf(needs), roomOf(coming)
	for range 2 {
		spoilList(checkNet(t, needs, 7, 1, coming, 0, 2, 5))
		refuseNet(t, needs[:4], 7, 1, coming[:4])
		refuseNet(t, needs, 7, -1, coming)
	}
	if !slices.Equal(roomOf(needs), keptNeeds) || !slices.Equal(roomOf(coming), keptComing) {
		t.Error("the arguments were written into")
	}
}
