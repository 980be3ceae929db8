package tests

import (
	"math"
	"slices"
	"testing"

	"loop.example/g00040/impl"
)

func checkTrace(t *testing.T, costs []int, services int, shares [][]int, place int, want ...int) {
	t.Helper()
	if got, ok := impl.Trace(costs, services, shares, place); !ok || !slices.Equal(got, want) {
		t.Errorf("Trace(%v, %d, %v, %d) = %v, %v; want %v, true", costs, services, shares, place, got, ok, want)
	}
}

func refuseTrace(t *testing.T, costs []int, services int, shares [][]int, place int) {
	t.Helper()
	if got, ok := impl.Trace(costs, services, shares, place); ok || len(got) != 0 {
		t.Errorf("Trace(%v, %d, %v, %d) = %v, %v; want nothing and false", costs, services, shares, place, got, ok)
	}
}

// P21, the second half: what a place got is what its traces tell, and those of all places together are what stood at the services.
func checkTraces(t *testing.T, costs []int, services int, shares [][]int, came [][]int) {
	t.Helper()
	out, _ := impl.Mutual(costs, services, shares)
	given := repeated(0, services)
	for place := services; place < len(costs); place++ {
		want := []int{}
		for i := range services {
			want = append(want, came[i][place-services])
		}
		checkTrace(t, costs, services, shares, place, want...)
		got, _ := impl.Trace(costs, services, shares, place)
		if sumOf(got) != out[place]-costs[place] {
			t.Errorf("Trace(%v, %d, %v, %d) = %v: together %d, and %d came", costs, services, shares, place, got, sumOf(got), out[place]-costs[place])
		}
		for i, n := range got {
			given[i] += n
		}
	}
	if !slices.Equal(given, costs[:services]) {
		t.Errorf("traces of (%v, %d, %v) are together %v", costs, services, shares, given)
	}
	for place := range services {
		refuseTrace(t, costs, services, shares, place)
	}
	for _, place := range []int{math.MinInt, -len(costs), -1, len(costs), len(costs) + 1, len(costs) + services, impl.MaxParts + 1, math.MaxInt} {
		refuseTrace(t, costs, services, shares, place)
	}
}

func TestTraceByHand(t *testing.T) {
	pair := [][]int{{0, 50, 50, 0}, {50, 0, 0, 50}}
	checkTrace(t, []int{300, 30, 0, 0}, 2, pair, 2, 200, 10)
	checkTrace(t, []int{300, 30, 0, 0}, 2, pair, 3, 100, 20)
	checkTrace(t, []int{300, -30, 1000, -1000}, 2, pair, 2, 200, -10)
	checkTrace(t, []int{300, -30, 1000, -1000}, 2, pair, 3, 100, -20)
	checkTrace(t, []int{0, 0, 9, 9}, 2, pair, 3, 0, 0)
	checkTrace(t, []int{9, 5}, 1, [][]int{{0, 100}}, 1, 9)
	checkTrace(t, []int{9, 5, 7}, 1, [][]int{{0, 100, 0}}, 2, 0)
	chain := [][]int{{0, 100, 0, 0, 0}, {0, 0, 100, 0, 0}, {0, 0, 0, 0, 100}}
	checkTrace(t, []int{1, 2, 4, 8, 0}, 3, chain, 4, 1, 2, 4)
	checkTrace(t, []int{1, 2, 4, 8, 0}, 3, chain, 3, 0, 0, 0)
}

// What is left over by the rounding is traced to the place that got it.
func TestTraceOfWhatIsLeftOver(t *testing.T) {
	thirds := [][]int{{0, 0, 25, 25, 50}, {0, 0, 50, 25, 25}}
	checkTrace(t, []int{1, 1, 0, 0, 0}, 2, thirds, 2, 0, 1)
	checkTrace(t, []int{1, 1, 0, 0, 0}, 2, thirds, 3, 0, 0)
	checkTrace(t, []int{1, 1, 0, 0, 0}, 2, thirds, 4, 1, 0)
	checkTrace(t, []int{-2, 2, 0, 0, 0}, 2, thirds, 2, -1, 1)
	checkTrace(t, []int{-2, 2, 0, 0, 0}, 2, thirds, 3, 0, 1)
	checkTrace(t, []int{-2, 2, 0, 0, 0}, 2, thirds, 4, -1, 0)
}

// A cost that leaves the amounts anywhere bars the traces of all places.
func TestTraceIsRefusedWithMutual(t *testing.T) {
	shares := [][]int{{0, 100, 0, 0}}
	costs := []int{1, impl.MaxMoney, 5, 5}
	for place := -1; place <= 4; place++ {
		refuseTrace(t, costs, 1, shares, place)
	}
	costs[1]--
	checkTrace(t, costs, 1, shares, 1, 1)
	checkTrace(t, costs, 1, shares, 2, 0)
	refuseTrace(t, costs, 1, shares, 0)
	refuseTrace(t, costs, 1, shares, 4)
	for _, place := range []int{0, 1, 2} {
		refuseTrace(t, []int{1, 1, 1}, 2, [][]int{{0, 100, 0}, {100, 0, 0}}, place)
		refuseTrace(t, []int{1, 1, 1}, 3, [][]int{{0, 100, 0}, {100, 0, 0}, {100, 0, 0}}, place)
		refuseTrace(t, []int{1, 1, 1}, 0, nil, place)
		refuseTrace(t, nil, 0, nil, place)
	}
}

func TestTraceLeavesItsArguments(t *testing.T) {
	costs, whole := roomyMutual()
	keptCosts, kept := roomyMutual()
	shares := [][]int{whole[0][:4], whole[1][:4]}
	for place := -1; place <= 5; place++ {
		got, ok := impl.Trace(costs[:4], 2, shares, place)
		again, _ := impl.Trace(costs[:4], 2, shares, place)
		for i := range got {
			got[i] = -99
		}
		_ = append(got, -98)
		if ok != (place == 2 || place == 3) || len(again) != len(got) || slices.Contains(again, -99) {
			t.Errorf("two answers of Trace at %d: %v, %v", place, got, again)
		}
		if !slices.Equal(costs, keptCosts) || !slices.EqualFunc(whole, kept, slices.Equal) {
			t.Fatal("Trace wrote into what it was given, or handed it out")
		}
	}
}
