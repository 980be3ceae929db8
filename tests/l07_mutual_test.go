package tests

import (
	"math"
	"math/big"
	"math/rand"
	"slices"
	"testing"

	"loop.example/g00040/impl"
)

func wantSharesOk(costs []int, services int, shares [][]int) bool {
	if services < 1 || services > impl.MaxServices || services >= len(costs) || len(shares) != services {
		return false
	}
	for i, list := range shares {
		if len(list) != len(costs) || slices.Min(list) < 0 || slices.Max(list) > 100 || sumOf(list) != 100 || list[i] != 0 {
			return false
		}
	}
	return true
}

// Something leaves a service when it gives to a place that is none, or to a service that something leaves: as many rounds as there are services find all such ways. This asks for no determinant.
func allLeave(services int, shares [][]int) bool {
	leaves := make([]bool, services)
	for range services {
		for i, list := range shares {
			for to, n := range list {
				leaves[i] = leaves[i] || n > 0 && (to >= services || leaves[to])
			}
		}
	}
	return !slices.Contains(leaves, false)
}

// wantEnds solves 100 f(i, p) = r(i, p) and all s(i, j) f(j, p) by elimination over fractions: what ends up at each other place of one unit of each service.
func wantEnds(services int, shares [][]int) [][]*big.Rat {
	rows := make([][]*big.Rat, services)
	for i, list := range shares {
		for to, n := range list {
			if to < services {
				n = -n
			}
			rows[i] = append(rows[i], big.NewRat(int64(n), 100))
		}
		rows[i][i] = big.NewRat(1, 1)
	}
	for at := range rows {
		pivot := new(big.Rat).Set(rows[at][at])
		for _, n := range rows[at] {
			n.Quo(n, pivot)
		}
		for i := range rows {
			if i != at {
				takeOff(rows[i], rows[at], rows[i][at])
			}
		}
	}
	for i := range rows {
		rows[i] = rows[i][services:]
	}
	return rows
}

func takeOff(row, other []*big.Rat, times *big.Rat) {
	times = new(big.Rat).Set(times)
	for i, n := range row {
		n.Sub(n, new(big.Rat).Mul(times, other[i]))
	}
}

// wantParts spreads total by fractions that are together 1, as Shares does by whole numbers.
func wantParts(total int, ends []*big.Rat) []int {
	parts := make([]int, len(ends))
	rests := make([]*big.Rat, len(ends))
	for i, f := range ends {
		part := new(big.Rat).Mul(big.NewRat(int64(total), 1), f)
		whole := new(big.Int).Quo(part.Num(), part.Denom())
		parts[i] = int(whole.Int64())
		rests[i] = part.Sub(part, new(big.Rat).SetInt(whole))
		rests[i].Abs(rests[i])
	}
	for left := total - sumOf(parts); left != 0; left = total - sumOf(parts) {
		best := 0
		for i, r := range rests {
			if r.Cmp(rests[best]) > 0 {
				best = i
			}
		}
		parts[best] += left / max(left, -left)
		rests[best] = big.NewRat(-1, 1)
	}
	return parts
}

// The costs behind Mutual, and a list for each service of what came of it to each other place.
func wantMutual(costs []int, services int, shares [][]int) (out []int, came [][]int, ok bool) {
	if !wantCostsOk(costs) || !wantSharesOk(costs, services, shares) || !allLeave(services, shares) {
		return nil, nil, false
	}
	out = append(repeated(0, services), costs[services:]...)
	for i, ends := range wantEnds(services, shares) {
		came = append(came, wantParts(costs[i], ends))
		for k, n := range came[i] {
			out[services+k] += n
		}
	}
	return out, came, wantCostsOk(out)
}

// P21, the first half: the costs together are what they were, and services have 0.
func checkMutual(t *testing.T, costs []int, services int, shares [][]int, want ...int) {
	t.Helper()
	got, ok := impl.Mutual(costs, services, shares)
	if !ok || !slices.Equal(got, want) {
		t.Errorf("Mutual(%v, %d, %v) = %v, %v; want %v, true", costs, services, shares, got, ok, want)
		return
	}
	if sumOf(got) != sumOf(costs) || !slices.Equal(got[:services], repeated(0, services)) {
		t.Errorf("Mutual(%v, %d, %v) = %v: something is made or lost, or left at a service", costs, services, shares, got)
	}
}

// Wherever Mutual is refused, Trace is at each place that there is or isn't.
func refuseMutual(t *testing.T, costs []int, services int, shares [][]int) {
	t.Helper()
	if got, ok := impl.Mutual(costs, services, shares); ok || len(got) != 0 {
		t.Errorf("Mutual(%v, %d, %v) = %v, %v; want nothing and false", costs, services, shares, got, ok)
	}
	for place := -1; place <= len(costs) && place < 8; place++ {
		refuseTrace(t, costs, services, shares, place)
	}
}

func mutualAsWanted(t *testing.T, costs []int, services int, shares [][]int) bool {
	t.Helper()
	want, came, ok := wantMutual(costs, services, shares)
	if !ok {
		refuseMutual(t, costs, services, shares)
		return false
	}
	checkMutual(t, costs, services, shares, want...)
	checkTraces(t, costs, services, shares, came)
	return true
}

func TestMutualOfOneService(t *testing.T) {
	checkMutual(t, []int{9, 1}, 1, [][]int{{0, 100}}, 0, 10)
	checkMutual(t, []int{9, 1, 2, 3}, 1, [][]int{{0, 0, 100, 0}}, 0, 1, 11, 3)
	checkMutual(t, []int{10, 1, 2, 3}, 1, [][]int{{0, 20, 30, 50}}, 0, 3, 5, 8)
	checkMutual(t, []int{100, 0, 0, 0}, 1, [][]int{{0, 33, 33, 34}}, 0, 33, 33, 34)
	checkMutual(t, []int{1, 0, 0, 0}, 1, [][]int{{0, 50, 50, 0}}, 0, 1, 0, 0)
	checkMutual(t, []int{-1, 0, 0, 0}, 1, [][]int{{0, 0, 50, 50}}, 0, 0, -1, 0)
}

func TestMutualOfTwoServices(t *testing.T) {
	pair := [][]int{{0, 50, 50, 0}, {50, 0, 0, 50}}
	checkMutual(t, []int{300, 0, 0, 0}, 2, pair, 0, 0, 200, 100)
	checkMutual(t, []int{0, 300, 0, 0}, 2, pair, 0, 0, 100, 200)
	checkMutual(t, []int{300, 30, 7, -7}, 2, pair, 0, 0, 217, 113)
	checkMutual(t, []int{-300, 30, 7, -7}, 2, pair, 0, 0, -183, -87)
	checkMutual(t, []int{0, 0, 7, -7}, 2, pair, 0, 0, 7, -7)
	checkMutual(t, []int{2, -1, 0, 0}, 2, pair, 0, 0, 1, 0)
	apart := [][]int{{0, 0, 100}, {0, 0, 100}}
	checkMutual(t, []int{4, 5, 6}, 2, apart, 0, 0, 15)
	handsOn := [][]int{{0, 100, 0, 0}, {0, 0, 25, 75}}
	checkMutual(t, []int{100, 20, 0, 0}, 2, handsOn, 0, 0, 30, 90)
	back := [][]int{{0, 100, 0, 0}, {99, 0, 1, 0}}
	checkMutual(t, []int{100, 20, 0, 3}, 2, back, 0, 0, 120, 3)
	most := [][]int{{0, 99, 1, 0}, {100, 0, 0, 0}}
	checkMutual(t, []int{100, 20, 0, 3}, 2, most, 0, 0, 120, 3)
}

func TestMutualOfThreeServices(t *testing.T) {
	ring := [][]int{{0, 50, 0, 50, 0, 0}, {0, 0, 50, 0, 50, 0}, {50, 0, 0, 0, 0, 50}}
	checkMutual(t, []int{700, 0, 0, 0, 0, 0}, 3, ring, 0, 0, 0, 400, 200, 100)
	checkMutual(t, []int{0, 700, 0, 0, 0, 0}, 3, ring, 0, 0, 0, 100, 400, 200)
	checkMutual(t, []int{0, 0, 700, 0, 0, 0}, 3, ring, 0, 0, 0, 200, 100, 400)
	other := [][]int{{0, 0, 50, 50, 0, 0}, {50, 0, 0, 0, 50, 0}, {0, 50, 0, 0, 0, 50}}
	checkMutual(t, []int{700, 0, 0, 0, 0, 0}, 3, other, 0, 0, 0, 400, 100, 200)
	each := [][]int{{0, 25, 25, 50, 0, 0}, {25, 0, 25, 0, 50, 0}, {25, 25, 0, 0, 0, 50}}
	checkMutual(t, []int{500, 5, 0, 1, 1, 1}, 3, each, 0, 0, 0, 302, 104, 102)
	chain := [][]int{{0, 100, 0, 0}, {0, 0, 100, 0}, {0, 0, 0, 100}}
	checkMutual(t, []int{1, 2, 4, 8}, 3, chain, 0, 0, 0, 15)
	pairs := [][]int{{0, 100, 0, 0, 0}, {80, 0, 0, 20, 0}, {0, 0, 0, 0, 100}}
	checkMutual(t, []int{1, 2, 4, 8, 0}, 3, pairs, 0, 0, 0, 11, 4)
	nearly := [][]int{{0, 100, 0, 0, 0}, {0, 0, 100, 0, 0}, {99, 0, 0, 0, 1}}
	checkMutual(t, []int{1, 2, 4, 8, 0}, 3, nearly, 0, 0, 0, 8, 7)
}

// Nothing ever leaves some of the services: D is 0, whatever stands there.
func TestMutualOfServicesThatKeepAll(t *testing.T) {
	closed := [][][]int{
		{{0, 100, 0}, {100, 0, 0}},
		{{0, 100, 0, 0}, {0, 0, 100, 0}, {100, 0, 0, 0}},
		{{0, 0, 100, 0}, {100, 0, 0, 0}, {0, 100, 0, 0}},
		{{0, 50, 50, 0}, {50, 0, 50, 0}, {50, 50, 0, 0}},
		{{0, 1, 99, 0}, {70, 0, 30, 0}, {45, 55, 0, 0}},
		{{0, 100, 0, 0}, {100, 0, 0, 0}, {0, 0, 0, 100}},
		{{0, 100, 0, 0}, {100, 0, 0, 0}, {10, 10, 0, 80}},
		{{0, 0, 100, 0}, {0, 0, 0, 100}, {100, 0, 0, 0}},
		{{0, 0, 0, 100}, {0, 0, 100, 0}, {0, 100, 0, 0}},
		{{0, 100, 0, 0}, {100, 0, 0, 0}, {0, 100, 0, 0}},
	}
	for _, shares := range closed {
		services := len(shares)
		refuseMutual(t, repeated(0, services+1), services, shares)
		refuseMutual(t, repeated(5, services+1), services, shares)
		refuseMutual(t, append(repeated(0, services), 7), services, shares)
	}
}

func TestMutualOfCounts(t *testing.T) {
	equal := func(services, places int) [][]int {
		shares := [][]int{}
		for range services {
			list := repeated(0, places)
			if places > 0 {
				list[places-1] = 100
			}
			shares = append(shares, list)
		}
		return shares
	}
	for services := range impl.MaxServices + 3 {
		for places := range impl.MaxServices + 4 {
			mutualAsWanted(t, repeated(7, places), services, equal(services, places))
		}
		for _, places := range []int{impl.MaxParts - 1, impl.MaxParts, impl.MaxParts + 1} {
			taken := mutualAsWanted(t, repeated(-7, places), services, equal(services, places))
			if taken != (services >= 1 && services <= impl.MaxServices && places <= impl.MaxParts) {
				t.Errorf("%d services of %d places: %v", services, places, taken)
			}
		}
	}
	for _, services := range []int{math.MinInt, -1, 0, 1, 3, impl.MaxServices + 1, math.MaxInt} {
		refuseMutual(t, repeated(7, 6), services, equal(2, 6))
	}
	refuseMutual(t, []int{1, 1}, 2, [][]int{{0, 100}, {100, 0}})
	refuseMutual(t, []int{1}, 1, [][]int{{0}})
	refuseMutual(t, []int{1}, 1, [][]int{{100}})
	refuseMutual(t, nil, 0, nil)
	refuseMutual(t, nil, 1, [][]int{{}})
	refuseMutual(t, []int{1, 2}, 0, nil)
}

func TestMutualOfShareLists(t *testing.T) {
	costs := []int{10, 20, 30, 40}
	good := []int{50, 0, 25, 25}
	for _, wrong := range [][]int{
		nil, {}, {0}, {0, 100}, {0, 50, 50}, {0, 50, 25, 25, 0}, {0, 0, 0, 100, 0},
		{0, -1, 51, 50}, {0, -1, 1, 100}, {0, 101, 0, 0}, {0, 101, -1, 0}, {0, 0, 0, 101},
		{0, 33, 33, 33}, {0, 0, 0, 99}, {0, 34, 34, 33}, {0, 100, 1, 0}, {0, 0, 0, 0},
		{1, 33, 33, 33}, {100, 0, 0, 0}, {-1, 34, 34, 33}, {-1, 0, 1, 100},
		{0, math.MaxInt, math.MaxInt, 102}, {0, math.MinInt, math.MinInt, 100}, {0, 100, math.MinInt, math.MinInt},
	} {
		refuseMutual(t, costs, 2, [][]int{wrong, good})
		refuseMutual(t, costs, 1, [][]int{wrong})
		if len(wrong) == 4 {
			wrong[0], wrong[1] = wrong[1], wrong[0]
		}
		refuseMutual(t, costs, 2, [][]int{{0, 50, 25, 25}, wrong})
	}
	for _, right := range [][]int{{0, 100, 0, 0}, {0, 0, 100, 0}, {0, 0, 0, 100}, {0, 1, 99, 0}, {0, 34, 33, 33}} {
		if !mutualAsWanted(t, costs, 2, [][]int{right, good}) || !mutualAsWanted(t, costs, 1, [][]int{right}) {
			t.Errorf("shares %v are refused", right)
		}
	}
	refuseMutual(t, costs, 2, nil)
	refuseMutual(t, costs, 2, [][]int{{0, 50, 25, 25}})
	refuseMutual(t, costs, 2, [][]int{{0, 50, 25, 25}, good, {0, 0, 0, 100}})
	refuseMutual(t, costs, 1, [][]int{{0, 50, 25, 25}, good})
	refuseMutual(t, costs, 3, [][]int{{0, 50, 25, 25}, good})
}

func TestMutualOfCosts(t *testing.T) {
	shares := [][]int{{0, 40, 60, 0}, {10, 0, 0, 90}}
	for _, one := range []int{-impl.MaxMoney, -impl.MaxMoney + 1, -301, -2, -1, 0, 1, 2, 301, impl.MaxMoney - 1, impl.MaxMoney} {
		for _, other := range []int{-impl.MaxMoney, -77, 0, 1, 77, impl.MaxMoney} {
			mutualAsWanted(t, []int{one, other, 0, 0}, 2, shares)
			mutualAsWanted(t, []int{one, other, 5, -5}, 2, shares)
			mutualAsWanted(t, []int{other, one, one, other}, 2, shares)
			mutualAsWanted(t, []int{other, -other, one, -one}, 2, shares)
		}
	}
	for _, no := range noAmounts {
		for at := range 4 {
			costs := []int{1, 2, 3, 4}
			costs[at] = no
			refuseMutual(t, costs, 2, shares)
		}
	}
}

// Services give at once, not one ahead of the other: costs that are amounts behind them all are taken.
func TestMutualLeavesTheAmounts(t *testing.T) {
	both := [][]int{{0, 0, 100, 0}, {0, 0, 100, 0}}
	for _, sign := range []int{1, -1} {
		greatest := sign * impl.MaxMoney
		checkMutual(t, []int{sign, 0, greatest - sign, 5}, 2, both, 0, 0, greatest, 5)
		refuseMutual(t, []int{sign, 0, greatest, 5}, 2, both)
		refuseMutual(t, []int{0, sign, greatest, 5}, 2, both)
		refuseMutual(t, []int{greatest, greatest, greatest, 0}, 2, both)
		checkMutual(t, []int{greatest, -greatest, greatest, 0}, 2, both, 0, 0, greatest, 0)
		checkMutual(t, []int{-greatest, greatest, greatest, 0}, 2, both, 0, 0, greatest, 0)
		checkMutual(t, []int{sign, 0, 0, greatest}, 2, both, 0, 0, sign, greatest)
		pair := [][]int{{0, 50, 50, 0}, {50, 0, 0, 50}}
		refuseMutual(t, []int{3 * sign, 0, 0, greatest}, 2, pair)
		checkMutual(t, []int{3 * sign, 0, 0, greatest - sign}, 2, pair, 0, 0, 2*sign, greatest)
	}
}

// Each pair of shares that two services can give one another.
func TestMutualOfAllPairs(t *testing.T) {
	for one := range 101 {
		for other := range 101 {
			shares := [][]int{{0, one, 100 - one, 0}, {other, 0, (100 - other) / 2, 100 - other - (100-other)/2}}
			taken := mutualAsWanted(t, []int{1009, -773, 1, 2}, 2, shares)
			if taken == (one == 100 && other == 100) {
				t.Errorf("services that give one another %d and %d: %v", one, other, taken)
			}
		}
	}
}

// All lists of whole parts of 100 that a service can give to four others.
func cutLists(step int) [][4]int {
	lists := [][4]int{}
	for a := 0; a <= 100; a += step {
		for b := 0; a+b <= 100; b += step {
			for c := 0; a+b+c <= 100; c += step {
				lists = append(lists, [4]int{a, b, c, 100 - a - b - c})
			}
		}
	}
	return lists
}

func TestMutualOfAllHalves(t *testing.T) {
	kept := 0
	for _, a := range cutLists(50) {
		for _, b := range cutLists(50) {
			for _, c := range cutLists(50) {
				shares := [][]int{{0, a[0], a[1], a[2], a[3]}, {b[0], 0, b[1], b[2], b[3]}, {c[0], c[1], 0, c[2], c[3]}}
				if !mutualAsWanted(t, []int{101, -58, 33, 4, -4}, 3, shares) {
					kept++
				}
			}
		}
	}
	if kept == 0 || kept > 300 {
		t.Errorf("%d of 1000 services are refused", kept)
	}
}

// Half of it goes to the services, so that now and then some of them keep all among themselves.
func someShareList(chance *rand.Rand, service, services, places int) []int {
	list := repeated(0, places)
	for left := 100; left > 0; {
		part := min(left, 1+chance.Intn(100))
		to := chance.Intn(places)
		if chance.Intn(2) == 0 {
			to = chance.Intn(services)
		}
		if to != service {
			list[to] += part
			left -= part
		}
	}
	return list
}

func someShareLists(chance *rand.Rand, services, places int) [][]int {
	shares := [][]int{}
	for service := range services {
		shares = append(shares, someShareList(chance, service, services, places))
	}
	return shares
}

func TestSomeMutuals(t *testing.T) {
	chance := rand.New(rand.NewSource(72))
	taken, left := 0, 0
	for range 3000 {
		services := 1 + chance.Intn(impl.MaxServices)
		places := services + 1 + chance.Intn(5)
		shares := someShareLists(chance, services, places)
		if chance.Intn(5) == 0 {
			shares[chance.Intn(services)][chance.Intn(places)] += chance.Intn(3) - 1
		}
		if mutualAsWanted(t, someCosts(chance, places), services, shares) {
			taken++
		} else {
			left++
		}
	}
	if taken < 500 || left < 500 {
		t.Errorf("%d allocations taken, %d refused", taken, left)
	}
	for range 20 {
		shares := someShareLists(chance, impl.MaxServices, impl.MaxParts)
		costs := repeated(0, impl.MaxParts)
		for i := range costs {
			costs[i] = chance.Intn(2000001) - 1000000
		}
		if allLeave(impl.MaxServices, shares) != mutualAsWanted(t, costs, impl.MaxServices, shares) {
			t.Error("a great allocation is refused")
		}
	}
}

// Behind each list that is handed in stands more of it, which is neither read nor written.
func roomyMutual() (costs []int, shares [][]int) {
	costs = []int{300, 30, 0, 0, -1, math.MaxInt}
	shares = [][]int{{0, 50, 50, 0, 7, -7}, {50, 0, 0, 50, 100, 0}, {1}}
	return costs, shares
}

func TestMutualLeavesItsArguments(t *testing.T) {
	costs, whole := roomyMutual()
	keptCosts, kept := roomyMutual()
	shares := [][]int{whole[0][:4], whole[1][:4], whole[2]}
	for _, told := range [][][]int{shares[:2], shares, shares[:1]} {
		got, ok := impl.Mutual(costs[:4], 2, told)
		again, _ := impl.Mutual(costs[:4], 2, told)
		for i := range got {
			got[i] = -99
		}
		_ = append(got, -98)
		if ok != (len(told) == 2) || ok != slices.Equal(again, []int{0, 0, 210, 120}) {
			t.Errorf("two answers of Mutual: %v, %v", got, again)
		}
		if !slices.Equal(costs, keptCosts) || !slices.EqualFunc(whole, kept, slices.Equal) {
			t.Fatal("Mutual wrote into what it was given, or handed it out")
		}
	}
}
