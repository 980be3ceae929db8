package tests

import (
	"math"
	"math/big"
	"math/rand"
	"slices"
	"testing"

	"loop.example/g00040/impl"
)

func sumOf(list []int) int {
	all := 0
	for _, n := range list {
		all += n
	}
	return all
}

func repeated(n, times int) []int {
	list := make([]int, times)
	for i := range list {
		list[i] = n
	}
	return list
}

// wantShares gives one at a time to the place that is then the furthest below its part, of those the lowest: it sorts nothing.
func wantShares(total int, weights []int) []int {
	all := big.NewInt(int64(sumOf(weights)))
	shares := make([]int, len(weights))
	rests := make([]int64, len(weights))
	for i, w := range weights {
		product := new(big.Int).Mul(big.NewInt(int64(total)), big.NewInt(int64(w)))
		whole, rest := new(big.Int).QuoRem(product, all, new(big.Int))
		shares[i], rests[i] = int(whole.Int64()), rest.Abs(rest).Int64()
	}
	for left := total - sumOf(shares); left != 0; left = total - sumOf(shares) {
		best := 0
		for i, r := range rests {
			if r > rests[best] {
				best = i
			}
		}
		if left > 0 {
			shares[best]++
		} else {
			shares[best]--
		}
		rests[best] = -1
	}
	return shares
}

func checkShares(t *testing.T, total int, weights []int) {
	t.Helper()
	got := impl.Shares(total, weights)
	if want := wantShares(total, weights); !slices.Equal(got, want) {
		t.Errorf("Shares(%d, %v) = %v; want %v", total, weights, got, want)
		return
	}
	checkSharesPromise(t, total, weights, got)
}

func checkSharesPromise(t *testing.T, total int, weights, got []int) {
	t.Helper()
	if sumOf(got) != total {
		t.Errorf("Shares(%d, %v) = %v: together %d", total, weights, got, sumOf(got))
	}
	all := big.NewInt(int64(sumOf(weights)))
	for i, w := range weights {
		off := new(big.Int).Mul(big.NewInt(int64(got[i])), all)
		off.Sub(off, new(big.Int).Mul(big.NewInt(int64(total)), big.NewInt(int64(w))))
		if off.CmpAbs(all) >= 0 {
			t.Errorf("Shares(%d, %v)[%d] = %d: one or more off its part", total, weights, i, got[i])
		}
		if got[i] != 0 && (w == 0 || (got[i] > 0) != (total > 0)) {
			t.Errorf("Shares(%d, %v)[%d] = %d: not between 0 and the total", total, weights, i, got[i])
		}
		for j := range i {
			if total > 0 && (w > weights[j] && got[i] < got[j] || w < weights[j] && got[i] > got[j]) {
				t.Errorf("Shares(%d, %v) = %v: the greater of %d and %d has the lesser share", total, weights, got, j, i)
			}
		}
	}
}

func refuseShares(t *testing.T, total int, weights []int) {
	t.Helper()
	if got := impl.Shares(total, weights); len(got) != 0 {
		t.Errorf("Shares(%d, %d weights) = %v; want nothing", total, len(weights), got)
	}
}

func TestSharesByHand(t *testing.T) {
	rows := []struct {
		total   int
		weights []int
		want    []int
	}{
		{100, []int{1, 1, 1}, []int{34, 33, 33}},
		{101, []int{1, 1, 1}, []int{34, 34, 33}},
		{-100, []int{1, 1, 1}, []int{-34, -33, -33}},
		{-101, []int{1, 1, 1}, []int{-34, -34, -33}},
		{10, []int{1, 0, 2}, []int{3, 0, 7}},
		{-10, []int{1, 0, 2}, []int{-3, 0, -7}},
		{1, []int{1, 2, 2}, []int{0, 1, 0}},
		{-1, []int{1, 2, 2}, []int{0, -1, 0}},
		{2, []int{1, 2, 2}, []int{0, 1, 1}},
		{-2, []int{1, 2, 2}, []int{0, -1, -1}},
		{7, []int{5, 3, 2}, []int{4, 2, 1}},
		{-7, []int{5, 3, 2}, []int{-4, -2, -1}},
		{0, []int{3, 0, 4}, []int{0, 0, 0}},
		{9, []int{0, 0, 4, 0}, []int{0, 0, 9, 0}},
		{-9, []int{7}, []int{-9}},
		{1, []int{0, 1, 1}, []int{0, 1, 0}},
		{12, []int{1, 2, 3}, []int{2, 4, 6}},
	}
	for _, r := range rows {
		if got := impl.Shares(r.total, r.weights); !slices.Equal(got, r.want) {
			t.Errorf("Shares(%d, %v) = %v; want %v", r.total, r.weights, got, r.want)
		}
	}
}

func TestSharesOfSmallNumbers(t *testing.T) {
	for total := -15; total <= 15; total++ {
		for code := 1; code < 4*4*4*4; code++ {
			weights := []int{code % 4, code / 4 % 4, code / 16 % 4, code / 64}
			checkShares(t, total, weights)
			if weights[3] > 0 {
				checkShares(t, total, weights[3:])
				checkShares(t, total, weights[2:])
			}
		}
	}
}

func TestSharesOfGreatNumbers(t *testing.T) {
	r := rand.New(rand.NewSource(2))
	for round := range 400 {
		weights := make([]int, 1+r.Intn(impl.MaxParts))
		for i := range weights {
			switch r.Intn(4) {
			case 0:
				weights[i] = r.Intn(3)
			case 1:
				weights[i] = impl.MaxFactor - r.Intn(3)
			default:
				weights[i] = r.Intn(impl.MaxFactor + 1)
			}
		}
		weights[r.Intn(len(weights))] = impl.MaxFactor
		total := r.Intn(2*impl.MaxMoney+1) - impl.MaxMoney
		switch round % 8 {
		case 0:
			total = impl.MaxMoney
		case 1:
			total = -impl.MaxMoney
		case 2:
			total = r.Intn(401) - 200
		}
		checkShares(t, total, weights)
	}
}

func TestSharesAtTheirLimits(t *testing.T) {
	for _, total := range []int{-impl.MaxMoney, -impl.MaxMoney + 1, -199, -1, 0, 1, 199, impl.MaxMoney - 1, impl.MaxMoney} {
		checkShares(t, total, repeated(impl.MaxFactor, impl.MaxParts))
		checkShares(t, total, repeated(1, impl.MaxParts))
		checkShares(t, total, append(repeated(0, impl.MaxParts-1), 1))
		checkShares(t, total, append(repeated(impl.MaxFactor, impl.MaxParts-1), impl.MaxFactor-1))
		checkShares(t, total, []int{impl.MaxFactor})
		checkShares(t, total, []int{1})
		checkShares(t, total, []int{1, impl.MaxFactor, 0})
	}
}

func TestSharesRefuse(t *testing.T) {
	for _, total := range noAmounts {
		refuseShares(t, total, []int{1})
		refuseShares(t, total, []int{1, 2, 3})
	}
	for _, total := range []int{-impl.MaxMoney, -10, 0, 10, impl.MaxMoney} {
		refuseShares(t, total, nil)
		refuseShares(t, total, []int{})
		refuseShares(t, total, []int{0})
		refuseShares(t, total, repeated(0, impl.MaxParts))
		refuseShares(t, total, repeated(1, impl.MaxParts+1))
		refuseShares(t, total, append(repeated(0, impl.MaxParts), 1))
		refuseShares(t, total, repeated(1, 100000))
		for _, w := range noFactors {
			refuseShares(t, total, []int{w})
			refuseShares(t, total, []int{w, 5})
			refuseShares(t, total, []int{5, 5, w})
		}
		refuseShares(t, total, []int{-3, 5})
		refuseShares(t, total, []int{5, -5})
		refuseShares(t, total, []int{math.MaxInt, math.MaxInt, 3})
	}
}

func TestSharesLeaveTheWeights(t *testing.T) {
	room := append([]int{3, 1, 2, 7, -1, math.MaxInt}, repeated(-5, 30)...)
	before := slices.Clone(room)
	for _, total := range []int{-100, 0, 100, impl.MaxMoney + 1} {
		got := impl.Shares(total, room[:4])
		if !slices.Equal(room, before) {
			t.Fatalf("Shares(%d) wrote into its weights or behind them: %v", total, room)
		}
		for i := range got {
			got[i] = 99
		}
		_ = append(got, 98)
		if !slices.Equal(room, before) {
			t.Fatalf("what Shares(%d) answers shares memory with its weights", total)
		}
	}
}

func TestSharesAreNewEachTime(t *testing.T) {
	weights := []int{1, 1, 1}
	first := impl.Shares(100, weights)
	second := impl.Shares(-100, weights)
	if !slices.Equal(first, []int{34, 33, 33}) || !slices.Equal(second, []int{-34, -33, -33}) {
		t.Error("one call wrote into what another answered", first, second)
	}
}
