package tests

import (
	"math"
	"math/big"
	"math/rand"
	"slices"
	"testing"

	"loop.example/g00040/impl"
)

var allModes = []int{impl.Down, impl.Up, impl.Half, impl.Even, impl.Floor, impl.Ceil}

var noModes = []int{math.MinInt, -impl.Half, -1, 0, impl.Ceil + 1, impl.Ceil + 2, math.MaxInt}

var noAmounts = []int{math.MinInt, -impl.MaxMoney * impl.MaxFactor, -impl.MaxMoney - 1, impl.MaxMoney + 1, impl.MaxMoney * impl.MaxFactor, math.MaxInt}

var noFactors = []int{math.MinInt, -impl.MaxFactor, -1, impl.MaxFactor + 1, math.MaxInt}

var noDivisors = append([]int{0}, noFactors...)

func amount(n int) bool { return n >= -impl.MaxMoney && n <= impl.MaxMoney }

// rounded takes the two whole numbers around n by den and chooses between them as the document names the modes, so it shares no step with the program.
func rounded(n, den *big.Int, mode int) int {
	low, rest := new(big.Int).DivMod(n, den, new(big.Int))
	high := new(big.Int).Set(low)
	if rest.Sign() != 0 {
		high.Add(high, big.NewInt(1))
	}
	nearZero, farZero := low, high
	if n.Sign() < 0 {
		nearZero, farZero = high, low
	}
	twice := new(big.Int).Lsh(rest, 1).Cmp(den)
	pick := low
	switch mode {
	case impl.Down:
		pick = nearZero
	case impl.Up:
		pick = farZero
	case impl.Ceil:
		pick = high
	case impl.Half, impl.Even:
		switch {
		case twice > 0:
			pick = high
		case twice == 0 && mode == impl.Half:
			pick = farZero
		case twice == 0 && low.Bit(0) == 1:
			pick = high
		}
	}
	return int(pick.Int64())
}

func wantMulDiv(a, num, den, mode int) int {
	product := new(big.Int).Mul(big.NewInt(int64(a)), big.NewInt(int64(num)))
	return rounded(product, big.NewInt(int64(den)), mode)
}

func checkMulDiv(t *testing.T, a, num, den, mode int) {
	t.Helper()
	want, wantOk := wantMulDiv(a, num, den, mode), true
	if !amount(want) {
		want, wantOk = 0, false
	}
	if got, ok := impl.MulDiv(a, num, den, mode); got != want || ok != wantOk {
		t.Errorf("MulDiv(%d, %d, %d, %d) = %d, %v; want %d, %v", a, num, den, mode, got, ok, want, wantOk)
	}
}

func checkRoundTo(t *testing.T, a, step, mode int) {
	t.Helper()
	want, wantOk := wantMulDiv(a, 1, step, mode)*step, true
	if !amount(want) {
		want, wantOk = 0, false
	}
	if got, ok := impl.RoundTo(a, step, mode); got != want || ok != wantOk {
		t.Errorf("RoundTo(%d, %d, %d) = %d, %v; want %d, %v", a, step, mode, got, ok, want, wantOk)
	}
}

func refuseMulDiv(t *testing.T, a, num, den, mode int) {
	t.Helper()
	if got, ok := impl.MulDiv(a, num, den, mode); got != 0 || ok {
		t.Errorf("MulDiv(%d, %d, %d, %d) = %d, %v; want 0, false", a, num, den, mode, got, ok)
	}
}

func refuseRoundTo(t *testing.T, a, step, mode int) {
	t.Helper()
	if got, ok := impl.RoundTo(a, step, mode); got != 0 || ok {
		t.Errorf("RoundTo(%d, %d, %d) = %d, %v; want 0, false", a, step, mode, got, ok)
	}
}

func TestModesAreNumberedFromOne(t *testing.T) {
	for i, m := range allModes {
		if m != i+1 {
			t.Errorf("mode at place %d is %d", i, m)
		}
	}
}

// Written out by hand: whole, beside a half on either side, at a half with an even and an odd neighbour below it.
func TestModesByHand(t *testing.T) {
	rows := []struct {
		a    int
		want [6]int // of a by 4, in the order of allModes
	}{
		{-12, [6]int{-3, -3, -3, -3, -3, -3}},
		{-11, [6]int{-2, -3, -3, -3, -3, -2}},
		{-10, [6]int{-2, -3, -3, -2, -3, -2}},
		{-9, [6]int{-2, -3, -2, -2, -3, -2}},
		{-6, [6]int{-1, -2, -2, -2, -2, -1}},
		{-3, [6]int{0, -1, -1, -1, -1, 0}},
		{-2, [6]int{0, -1, -1, 0, -1, 0}},
		{-1, [6]int{0, -1, 0, 0, -1, 0}},
		{0, [6]int{0, 0, 0, 0, 0, 0}},
		{1, [6]int{0, 1, 0, 0, 0, 1}},
		{2, [6]int{0, 1, 1, 0, 0, 1}},
		{3, [6]int{0, 1, 1, 1, 0, 1}},
		{6, [6]int{1, 2, 2, 2, 1, 2}},
		{9, [6]int{2, 3, 2, 2, 2, 3}},
		{10, [6]int{2, 3, 3, 2, 2, 3}},
		{11, [6]int{2, 3, 3, 3, 2, 3}},
		{12, [6]int{3, 3, 3, 3, 3, 3}},
	}
	for _, r := range rows {
		for i, m := range allModes {
			if got, ok := impl.MulDiv(r.a, 1, 4, m); !ok || got != r.want[i] {
				t.Errorf("MulDiv(%d, 1, 4, %d) = %d, %v; want %d", r.a, m, got, ok, r.want[i])
			}
			if got, ok := impl.RoundTo(r.a, 4, m); !ok || got != 4*r.want[i] {
				t.Errorf("RoundTo(%d, 4, %d) = %d, %v; want %d", r.a, m, got, ok, 4*r.want[i])
			}
		}
	}
}

func TestMulDivOfSmallNumbers(t *testing.T) {
	for _, m := range allModes {
		for a := -40; a <= 40; a++ {
			for num := 0; num <= 7; num++ {
				for den := 1; den <= 12; den++ {
					checkMulDiv(t, a, num, den, m)
				}
			}
			for step := 1; step <= 12; step++ {
				checkRoundTo(t, a, step, m)
			}
		}
	}
}

func TestMulDivOfGreatNumbers(t *testing.T) {
	r := rand.New(rand.NewSource(1))
	for range 20000 {
		a := r.Intn(2*impl.MaxMoney+1) - impl.MaxMoney
		num := r.Intn(impl.MaxFactor + 1)
		den := 1 + r.Intn(impl.MaxFactor)
		for _, m := range allModes {
			checkMulDiv(t, a, num, den, m)
			checkRoundTo(t, a, den, m)
		}
	}
}

func TestMulDivAtItsLimits(t *testing.T) {
	amounts := []int{-impl.MaxMoney, -impl.MaxMoney + 1, -impl.MaxFactor, -1, 0, 1, impl.MaxFactor, impl.MaxMoney - 1, impl.MaxMoney}
	factors := []int{0, 1, 2, 3, impl.MaxFactor / 2, impl.MaxFactor - 1, impl.MaxFactor}
	for _, m := range allModes {
		for _, a := range amounts {
			for _, den := range factors[1:] {
				for _, num := range factors {
					checkMulDiv(t, a, num, den, m)
				}
				checkRoundTo(t, a, den, m)
			}
		}
	}
}

func TestMulDivOutcomeAtTheGreatestAmount(t *testing.T) {
	for _, sign := range []int{-1, 1} {
		for _, m := range allModes {
			for _, past := range []int{-2, -1, 0, 1, 2, 3, 4, 5} {
				checkMulDiv(t, sign*(impl.MaxMoney/4+past), 4, 1, m)
				checkMulDiv(t, sign*(impl.MaxMoney/2+past), 4, 2, m)
				checkMulDiv(t, sign*(impl.MaxMoney/10+past), 11, 1, m)
				checkMulDiv(t, sign*(impl.MaxMoney/5*4+past), 5, 4, m)
				checkMulDiv(t, sign*(impl.MaxMoney/7*6+past), 7, 6, m)
			}
		}
	}
	if got, ok := impl.MulDiv(impl.MaxMoney, impl.MaxFactor, impl.MaxFactor, impl.Up); !ok || got != impl.MaxMoney {
		t.Error("the greatest amount itself", got, ok)
	}
	if got, ok := impl.MulDiv(-impl.MaxMoney, impl.MaxFactor, impl.MaxFactor, impl.Floor); !ok || got != -impl.MaxMoney {
		t.Error("the least amount itself", got, ok)
	}
	refuseMulDiv(t, impl.MaxMoney, impl.MaxFactor, 1, impl.Down)
	refuseMulDiv(t, -impl.MaxMoney, impl.MaxFactor, 1, impl.Down)
}

// 66666666667 by 3 by 2 is a half past the greatest amount, 99999990000 by 9999999 by 9999998 far less than a half: only the modes that come back to it answer.
func TestMulDivOutcomeRoundedAtTheGreatestAmount(t *testing.T) {
	rows := []struct {
		a, num, den int
		above       []int // the modes that answer above 0
		below       []int
	}{
		{66666666667, 3, 2, []int{impl.Down, impl.Even, impl.Floor}, []int{impl.Down, impl.Even, impl.Ceil}},
		{99999990000, 9999999, 9999998, []int{impl.Down, impl.Half, impl.Even, impl.Floor}, []int{impl.Down, impl.Half, impl.Even, impl.Ceil}},
	}
	for _, r := range rows {
		for _, m := range allModes {
			takeOrRefuse(t, r.a, r.num, r.den, m, slices.Contains(r.above, m), impl.MaxMoney)
			takeOrRefuse(t, -r.a, r.num, r.den, m, slices.Contains(r.below, m), -impl.MaxMoney)
			checkMulDiv(t, r.a, r.num, r.den, m)
			checkMulDiv(t, -r.a, r.num, r.den, m)
		}
	}
}

func takeOrRefuse(t *testing.T, a, num, den, mode int, takes bool, want int) {
	t.Helper()
	if !takes {
		refuseMulDiv(t, a, num, den, mode)
	} else if got, ok := impl.MulDiv(a, num, den, mode); !ok || got != want {
		t.Errorf("MulDiv(%d, %d, %d, %d) = %d, %v; want %d", a, num, den, mode, got, ok, want)
	}
}

func TestRoundToOutcomeAtTheGreatestAmount(t *testing.T) {
	for _, m := range []int{impl.Up, impl.Ceil} {
		refuseRoundTo(t, impl.MaxMoney, 3, m)
		refuseRoundTo(t, impl.MaxMoney, impl.MaxFactor-1, m)
	}
	for _, m := range []int{impl.Up, impl.Floor} {
		refuseRoundTo(t, -impl.MaxMoney, 3, m)
		refuseRoundTo(t, -impl.MaxMoney, impl.MaxFactor-1, m)
	}
	for _, m := range allModes {
		for _, a := range []int{-impl.MaxMoney, impl.MaxMoney} {
			for _, step := range []int{1, 2, impl.MaxFactor} {
				if got, ok := impl.RoundTo(a, step, m); !ok || got != a {
					t.Error("a whole multiple", a, step, m, got, ok)
				}
			}
			for _, past := range []int{0, 1, 2, 3, 4, 5, 6} {
				checkRoundTo(t, a-a/impl.MaxMoney*past, 7, m)
				checkRoundTo(t, a-a/impl.MaxMoney*past, 3, m)
			}
		}
	}
}

func TestMulDivRefuses(t *testing.T) {
	for _, m := range allModes {
		for _, a := range noAmounts {
			refuseMulDiv(t, a, 1, 1, m)
			refuseMulDiv(t, a, 0, 1, m)
			refuseMulDiv(t, a, 1, impl.MaxFactor, m)
			refuseRoundTo(t, a, 1, m)
			refuseRoundTo(t, a, impl.MaxFactor, m)
		}
		for _, num := range noFactors {
			refuseMulDiv(t, 1, num, 1, m)
			refuseMulDiv(t, 0, num, 1, m)
			refuseMulDiv(t, -1, num, impl.MaxFactor, m)
		}
		for _, den := range noDivisors {
			refuseMulDiv(t, 1, 1, den, m)
			refuseMulDiv(t, 0, 0, den, m)
			refuseMulDiv(t, impl.MaxMoney, impl.MaxFactor, den, m)
			refuseRoundTo(t, 1, den, m)
			refuseRoundTo(t, 0, den, m)
		}
	}
	for _, m := range noModes {
		refuseMulDiv(t, 1, 1, 1, m)
		refuseMulDiv(t, 0, 0, 1, m)
		refuseMulDiv(t, 7, 1, 2, m)
		refuseRoundTo(t, 6, 3, m)
		refuseRoundTo(t, 0, 1, m)
	}
}

func TestMulDivRefusesAllWrongAtOnce(t *testing.T) {
	for _, m := range noModes {
		for _, a := range noAmounts {
			for _, den := range noDivisors {
				for _, num := range noFactors {
					refuseMulDiv(t, a, num, den, m)
				}
				refuseRoundTo(t, a, den, m)
			}
		}
	}
}
