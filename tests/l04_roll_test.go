package tests

import (
	"math"
	"math/rand"
	"slices"
	"testing"

	"loop.example/g00040/impl"
)

func checkUnder(t *testing.T, chart []impl.Account, at int, want ...int) {
	t.Helper()
	if got := impl.Under(chart, at); !slices.Equal(got, want) {
		t.Errorf("Under(%d accounts, %d) = %v; want %v", len(chart), at, got, want)
	}
}

func checkRoll(t *testing.T, chart []impl.Account, list []int, want ...int) {
	t.Helper()
	if got := impl.Roll(chart, list); !slices.Equal(got, want) {
		t.Errorf("Roll(%d accounts, %v) = %v; want %v", len(chart), list, got, want)
	}
}

// The places whose way up passes by at.
func wantUnder(chart []impl.Account, at int) []int {
	under := []int{}
	for i := range chart {
		if slices.Contains(wayUp(chart, i), at) {
			under = append(under, i)
		}
	}
	return under
}

// Each number is handed on to all that its account is part of.
func wantRoll(chart []impl.Account, list []int) []int {
	rolled := make([]int, len(chart))
	for i, n := range list {
		for _, at := range wayUp(chart, i) {
			rolled[at] += n
		}
	}
	return rolled
}

// checkRollPromise asks P11 of the answers alone.
func checkRollPromise(t *testing.T, chart []impl.Account, list []int) {
	t.Helper()
	rolled := impl.Roll(chart, list)
	if len(rolled) != len(chart) {
		t.Fatalf("Roll tells %d numbers of %d accounts", len(rolled), len(chart))
	}
	tops := 0
	for at, a := range chart {
		under := 0
		for _, part := range impl.Under(chart, at) {
			under += list[part]
		}
		if rolled[at] != under {
			t.Errorf("Roll tells %d of account %d; Under has %d", rolled[at], at, under)
		}
		if a.Parent == -1 {
			tops += rolled[at]
		}
	}
	if tops != sumOf(list) {
		t.Errorf("those without a Parent have %d of %d", tops, sumOf(list))
	}
}

func someTotals(chance *rand.Rand, count int) []int {
	list := make([]int, count)
	for i := range list {
		switch chance.Intn(5) {
		case 0:
			list[i] = impl.MaxTotal - chance.Intn(2)
		case 1:
			list[i] = chance.Intn(2) - impl.MaxTotal
		case 2:
			list[i] = chance.Intn(5) - 2
		default:
			list[i] = chance.Intn(2*impl.MaxTotal+1) - impl.MaxTotal
		}
	}
	return list
}

func TestUnderByHand(t *testing.T) {
	chart := handChart()
	checkUnder(t, chart, 0, 0, 1, 2, 3, 4)
	checkUnder(t, chart, 1, 1, 2, 3)
	checkUnder(t, chart, 2, 2)
	checkUnder(t, chart, 3, 3)
	checkUnder(t, chart, 4, 4)
	checkUnder(t, chart, 5, 5, 6)
	checkUnder(t, chart, 7, 7)
	checkUnder(t, chart, 8, 8)
	checkUnder(t, chart, 9, 9, 10, 11, 12)
	checkUnder(t, chart, 10, 10, 11)
	checkUnder(t, chart, 12, 12)
	for _, at := range []int{math.MinInt, -2, -1, 13, 14, impl.MaxAccounts, math.MaxInt} {
		checkUnder(t, chart, at)
	}
	checkUnder(t, deepChart(impl.MaxDepth+1), 0, 0, 1, 2, 3, 4, 5, 6, 7, 8)
	checkUnder(t, deepChart(impl.MaxDepth+1), 6, 6, 7, 8)
	checkUnder(t, assets(-1), 0, 0)
	checkUnder(t, assets(-1), -1)
	checkUnder(t, assets(-1), 1)
}

func TestUnderOfManyCharts(t *testing.T) {
	chance := rand.New(rand.NewSource(8))
	for range 60 {
		chart := someChart(chance, 1+chance.Intn(impl.MaxAccounts))
		for at := range chart {
			checkUnder(t, chart, at, wantUnder(chart, at)...)
		}
		checkUnder(t, chart, -1)
		checkUnder(t, chart, len(chart))
	}
}

func TestUnderOfWrongCharts(t *testing.T) {
	for _, parents := range [][]int{{-1, 0, 0, 1}, {-1, 1}, {-2}, {-1, 3, 0}} {
		for at := range parents {
			checkUnder(t, assets(parents...), at)
		}
	}
	checkUnder(t, nil, 0)
	checkUnder(t, wideChart(impl.MaxAccounts+1), 0)
	checkUnder(t, deepChart(impl.MaxDepth+2), 0)
}

func TestRollByHand(t *testing.T) {
	list := []int{1, 20, 300, 4000, -5, 7, 0, -30, 11, 0, 2, 5, -9}
	checkRoll(t, handChart(), list, 4316, 4320, 300, 4000, -5, 7, 0, -30, 11, -2, 7, 5, -9)
	checkRoll(t, assets(-1), []int{5}, 5)
	checkRoll(t, assets(-1, -1), []int{5, -6}, 5, -6)
	checkRoll(t, deepChart(4), []int{1, 10, 100, 1000}, 1111, 1110, 1100, 1000)
}

func TestRollIsTheSumOverUnder(t *testing.T) {
	chance := rand.New(rand.NewSource(9))
	for range 300 {
		chart := someChart(chance, 1+chance.Intn(impl.MaxAccounts))
		list := someTotals(chance, len(chart))
		checkRoll(t, chart, list, wantRoll(chart, list)...)
		checkRollPromise(t, chart, list)
	}
	for count := 1; count <= impl.MaxAccounts; count++ {
		checkRollPromise(t, wideChart(count), someTotals(chance, count))
	}
}

func TestLengthOfWhatIsRolled(t *testing.T) {
	for _, chart := range [][]impl.Account{assets(-1), handChart(), wideChart(impl.MaxAccounts)} {
		checkRoll(t, chart, make([]int, len(chart)), make([]int, len(chart))...)
		for _, length := range []int{0, len(chart) - 1, len(chart) + 1, 2 * len(chart), 1000} {
			checkRoll(t, chart, make([]int, length))
		}
		checkRoll(t, chart, nil)
	}
	checkRoll(t, nil, nil)
	checkRoll(t, nil, []int{0})
}

func TestNumbersThatAreRolled(t *testing.T) {
	for at := range handChart() {
		for _, n := range []int{-impl.MaxTotal, 1 - impl.MaxTotal, impl.MaxTotal - 1, impl.MaxTotal} {
			list := make([]int, len(handChart()))
			list[at] = n
			checkRoll(t, handChart(), list, wantRoll(handChart(), list)...)
		}
		for _, n := range []int{math.MinInt, -impl.MaxTotal - 2, -impl.MaxTotal - 1, impl.MaxTotal + 1, impl.MaxTotal + 2, math.MaxInt} {
			list := make([]int, len(handChart()))
			list[at] = n
			checkRoll(t, handChart(), list)
		}
	}
	// What all of them come to may pass what each may be.
	for _, n := range []int{impl.MaxTotal, -impl.MaxTotal} {
		parents := make([]int, impl.MaxAccounts)
		parents[0] = -1
		list := repeated(n, impl.MaxAccounts)
		want := repeated(n, impl.MaxAccounts)
		want[0] = n * impl.MaxAccounts
		checkRoll(t, assets(parents...), list, want...)
	}
}

func TestRollOfWrongCharts(t *testing.T) {
	for _, parents := range [][]int{{-1, 0, 0, 1}, {-1, 1}, {-2}, {-1, 3, 0}, {0}} {
		checkRoll(t, assets(parents...), repeated(1, len(parents)))
	}
	checkRoll(t, wideChart(impl.MaxAccounts+1), repeated(1, impl.MaxAccounts+1))
	checkRoll(t, deepChart(impl.MaxDepth+2), repeated(1, impl.MaxDepth+2))
	twice := handChart()
	twice[7].Code = "cash"
	checkRoll(t, twice, repeated(1, len(twice)))
}

func TestRolledNumbersAreNewMemory(t *testing.T) {
	chart := handChart()
	room := []int{1, 2, 3, 4, 5, 6, 7, 8, 9, 10, 11, 12, 13, 777, 888}
	kept := slices.Clone(room)
	list := room[:13]
	first := impl.Roll(chart, list)
	second := impl.Roll(chart, list)
	for i := range first {
		first[i] = -1
	}
	first = append(first, -1, -1)
	if !slices.Equal(second, wantRoll(chart, kept[:13])) || !slices.Equal(room, kept) || !slices.Equal(chart, handChart()) {
		t.Errorf("Roll shares its memory: %v, %v, %v", first, second, room)
	}
	alone := impl.Roll(assets(-1), room[:1])
	alone[0] = 99
	if room[0] != 1 {
		t.Error("Roll answers its argument's memory")
	}
	under, again := impl.Under(chart, 0), impl.Under(chart, 0)
	under[0] = 99
	if again[0] != 0 || !slices.Equal(chart, handChart()) {
		t.Error("Under shares its memory")
	}
}

func TestNormalOfEachKind(t *testing.T) {
	want := map[int]int{impl.Asset: 1, impl.Liability: -1, impl.Equity: -1, impl.Income: -1, impl.Expense: 1}
	for kind := -20; kind <= 20; kind++ {
		if got := impl.Normal(kind); got != want[kind] {
			t.Errorf("Normal(%d) = %d; want %d", kind, got, want[kind])
		}
	}
	for _, kind := range noKinds {
		if got := impl.Normal(kind); got != 0 {
			t.Errorf("Normal(%d) = %d; want 0", kind, got)
		}
	}
}
