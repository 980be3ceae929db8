package tests

import (
	"math"
	"math/rand"
	"slices"
	"strconv"
	"strings"
	"testing"

	"loop.example/g00040/impl"
)

var noKinds = []int{math.MinInt, -1, 0, 6, 7, math.MaxInt}

func checkChartOk(t *testing.T, chart []impl.Account, want bool) {
	t.Helper()
	if got := impl.ChartOk(chart); got != want {
		t.Errorf("ChartOk(%d accounts) = %v; want %v: %v", len(chart), got, want, chart[:min(20, len(chart))])
	}
}

// refuseChart asks every function of the chapter for its answer to a chart that is not right.
func refuseChart(t *testing.T, chart []impl.Account) {
	t.Helper()
	checkChartOk(t, chart, false)
	for _, a := range chart {
		checkFind(t, chart, a.Code, -1)
	}
	for at := -2; at <= len(chart)+1; at++ {
		checkLeaf(t, chart, at, false)
		if got := impl.Under(chart, at); len(got) != 0 {
			t.Errorf("Under(%v, %d) = %v; want nothing", chart, at, got)
		}
	}
	if got := impl.Roll(chart, make([]int, len(chart))); len(got) != 0 {
		t.Errorf("Roll(%v) = %v; want nothing", chart, got)
	}
	if got := impl.ShowChart(chart); got != "" {
		t.Errorf("ShowChart(%v) = %q; want nothing", chart, got)
	}
}

func checkFind(t *testing.T, chart []impl.Account, code string, want int) {
	t.Helper()
	if got := impl.FindAccount(chart, code); got != want {
		t.Errorf("FindAccount(%d accounts, %q) = %d; want %d", len(chart), code, got, want)
	}
}

func checkLeaf(t *testing.T, chart []impl.Account, at int, want bool) {
	t.Helper()
	if got := impl.Leaf(chart, at); got != want {
		t.Errorf("Leaf(%d accounts, %d) = %v; want %v", len(chart), at, got, want)
	}
}

// assets makes a chart from the Parents alone.
func assets(parents ...int) []impl.Account {
	chart := make([]impl.Account, len(parents))
	for i, p := range parents {
		chart[i] = impl.Account{Code: "a" + strconv.Itoa(i), Parent: p, Kind: impl.Asset}
	}
	return chart
}

// Each account is part of the one just ahead.
func deepChart(count int) []impl.Account {
	parents := make([]int, count)
	for i := range parents {
		parents[i] = i - 1
	}
	return assets(parents...)
}

// A chart of every kind; the kinds' parts go three deep.
func wideChart(count int) []impl.Account {
	chart := make([]impl.Account, count)
	for i := range chart {
		top := i - i%6
		parent := [6]int{-1, top, top + 1, top + 1, top, top + 4}[i%6]
		chart[i] = impl.Account{Code: "c." + strconv.Itoa(i), Parent: parent, Kind: 1 + i/6%5}
	}
	return chart
}

func handChart() []impl.Account {
	return []impl.Account{
		{Code: "1", Parent: -1, Kind: impl.Asset},
		{Code: "cash", Parent: 0, Kind: impl.Asset},
		{Code: "till_1", Parent: 1, Kind: impl.Asset},
		{Code: "till_2", Parent: 1, Kind: impl.Asset},
		{Code: "stock", Parent: 0, Kind: impl.Asset},
		{Code: "2", Parent: -1, Kind: impl.Liability},
		{Code: "Owed", Parent: 5, Kind: impl.Liability},
		{Code: "own", Parent: -1, Kind: impl.Equity},
		{Code: "sales", Parent: -1, Kind: impl.Income},
		{Code: "9.9", Parent: -1, Kind: impl.Expense},
		{Code: "-", Parent: 9, Kind: impl.Expense},
		{Code: "9.9.1", Parent: 10, Kind: impl.Expense},
		{Code: "9.9.2", Parent: 9, Kind: impl.Expense},
	}
}

const handText = `1 A
  cash A
    till_1 A
    till_2 A
  stock A
2 L
  Owed L
own E
sales I
9.9 X
  - X
    9.9.1 X
  9.9.2 X
`

func someChart(chance *rand.Rand, count int) []impl.Account {
	chart := []impl.Account{}
	for i := range count {
		above := []int{-1}
		if i > 0 {
			above = append(above, wayUp(chart, i-1)...)
		}
		if len(above) > impl.MaxDepth+1 {
			above = slices.DeleteFunc(above, func(p int) bool { return p == i-1 })
		}
		a := impl.Account{Code: "x" + strconv.Itoa(i*7919%1000), Parent: above[chance.Intn(len(above))], Kind: 1 + chance.Intn(5)}
		if a.Parent >= 0 {
			a.Kind = chart[a.Parent].Kind
		}
		chart = append(chart, a)
	}
	return chart
}

// The account and all that it is part of; the chart must be right so far.
func wayUp(chart []impl.Account, at int) []int {
	way := []int{}
	for ; at >= 0; at = chart[at].Parent {
		way = append(way, at)
	}
	return way
}

// The rule is asked as the document's brackets say it: all that stands between an account and a part of it is part of it too.
func wantChartOk(chart []impl.Account) bool {
	if len(chart) < 1 || len(chart) > impl.MaxAccounts {
		return false
	}
	codes := map[string]bool{}
	for i, a := range chart {
		if codes[a.Code] || !impl.NameOk(a.Code) || a.Kind < 1 || a.Kind > 5 || a.Parent < -1 || a.Parent >= i {
			return false
		}
		codes[a.Code] = true
		if a.Parent >= 0 && chart[a.Parent].Kind != a.Kind || len(wayUp(chart, i)) > impl.MaxDepth+1 {
			return false
		}
		for between := a.Parent + 1; a.Parent >= 0 && between < i; between++ {
			if !slices.Contains(wayUp(chart, between), a.Parent) {
				return false
			}
		}
	}
	return true
}

func TestKindsAreNumberedFromOne(t *testing.T) {
	got := [5]int{impl.Asset, impl.Liability, impl.Equity, impl.Income, impl.Expense}
	if got != [5]int{1, 2, 3, 4, 5} || impl.MaxAccounts != 120 || impl.MaxDepth != 8 || impl.MaxTotal != power10(15) {
		t.Error(got)
	}
}

func TestHowManyAccountsThereMayBe(t *testing.T) {
	refuseChart(t, nil)
	refuseChart(t, []impl.Account{})
	for count := 1; count <= impl.MaxAccounts; count++ {
		checkChartOk(t, wideChart(count), true)
		checkChartOk(t, wideChart(impl.MaxAccounts + 5)[:count], true)
	}
	for _, count := range []int{impl.MaxAccounts + 1, impl.MaxAccounts + 2, 1000} {
		refuseChart(t, wideChart(count))
	}
	checkChartOk(t, wideChart(100000), false)
}

func TestCodeOfAnAccount(t *testing.T) {
	for at := range handChart() {
		for _, code := range []string{"z", "Z", "0", "_", ".", "..", "CASH", strings.Repeat("q", impl.MaxName)} {
			chart := handChart()
			chart[at].Code = code
			checkChartOk(t, chart, true)
			checkFind(t, chart, code, at)
		}
		for _, code := range noNames {
			chart := handChart()
			chart[at].Code = code
			refuseChart(t, chart)
		}
	}
}

func TestNoAccountsCodeTwice(t *testing.T) {
	base := handChart()
	for i := range base {
		for k := range i {
			chart := handChart()
			chart[i].Code = base[k].Code
			refuseChart(t, chart)
		}
	}
	last := wideChart(impl.MaxAccounts)
	last[impl.MaxAccounts-1].Code = last[0].Code
	refuseChart(t, last)
}

func TestKindOfAnAccount(t *testing.T) {
	for kind := impl.Asset; kind <= impl.Expense; kind++ {
		checkChartOk(t, []impl.Account{{Code: "a", Parent: -1, Kind: kind}}, true)
		checkChartOk(t, []impl.Account{{Code: "a", Parent: -1, Kind: kind}, {Code: "b", Parent: 0, Kind: kind}, {Code: "c", Parent: 1, Kind: kind}}, true)
	}
	for _, kind := range noKinds {
		refuseChart(t, []impl.Account{{Code: "a", Parent: -1, Kind: kind}})
		refuseChart(t, []impl.Account{{Code: "a", Parent: -1, Kind: kind}, {Code: "b", Parent: 0, Kind: kind}})
		for at := range handChart() {
			chart := handChart()
			chart[at].Kind = kind
			refuseChart(t, chart)
		}
	}
}

func TestParentHasTheSameKind(t *testing.T) {
	for above := impl.Asset; above <= impl.Expense; above++ {
		for kind := impl.Asset; kind <= impl.Expense; kind++ {
			chart := []impl.Account{{Code: "a", Parent: -1, Kind: above}, {Code: "b", Parent: -1, Kind: kind}}
			checkChartOk(t, chart, true)
			chart[1].Parent = 0
			checkChartOk(t, chart, above == kind)
			deep := []impl.Account{{Code: "a", Parent: -1, Kind: above}, {Code: "b", Parent: 0, Kind: above}, {Code: "c", Parent: 0, Kind: kind}}
			checkChartOk(t, deep, above == kind)
			deep[2].Parent = 1
			checkChartOk(t, deep, above == kind)
		}
	}
	refuseChart(t, []impl.Account{{Code: "a", Parent: -1, Kind: impl.Asset}, {Code: "b", Parent: 0, Kind: impl.Expense}})
}

func TestParentsByHand(t *testing.T) {
	rows := []struct {
		name    string
		parents []int
		want    bool
	}{
		{"part of none", []int{-1}, true},
		{"all part of none", []int{-1, -1, -1}, true},
		{"of the one just ahead", []int{-1, 0, 1}, true},
		{"of what the one ahead is part of", []int{-1, 0, 0}, true},
		{"of what the one ahead is part of by another", []int{-1, 0, 1, 0}, true},
		{"of what the one ahead is part of by two others", []int{-1, 0, 1, 2, 0}, true},
		{"of none behind a deep one", []int{-1, 0, 1, -1, 3}, true},
		{"a gap: of the sister of the one ahead", []int{-1, 0, 0, 1}, false},
		{"a gap: of a tree that is over", []int{-1, -1, 0}, false},
		{"a gap: of a part in a tree that is over", []int{-1, 0, -1, 1}, false},
		{"a gap behind two", []int{-1, 0, 1, 0, 2}, false},
		{"of itself", []int{0}, false},
		{"of itself, behind another", []int{-1, 1}, false},
		{"of one that stands behind", []int{-1, 2, -1}, false},
		{"of one that stands behind, the first", []int{1, -1}, false},
		{"of one another", []int{1, 0}, false},
		{"of the last place", []int{-1, 2, 0}, false},
		{"beyond the last place", []int{-1, 2}, false},
		{"far beyond the last place", []int{-1, math.MaxInt}, false},
		{"below -1", []int{-2}, false},
		{"below -1, behind another", []int{-1, -2}, false},
		{"far below -1", []int{-1, math.MinInt}, false},
	}
	for _, r := range rows {
		chart := assets(r.parents...)
		if got := impl.ChartOk(chart); got != r.want || got != wantChartOk(chart) {
			t.Errorf("%s: ChartOk is %v", r.name, got)
		}
		if !r.want {
			refuseChart(t, chart)
		}
	}
}

func TestEveryFiveParents(t *testing.T) {
	for code := range 7 * 7 * 7 * 7 * 7 {
		parents := []int{}
		for rest := code; len(parents) < 5; rest /= 7 {
			parents = append(parents, rest%7-2)
		}
		chart := assets(parents...)
		checkChartOk(t, chart, wantChartOk(chart))
		chart[4].Kind = impl.Income
		checkChartOk(t, chart, wantChartOk(chart))
	}
}

func TestDepthOfAnAccount(t *testing.T) {
	for count := 1; count <= impl.MaxDepth+1; count++ {
		checkChartOk(t, deepChart(count), true)
	}
	for count := impl.MaxDepth + 2; count <= impl.MaxDepth+6; count++ {
		refuseChart(t, deepChart(count))
	}
	// Behind the deepest one another stands as deep, then less deep, and never deeper.
	deepest := make([]int, impl.MaxDepth+2)
	for i := range deepest {
		deepest[i] = min(i-1, impl.MaxDepth-1)
	}
	checkChartOk(t, assets(deepest...), true)
	refuseChart(t, assets(append(deepest, impl.MaxDepth+1)...))
	checkChartOk(t, assets(append(deepest, 0, impl.MaxDepth+2)...), true)
}

func TestChartsSpoiltInOneNumber(t *testing.T) {
	chance := rand.New(rand.NewSource(4))
	for range 400 {
		chart := someChart(chance, 1+chance.Intn(30))
		checkChartOk(t, chart, true)
		at := chance.Intn(len(chart))
		switch chance.Intn(4) {
		case 0:
			chart[at].Kind = chance.Intn(7)
		case 1:
			chart[at].Code = chart[chance.Intn(len(chart))].Code
		default:
			chart[at].Parent = chance.Intn(len(chart)+2) - 2
		}
		if !wantChartOk(chart) {
			refuseChart(t, chart)
		} else {
			checkChartOk(t, chart, true)
		}
	}
}

func TestFindAccount(t *testing.T) {
	for _, chart := range [][]impl.Account{handChart(), wideChart(impl.MaxAccounts), deepChart(impl.MaxDepth + 1), assets(-1)} {
		for i, a := range chart {
			checkFind(t, chart, a.Code, i)
			checkFind(t, chart, a.Code+"x", -1)
			checkFind(t, chart, " "+a.Code, -1)
		}
		for _, code := range append(noNames, "nowhere", "A0", "CASH") {
			checkFind(t, chart, code, -1)
		}
	}
}

func TestLeafByHand(t *testing.T) {
	chart := handChart()
	leaves := []int{2, 3, 4, 6, 7, 8, 11, 12}
	for at := -3; at <= len(chart)+3; at++ {
		checkLeaf(t, chart, at, slices.Contains(leaves, at))
	}
	for _, at := range []int{math.MinInt, math.MinInt + 1, -impl.MaxAccounts, impl.MaxAccounts, math.MaxInt} {
		checkLeaf(t, chart, at, false)
	}
	checkLeaf(t, assets(-1), 0, true)
	checkLeaf(t, assets(-1), -1, false)
	checkLeaf(t, assets(-1), 1, false)
	checkLeaf(t, deepChart(impl.MaxDepth+1), impl.MaxDepth, true)
	checkLeaf(t, deepChart(impl.MaxDepth+1), impl.MaxDepth-1, false)
}

func TestLeafOfEveryAccount(t *testing.T) {
	chance := rand.New(rand.NewSource(5))
	for range 60 {
		chart := someChart(chance, 1+chance.Intn(impl.MaxAccounts))
		for at := -1; at <= len(chart); at++ {
			whole := slices.ContainsFunc(chart, func(a impl.Account) bool { return a.Parent == at })
			checkLeaf(t, chart, at, 0 <= at && at < len(chart) && !whole)
		}
	}
}

func TestChartsAreNeitherWrittenNorReadBehind(t *testing.T) {
	room := handChart()
	room = append(room, impl.Account{Code: "behind", Parent: 12, Kind: impl.Expense}, impl.Account{Code: "1", Parent: 99})
	kept := slices.Clone(room)
	chart := room[:13]
	checkChartOk(t, chart, true)
	checkFind(t, chart, "behind", -1)
	checkLeaf(t, chart, 12, true)
	checkLeaf(t, chart, 13, false)
	impl.Under(chart, 9)
	impl.Roll(chart, make([]int, 13))
	if got := impl.ShowChart(chart); got != handText {
		t.Errorf("ShowChart reads behind the chart: %q", got)
	}
	checkChartOk(t, room[:14], true)
	checkChartOk(t, room, false)
	if !slices.Equal(room, kept) {
		t.Errorf("the chart was written to: %v", room)
	}
}
