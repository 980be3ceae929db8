package tests

import (
	"math"
	"math/big"
	"math/rand"
	"slices"
	"strconv"
	"testing"

	"loop.example/g00040/impl"
)

// A report that is reckoned with numbers of any size; it is off once one of them leaves the totals or is not known.
type reckoning struct {
	accounts map[string]int
	rows     map[string]int
	off      bool
}

func (r *reckoning) within(n *big.Int) *big.Int {
	if n.CmpAbs(big.NewInt(impl.MaxTotal)) > 0 {
		r.off = true
	}
	return n
}

func (r *reckoning) known(numbers map[string]int, name string) *big.Int {
	n, ok := numbers[name]
	if !ok {
		r.off = true
	}
	return big.NewInt(int64(n))
}

// last reckons from the end what the last term and all that it takes come to, and answers the terms ahead of them.
func (r *reckoning) last(terms []impl.Term) (*big.Int, []impl.Term) {
	t, ahead := terms[len(terms)-1], terms[:len(terms)-1]
	num := big.NewInt(int64(t.Num))
	switch t.Kind {
	case impl.TermNum:
		return r.within(num), ahead
	case impl.TermRow:
		return r.within(r.known(r.rows, t.Name)), ahead
	case impl.TermAccount:
		return r.within(r.known(r.accounts, t.Name)), ahead
	}
	right, ahead := r.last(ahead)
	switch t.Kind {
	case impl.TermNeg:
		return new(big.Int).Neg(right), ahead
	case impl.TermMul:
		return r.within(new(big.Int).Mul(right, num)), ahead
	case impl.TermDiv:
		return nearestOf(right, num), ahead
	}
	left, ahead := r.last(ahead)
	if t.Kind == impl.TermSub {
		right = new(big.Int).Neg(right)
	}
	return r.within(new(big.Int).Add(left, right)), ahead
}

// Twice the size and once more the divisor, by twice the divisor, rounded down: a half goes away from 0.
func nearestOf(n, den *big.Int) *big.Int {
	size := new(big.Int).Abs(n)
	size.Add(size.Lsh(size, 1), den)
	size.Div(size, new(big.Int).Lsh(den, 1))
	if n.Sign() < 0 {
		size.Neg(size)
	}
	return size
}

func wantEval(rows []impl.Row, chart []impl.Account, list []int) ([]int, bool) {
	if _, ok := wantShowReport(rows); !ok || !wantChartOk(chart) || len(list) != len(chart) {
		return nil, false
	}
	r := &reckoning{accounts: map[string]int{}, rows: map[string]int{}}
	for i, n := range wantRoll(chart, list) {
		sign := map[int]int{impl.Asset: 1, impl.Expense: 1, impl.Liability: -1, impl.Equity: -1, impl.Income: -1}[chart[i].Kind]
		r.accounts[chart[i].Code] = sign * n
		r.off = r.off || list[i] < -impl.MaxTotal || list[i] > impl.MaxTotal
	}
	values := []int{}
	for _, row := range rows {
		n, _ := r.last(row.Terms)
		if r.off {
			return nil, false
		}
		values = append(values, int(n.Int64()))
		r.rows[row.Name] = int(n.Int64())
	}
	return values, !r.off
}

func checkEval(t *testing.T, rows []impl.Row, chart []impl.Account, list []int, want ...int) {
	t.Helper()
	got, ok := impl.EvalReport(rows, chart, list)
	if !ok || !slices.Equal(got, want) {
		t.Errorf("EvalReport(%v, %d accounts, %v) = %v, %v; want %v, true", rows, len(chart), list, got, ok, want)
	}
}

func refuseEval(t *testing.T, rows []impl.Row, chart []impl.Account, list []int) {
	t.Helper()
	if got, ok := impl.EvalReport(rows, chart, list); ok || len(got) != 0 {
		t.Errorf("EvalReport(%v, %d accounts, %v) = %v, %v; want nothing and false", rows, len(chart), list, got, ok)
	}
}

func evalAsWanted(t *testing.T, rows []impl.Row, chart []impl.Account, list []int) bool {
	t.Helper()
	want, ok := wantEval(rows, chart, list)
	if ok {
		checkEval(t, rows, chart, list, want...)
	} else {
		refuseEval(t, rows, chart, list)
	}
	return ok
}

// What an expression comes to where the asset `in` has that number.
func checkValue(t *testing.T, in int, want int, terms ...impl.Term) {
	t.Helper()
	chart := []impl.Account{{Code: "in", Parent: -1, Kind: impl.Asset}}
	rows := []impl.Row{rowOf("a", terms...)}
	checkEval(t, rows, chart, []int{in}, want)
	evalAsWanted(t, rows, chart, []int{in})
}

func refuseValue(t *testing.T, in int, terms ...impl.Term) {
	t.Helper()
	chart := []impl.Account{{Code: "in", Parent: -1, Kind: impl.Asset}}
	rows := []impl.Row{rowOf("a", terms...)}
	if !impl.ReportOk(rows) {
		t.Fatalf("%v are not right", rows)
	}
	refuseEval(t, rows, chart, []int{in})
	if _, ok := wantEval(rows, chart, []int{in}); ok {
		t.Errorf("%v of %d is reckoned", rows, in)
	}
	refuseEval(t, append([]impl.Row{rowOf("b", numTerm(1))}, rows...), chart, []int{in})
	refuseEval(t, append(rows, rowOf("b", numTerm(1))), chart, []int{in})
	refuseEval(t, append(rows, rowOf("b", rowTerm("a"), mulTerm(0))), chart, []int{in})
}

func handNumbers() []int { return []int{0, 5, 100, 20, 300, 0, -40, -200, -385, 0, 10, 150, 40} }

func TestEvalByHand(t *testing.T) {
	// Sales are 385; of expenses there are 200, of which 160 in `-`.
	checkEval(t, handRows(), handChart(), handNumbers(), 385, 40, 115, 228)
	checkEval(t, nil, handChart(), handNumbers())
	checkEval(t, []impl.Row{}, handChart(), handNumbers())
	checkEval(t, []impl.Row{rowOf("a", numTerm(7))}, handChart(), handNumbers(), 7)
	evalAsWanted(t, handRows(), handChart(), handNumbers())
}

// An account is told with all that is part of it, by its kind's sign.
func TestEvalOfEachAccount(t *testing.T) {
	want := []int{425, 125, 100, 20, 300, 40, 40, 200, 385, 200, 160, 150, 40}
	for i, a := range handChart() {
		checkEval(t, []impl.Row{rowOf("a", accountTerm(a.Code))}, handChart(), handNumbers(), want[i])
		checkEval(t, []impl.Row{rowOf("a", accountTerm(a.Code), negTerm)}, handChart(), handNumbers(), -want[i])
	}
	signs := map[int]int{impl.Asset: 1, impl.Liability: -1, impl.Equity: -1, impl.Income: -1, impl.Expense: 1}
	for kind, sign := range signs {
		chart := []impl.Account{{Code: "top", Parent: -1, Kind: kind}, {Code: "part", Parent: 0, Kind: kind}}
		for _, n := range []int{0, 1, -1, 1234, -impl.MaxTotal, impl.MaxTotal} {
			rows := []impl.Row{rowOf("a", accountTerm("part")), rowOf("b", accountTerm("top"))}
			checkEval(t, rows, chart, []int{0, n}, sign*n, sign*n)
			checkEval(t, rows, chart, []int{n, 0}, 0, sign*n)
			checkEval(t, rows, chart, []int{-n, n}, sign*n, 0)
		}
	}
}

func TestEvalOfAccountsThatAreNone(t *testing.T) {
	for _, code := range []string{"nowhere", "Cash", "cas", "cash.", "a"} {
		refuseEval(t, []impl.Row{rowOf("a", accountTerm(code))}, handChart(), handNumbers())
		refuseEval(t, []impl.Row{rowOf("a", accountTerm(code), mulTerm(0))}, handChart(), handNumbers())
		refuseEval(t, []impl.Row{rowOf("b", numTerm(1)), rowOf("a", accountTerm("cash"), accountTerm(code), addTerm)}, handChart(), handNumbers())
		refuseEval(t, append(handRows(), rowOf("a", accountTerm(code))), handChart(), handNumbers())
		refuseEval(t, append([]impl.Row{rowOf("a", accountTerm(code))}, handRows()...), handChart(), handNumbers())
	}
	// A row's name is no account's, even of a row above.
	refuseEval(t, []impl.Row{rowOf("b", numTerm(1)), rowOf("c", accountTerm("b"))}, handChart(), handNumbers())
	checkEval(t, []impl.Row{rowOf("cash", numTerm(1)), rowOf("c", accountTerm("cash")), rowOf("d", rowTerm("cash"))}, handChart(), handNumbers(), 1, 125, 1)
}

func TestEvalOfRowsAbove(t *testing.T) {
	rows := []impl.Row{
		rowOf("a", numTerm(3)),
		rowOf("b", rowTerm("a"), rowTerm("a"), addTerm),
		rowOf("c", rowTerm("b"), rowTerm("a"), subTerm, negTerm),
		rowOf("d", rowTerm("c"), mulTerm(100), rowTerm("b"), subTerm),
		rowOf("e", rowTerm("d"), divTerm(4), rowTerm("c"), addTerm),
	}
	checkEval(t, rows, handChart(), handNumbers(), 3, 6, -3, -306, -80)
	for count := range rows {
		checkEval(t, rows[:count], handChart(), handNumbers(), []int{3, 6, -3, -306, -80}[:count]...)
	}
}

func TestEvalOfEachOperator(t *testing.T) {
	in := accountTerm("in")
	for _, n := range []int{0, 1, -1, 7, -7, 1000003, -impl.MaxTotal / 2, impl.MaxTotal / 2} {
		checkValue(t, n, n, in)
		checkValue(t, n, -n, in, negTerm)
		checkValue(t, n, n, in, negTerm, negTerm)
		checkValue(t, n, n+5, in, numTerm(5), addTerm)
		checkValue(t, n, n-5, in, numTerm(5), subTerm)
		checkValue(t, n, 5-n, numTerm(5), in, subTerm)
		checkValue(t, n, 2*n, in, mulTerm(2))
		checkValue(t, n, 0, in, mulTerm(0))
		checkValue(t, n, n, in, mulTerm(1))
		checkValue(t, n, n, in, divTerm(1))
		checkValue(t, n, 0, in, in, subTerm)
		checkValue(t, n, n-12, in, numTerm(3), numTerm(7), addTerm, subTerm, numTerm(2), subTerm)
	}
	checkValue(t, 0, 6, numTerm(10), numTerm(5), numTerm(1), subTerm, subTerm)
	checkValue(t, 0, 4, numTerm(10), numTerm(5), subTerm, numTerm(1), subTerm)
	checkValue(t, 0, 16, numTerm(10), numTerm(3), mulTerm(2), addTerm)
	checkValue(t, 0, 26, numTerm(10), numTerm(3), addTerm, mulTerm(2))
	checkValue(t, 0, impl.MaxFactor, numTerm(impl.MaxFactor))
}

func TestEvalRoundsDivisions(t *testing.T) {
	in := accountTerm("in")
	for n, want := range map[int]int{0: 0, 1: 1, 2: 1, 3: 2, 4: 2, 5: 3, -1: -1, -2: -1, -3: -2, -4: -2, -5: -3} {
		checkValue(t, n, want, in, divTerm(2))
	}
	for n, want := range map[int]int{0: 0, 1: 0, 2: 1, 3: 1, 4: 1, 5: 2, -1: 0, -2: -1, -3: -1, -4: -1, -5: -2} {
		checkValue(t, n, want, in, divTerm(3))
	}
	for n, want := range map[int]int{1: 0, 2: 1, 5: 1, 6: 2, 7: 2, -1: 0, -2: -1, -5: -1, -6: -2, -7: -2} {
		checkValue(t, n, want, in, divTerm(4))
	}
	for _, den := range []int{1, 2, 3, 7, 10, 999, impl.MaxFactor - 1, impl.MaxFactor} {
		for _, times := range []int{0, 1, 2, 5, 1000, impl.MaxTotal/den - 1} {
			for off := -2; off <= 2; off++ {
				for _, half := range []int{0, den / 2} {
					n := min(times*den+half+off, impl.MaxTotal)
					evalAsWanted(t, []impl.Row{rowOf("a", in, divTerm(den)), rowOf("b", in, negTerm, divTerm(den))}, assetIn(), []int{n})
				}
			}
		}
	}
	checkValue(t, impl.MaxTotal, impl.MaxTotal/impl.MaxFactor, in, divTerm(impl.MaxFactor))
	checkValue(t, impl.MaxFactor/2, 1, in, divTerm(impl.MaxFactor))
	checkValue(t, impl.MaxFactor/2-1, 0, in, divTerm(impl.MaxFactor))
	checkValue(t, -impl.MaxFactor/2, -1, in, divTerm(impl.MaxFactor))
	// It is each division that is rounded, not what they come to.
	checkValue(t, 5, 6, in, divTerm(2), mulTerm(2))
	checkValue(t, 5, 5, in, mulTerm(2), divTerm(2))
	checkValue(t, 5, 2, in, divTerm(2), divTerm(2))
	checkValue(t, 5, 1, in, divTerm(4))
	checkValue(t, 1, 2, in, divTerm(2), in, divTerm(2), addTerm)
}

func assetIn() []impl.Account { return []impl.Account{{Code: "in", Parent: -1, Kind: impl.Asset}} }

func TestEvalAtTheTotals(t *testing.T) {
	in, one := accountTerm("in"), numTerm(1)
	for _, sign := range []int{1, -1} {
		most := sign * impl.MaxTotal
		away, back := addTerm, subTerm
		if sign < 0 {
			away, back = subTerm, addTerm
		}
		checkValue(t, most, most, in)
		checkValue(t, most, -most, in, negTerm)
		checkValue(t, most, most, in, mulTerm(1))
		checkValue(t, most, most, in, numTerm(0), addTerm)
		checkValue(t, most, most-sign, in, one, back)
		checkValue(t, most-sign, most, in, one, away)
		refuseValue(t, most, in, one, away)
		refuseValue(t, most, in, in, addTerm)
		refuseValue(t, most, in, in, negTerm, subTerm)
		checkValue(t, most, 0, in, in, subTerm)
		// What leaves them on the way does not come back.
		refuseValue(t, most, in, one, away, one, back)
		refuseValue(t, most, in, one, away, mulTerm(0))
		refuseValue(t, most, in, one, away, divTerm(2))
		refuseValue(t, most, one, in, one, away, in, subTerm, addTerm)
		refuseValue(t, most-sign, in, numTerm(2), away, negTerm)
		checkValue(t, most, most, in, one, back, one, away)
	}
}

func TestEvalProducts(t *testing.T) {
	in := accountTerm("in")
	for _, sign := range []int{1, -1} {
		for _, num := range []int{1, 2, 3, 7, 1000, 999983, impl.MaxFactor - 1, impl.MaxFactor} {
			most := impl.MaxTotal / num
			checkValue(t, sign*most, sign*most*num, in, mulTerm(num))
			checkValue(t, sign*(most-1), sign*(most-1)*num, in, mulTerm(num))
			if num > 1 {
				refuseValue(t, sign*(most+1), in, mulTerm(num))
				refuseValue(t, sign*(most+1), in, mulTerm(num), divTerm(num))
				refuseValue(t, sign*(most+1), in, mulTerm(num), mulTerm(0))
				refuseValue(t, sign*impl.MaxTotal, in, mulTerm(num))
			}
		}
		checkValue(t, sign*impl.MaxTotal, 0, in, mulTerm(0))
		// Products that would be small again if they wrapped round.
		for _, num := range []int{18447, 184468, 1844675, 9223373, 1 << 20, 1 << 23} {
			for shift := 40; shift < 50; shift++ {
				refuseValue(t, sign<<shift, in, mulTerm(num))
			}
			refuseValue(t, sign*impl.MaxTotal, in, mulTerm(num), mulTerm(num), mulTerm(num))
		}
		for _, n := range []int{1 << 41, 1 << 42, 1 << 43, 3 << 44, 1 << 48, 5 << 47} {
			refuseValue(t, sign*n, in, mulTerm(1<<23))
			refuseValue(t, sign*n, in, mulTerm(1<<22))
		}
	}
}

// What is part of an account may be more than the total that one number may be; it is refused where it is put on the stack alone.
func TestEvalOfAccountsBeyondTheTotals(t *testing.T) {
	chart := []impl.Account{{Code: "top", Parent: -1, Kind: impl.Income}, {Code: "one", Parent: 0, Kind: impl.Income}, {Code: "two", Parent: 0, Kind: impl.Income}}
	parts := rowOf("parts", accountTerm("one"), accountTerm("two"), subTerm)
	top := rowOf("top", accountTerm("top"))
	for _, sign := range []int{1, -1} {
		most := sign * impl.MaxTotal
		checkEval(t, []impl.Row{parts}, chart, []int{0, most, most}, 0)
		refuseEval(t, []impl.Row{top}, chart, []int{0, most, most})
		refuseEval(t, []impl.Row{parts, top}, chart, []int{0, most, most})
		refuseEval(t, []impl.Row{rowOf("a", accountTerm("top"), mulTerm(0))}, chart, []int{0, most, most})
		refuseEval(t, []impl.Row{top}, chart, []int{sign, most, 0})
		refuseEval(t, []impl.Row{top}, chart, []int{0, most, sign})
		checkEval(t, []impl.Row{top}, chart, []int{0, most - sign, sign}, -most)
		checkEval(t, []impl.Row{top}, chart, []int{most, most, -most}, -most)
		refuseEval(t, []impl.Row{top}, chart, []int{most, most, -most + sign})
	}
	deep := deepChart(impl.MaxDepth + 1)
	list := repeated(impl.MaxTotal, impl.MaxDepth+1)
	checkEval(t, []impl.Row{rowOf("a", accountTerm("a8"))}, deep, list, impl.MaxTotal)
	refuseEval(t, []impl.Row{rowOf("a", accountTerm("a7"))}, deep, list)
}

func TestEvalOfWhatRollDoesNotTake(t *testing.T) {
	for _, rows := range [][]impl.Row{nil, {rowOf("a", numTerm(1))}, handRows()} {
		for _, chart := range wrongCharts() {
			refuseEval(t, rows, chart, make([]int, len(chart)))
		}
		refuseEval(t, rows, nil, nil)
		refuseEval(t, rows, nil, handNumbers())
		refuseEval(t, rows, handChart(), nil)
		refuseEval(t, rows, handChart(), handNumbers()[:12])
		refuseEval(t, rows, handChart(), append(handNumbers(), 0))
		for at := range handChart() {
			for _, n := range []int{math.MinInt, -impl.MaxTotal - 1, impl.MaxTotal + 1, math.MaxInt} {
				list := handNumbers()
				list[at] = n
				refuseEval(t, rows, handChart(), list)
			}
		}
	}
	most := make([]int, len(handChart()))
	most[7], most[8] = impl.MaxTotal, -impl.MaxTotal
	checkEval(t, handRows()[:1], handChart(), most, impl.MaxTotal)
}

func TestEvalOfWrongRows(t *testing.T) {
	for _, rows := range [][]impl.Row{
		{{}},
		{rowOf("a")},
		{rowOf("a", numTerm(-1))},
		{rowOf("a", numTerm(1), numTerm(2))},
		{rowOf("a", numTerm(1), divTerm(0))},
		{rowOf("a", numTerm(1), mulTerm(-1))},
		{rowOf("a", addTerm)},
		{rowOf("a", rowTerm("a"))},
		{rowOf("a", impl.Term{})},
		{rowOf("a", impl.Term{Kind: 9})},
		{rowOf("a", numTerm(1), impl.Term{Kind: math.MaxInt})},
		{rowOf("a-b", numTerm(1))},
		{rowOf("a", numTerm(1)), rowOf("a", numTerm(1))},
		severalRows(impl.MaxRows + 1),
		{rowOf("a", append(oneTerm(), slices.Repeat(termsOf(negTerm), impl.MaxNest+1)...)...)},
		{rowOf("a", append(oneTerm(), slices.Repeat(termsOf(mulTerm(1)), impl.MaxTerms)...)...)},
	} {
		refuseEval(t, rows, handChart(), handNumbers())
	}
	values, ok := impl.EvalReport(severalRows(impl.MaxRows), handChart(), handNumbers())
	for i, n := range values {
		if n != i {
			t.Errorf("row %d comes to %d", i, n)
		}
	}
	if !ok || len(values) != impl.MaxRows {
		t.Errorf("MaxRows rows come to %v, %v", values, ok)
	}
	checkValue(t, 1, 1, append(termsOf(accountTerm("in")), slices.Repeat(termsOf(mulTerm(1)), impl.MaxTerms-1)...)...)
}

// Rows that add all accounts without a Parent, each by its sign, fifty a row so that no row has too many terms; the last one has all.
func topsReport(chart []impl.Account) []impl.Row {
	rows := []impl.Row{rowOf("all0", numTerm(0))}
	inRow := 0
	for _, a := range chart {
		if a.Parent != -1 {
			continue
		}
		if inRow == 50 {
			rows = append(rows, rowOf("all"+strconv.Itoa(len(rows)), rowTerm(rows[len(rows)-1].Name)))
			inRow = 0
		}
		inRow++
		last := &rows[len(rows)-1]
		last.Terms = append(last.Terms, accountTerm(a.Code), addTerm)
		if a.Kind != impl.Asset && a.Kind != impl.Expense {
			last.Terms[len(last.Terms)-1] = subTerm
		}
	}
	return rows
}

// checkTops asks P24.
func checkTops(t *testing.T, chart []impl.Account, list []int) {
	t.Helper()
	rows := topsReport(chart)
	values, ok := impl.EvalReport(rows, chart, list)
	if !ok || len(values) != len(rows) || values[len(values)-1] != sumOf(list) {
		t.Errorf("all accounts without a Parent are %v, %v; all numbers %d: %v of %v", values, ok, sumOf(list), list, chart)
	}
	checkThereReport(t, rows)
}

func TestAllAccountsWithoutAParent(t *testing.T) {
	checkTops(t, handChart(), handNumbers())
	if sumOf(handNumbers()) != 0 {
		t.Error("the trial is not even")
	}
	chance := rand.New(rand.NewSource(93))
	for range 300 {
		chart := someChart(chance, 1+chance.Intn(impl.MaxAccounts))
		list := make([]int, len(chart))
		for i := range list {
			list[i] = chance.Intn(2*impl.MaxTotal/impl.MaxAccounts+1) - impl.MaxTotal/impl.MaxAccounts
		}
		checkTops(t, chart, list)
		list[chance.Intn(len(list))] -= sumOf(list)
		checkTops(t, chart, list)
	}
	for count := 1; count <= impl.MaxAccounts; count++ {
		flat := assets(repeated(-1, count)...)
		for i := range flat {
			flat[i].Kind = 1 + i%5
		}
		checkTops(t, flat, daysFrom(-3, count))
		checkTops(t, wideChart(count), daysFrom(1000, count))
	}
}

func TestSomeReportsReckoned(t *testing.T) {
	chance := rand.New(rand.NewSource(94))
	told, left := 0, 0
	for range 6000 {
		chart := someChart(chance, 1+chance.Intn(15))
		list := someTotals(chance, len(chart))
		if chance.Intn(3) > 0 {
			for i := range list {
				list[i] %= 1 + chance.Intn(100000)
			}
		}
		rows := someRows(chance, chart, []int{4, 10, 30}[chance.Intn(3)])
		if evalAsWanted(t, rows, chart, list) {
			told++
		} else {
			left++
		}
	}
	if told < 1000 || left < 1000 {
		t.Errorf("%d told, %d refused", told, left)
	}
}

func TestEvalLeavesItsArguments(t *testing.T) {
	rows, chart, list := roomyRows(), roomyGroup().Chart, make([]int, gCount, gCount+3)
	copy(list, []int{3, 4, 5})
	list = append(list, 12345)[:gCount]
	wantList := slices.Clone(list[:gCount+1])
	sums := []impl.Row{rowOf("a", accountTerm(chart[0].Code)), rowOf("b", rowTerm("a"), mulTerm(2))}
	one, ok := impl.EvalReport(sums, chart, list)
	other, _ := impl.EvalReport(sums, chart, list)
	if !ok {
		t.Fatal("refused")
	}
	clear(one)
	_ = append(one, 88888)
	checkEval(t, sums, chart, list, other...)
	if other[1] != 2*other[0] || other[0] == 0 {
		t.Errorf("two answers share their memory: %v", other)
	}
	impl.EvalReport(rows, handChart(), handNumbers())
	if !sameRoomyRows(rows, roomyRows()) || !slices.Equal(list[:gCount+1], wantList) || !slices.Equal(chart[:gCount+1], roomyGroup().Chart[:gCount+1]) {
		t.Error("an argument was written into")
	}
}
