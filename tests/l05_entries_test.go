package tests

import (
	"math"
	"math/rand"
	"slices"
	"strings"
	"testing"

	"loop.example/g00040/impl"
)

var noRefs = []int{math.MinInt, -impl.MaxEntries, -1, impl.MaxEntries + 1, math.MaxInt}

// Places that no list of accounts, parts or currencies has.
var noSpots = []int{math.MinInt, -2, -1, 1000, math.MaxInt}

var noDims = []int{math.MinInt, -impl.MaxDims, -1, 0, impl.MaxDims + 1, impl.MaxDims + 2, math.MaxInt}

func handFrame() impl.Frame { return impl.Frame{Chart: handChart(), Dims: 3, Curs: 4} }

// The leaves of handChart.
var handLeaves = []int{2, 3, 4, 6, 7, 8, 11, 12}

func own(account, dim, a int) impl.Line {
	return impl.Line{Account: account, Dim: dim, Amount: a, Base: a}
}

func foreign(account, dim, cur, a, base int) impl.Line {
	return impl.Line{Account: account, Dim: dim, Cur: cur, Amount: a, Base: base}
}

func entryOf(day int, text string, lines ...impl.Line) impl.Entry {
	return impl.Entry{Day: day, Text: text, Lines: lines}
}

// A sale into the till, of a day and an amount.
func saleOf(day, a int) impl.Entry { return entryOf(day, "sale", own(2, 0, a), own(8, 0, -a)) }

func checkEntryOk(t *testing.T, f impl.Frame, e impl.Entry, want bool) {
	t.Helper()
	if got := impl.EntryOk(f, e); got != want {
		t.Errorf("EntryOk(%d accounts, %d parts, %d currencies; %+v) = %v; want %v", len(f.Chart), f.Dims, f.Curs, e, got, want)
	}
}

func checkFrameOk(t *testing.T, f impl.Frame, want bool) {
	t.Helper()
	if got := impl.FrameOk(f); got != want {
		t.Errorf("FrameOk(%+v) = %v; want %v", f, got, want)
	}
}

func wantFrameOk(f impl.Frame) bool {
	return wantChartOk(f.Chart) && f.Dims >= 1 && f.Dims <= impl.MaxDims && curCount(f.Curs)
}

func wantEntryOk(f impl.Frame, e impl.Entry) bool {
	switch {
	case !wantFrameOk(f), !isDay(e.Day), e.Ref < 0, e.Ref > impl.MaxEntries:
		return false
	case len(e.Text) > impl.MaxText, strings.ContainsFunc(e.Text, func(r rune) bool { return r < 32 }):
		return false
	case len(e.Lines) < 2, len(e.Lines) > impl.MaxLines:
		return false
	}
	for _, n := range e.Lines {
		if !wantLineOk(f, n) {
			return false
		}
	}
	for place := range 20 {
		amounts, bases := 0, 0
		for _, n := range e.Lines {
			if n.Cur == place {
				amounts += n.Amount
			}
			if n.Dim == place {
				bases += n.Base
			}
		}
		if amounts != 0 || bases != 0 {
			return false
		}
	}
	return true
}

func wantLineOk(f impl.Frame, n impl.Line) bool {
	if n.Account < 0 || n.Account >= len(f.Chart) || len(wantUnder(f.Chart, n.Account)) > 1 {
		return false
	}
	if n.Dim < 0 || n.Dim >= f.Dims || n.Cur < 0 || n.Cur >= f.Curs || !amount(n.Amount) || !amount(n.Base) {
		return false
	}
	return n.Cur > 0 || n.Amount == n.Base
}

func leavesOf(chart []impl.Account) []int {
	leaves := []int{}
	for at := range chart {
		if len(wantUnder(chart, at)) == 1 {
			leaves = append(leaves, at)
		}
	}
	return leaves
}

// An even entry of a right frame: some lines, and behind them those that even them out.
func someEntry(chance *rand.Rand, f impl.Frame) impl.Entry {
	leaves := leavesOf(f.Chart)
	leaf := func() int { return leaves[chance.Intn(len(leaves))] }
	e := impl.Entry{Day: chance.Intn(200), Ref: chance.Intn(impl.MaxEntries + 1), Text: strings.Repeat("x ", chance.Intn(21))}
	curs, dims := make([]int, f.Curs), make([]int, f.Dims)
	add := func(n impl.Line) {
		e.Lines = append(e.Lines, n)
		curs[n.Cur] += n.Amount
		dims[n.Dim] += n.Base
	}
	for range 1 + chance.Intn(10) {
		n := own(leaf(), chance.Intn(f.Dims), chance.Intn(2000001)-1000000)
		n.Cur = chance.Intn(f.Curs)
		if n.Cur > 0 {
			n.Base = chance.Intn(2000001) - 1000000
		}
		add(n)
	}
	for cur := f.Curs - 1; cur >= 0 && f.Curs > 1; cur-- {
		if a := -curs[cur]; a != 0 {
			add(impl.Line{Account: leaf(), Dim: chance.Intn(f.Dims), Cur: cur, Amount: a, Base: a})
		}
	}
	for dim, b := range dims {
		switch {
		case b != 0 && f.Curs > 1:
			add(foreign(leaf(), dim, 1+chance.Intn(f.Curs-1), 0, -b))
		case b != 0 || len(e.Lines) < 2:
			add(own(leaf(), dim, -b))
		}
	}
	return e
}

func someFrame(chance *rand.Rand) impl.Frame {
	return impl.Frame{Chart: someChart(chance, 1+chance.Intn(30)), Dims: 1 + chance.Intn(impl.MaxDims), Curs: 1 + chance.Intn(impl.MaxCurs)}
}

func copyEntry(e impl.Entry) impl.Entry {
	e.Lines = slices.Clone(e.Lines)
	return e
}

func sameEntry(a, b impl.Entry) bool {
	return a.Day == b.Day && a.Ref == b.Ref && a.Text == b.Text && slices.Equal(a.Lines, b.Lines)
}

func isZeroEntry(e impl.Entry) bool { return sameEntry(e, impl.Entry{}) }

func wrongCharts() [][]impl.Account {
	twice := handChart()
	twice[3].Code = twice[2].Code
	otherKind := handChart()
	otherKind[4].Kind = impl.Expense
	return [][]impl.Account{nil, {}, twice, otherKind, assets(0), assets(-1, 1), assets(-1, -1, 0, 1, 2, 0), deepChart(impl.MaxDepth + 2), wideChart(impl.MaxAccounts + 1)}
}

func TestFrameOk(t *testing.T) {
	checkFrameOk(t, handFrame(), true)
	for dims := 1; dims <= impl.MaxDims; dims++ {
		for curs := 1; curs <= impl.MaxCurs; curs++ {
			checkFrameOk(t, impl.Frame{Chart: assets(-1), Dims: dims, Curs: curs}, true)
		}
	}
	checkFrameOk(t, impl.Frame{Chart: wideChart(impl.MaxAccounts), Dims: impl.MaxDims, Curs: impl.MaxCurs}, true)
	checkFrameOk(t, impl.Frame{Chart: deepChart(impl.MaxDepth + 1), Dims: 1, Curs: 1}, true)
	checkFrameOk(t, impl.Frame{}, false)
}

func TestWrongFrames(t *testing.T) {
	for _, f := range wrongFrames() {
		checkFrameOk(t, f, false)
		checkEntryOk(t, f, saleOf(1, 5), false)
		checkEntryOk(t, f, entryOf(1, "", own(0, 0, 5), own(0, 0, -5)), false)
		checkEntryOk(t, f, impl.Entry{}, false)
	}
}

func wrongFrames() []impl.Frame {
	list := []impl.Frame{{}}
	for _, chart := range wrongCharts() {
		list = append(list, impl.Frame{Chart: chart, Dims: 3, Curs: 4})
	}
	for _, dims := range noDims {
		list = append(list, impl.Frame{Chart: handChart(), Dims: dims, Curs: 4})
	}
	for _, curs := range noCounts {
		list = append(list, impl.Frame{Chart: handChart(), Dims: 3, Curs: curs})
	}
	return list
}

func TestEntryOkByHand(t *testing.T) {
	f := handFrame()
	for _, e := range []impl.Entry{
		saleOf(0, 5),
		saleOf(impl.MaxDay, 5),
		saleOf(1, 0),
		entryOf(1, "", own(2, 0, 5), own(2, 0, -5)),
		entryOf(1, "", own(2, 0, 0), own(2, 2, 0)),
		entryOf(1, "", own(2, 0, 5), own(3, 0, 6), own(4, 0, -11)),
		entryOf(1, "two parts", own(2, 0, 5), own(3, 1, 6), own(8, 0, -5), own(8, 1, -6)),
		entryOf(1, "a foreign till", foreign(2, 0, 1, 5, 50), foreign(8, 0, 1, -5, -50)),
		entryOf(1, "one more for the rest", foreign(2, 0, 1, 5, 50), foreign(8, 0, 1, -5, -48), foreign(12, 0, 3, 0, -2)),
		entryOf(1, "its base in another part", foreign(2, 0, 1, 5, 50), foreign(8, 2, 1, -5, 0), foreign(12, 0, 2, 0, -50)),
		entryOf(1, "bases alone", foreign(2, 0, 1, 0, 7), foreign(8, 0, 2, 0, -7)),
		entryOf(1, "amounts alone", foreign(2, 0, 3, 7, 0), foreign(8, 1, 3, -7, 0)),
		entryOf(1, "bought", own(2, 1, -50), foreign(4, 1, 2, 5, 50), foreign(6, 1, 2, -5, 0), own(11, 1, 50), foreign(12, 1, 1, 0, -50)),
	} {
		checkEntryOk(t, f, e, true)
	}
}

func TestEntryUneven(t *testing.T) {
	f := handFrame()
	for _, e := range []impl.Entry{
		entryOf(1, "", own(2, 0, 5), own(8, 0, -4)),
		entryOf(1, "", own(2, 0, 5), own(8, 0, 5)),
		entryOf(1, "", own(2, 0, 1), own(8, 0, 0)),
		entryOf(1, "currency, not part", own(2, 0, 5), own(8, 1, -5)),
		entryOf(1, "currency, not part", foreign(2, 0, 1, 5, 7), foreign(8, 0, 1, -5, -6)),
		entryOf(1, "currency, not part", foreign(2, 1, 1, 5, 7), foreign(8, 2, 1, -5, -7)),
		entryOf(1, "currency, not part", own(2, 0, 5), own(8, 0, -5), own(2, 1, 3), own(8, 2, -3)),
		entryOf(1, "part, not currency", own(2, 0, 5), foreign(8, 0, 1, -5, -5)),
		entryOf(1, "part, not currency", foreign(2, 0, 1, 5, 7), foreign(8, 0, 1, -4, -7)),
		entryOf(1, "part, not currency", foreign(2, 0, 1, 5, 7), foreign(8, 0, 2, -5, -7)),
		entryOf(1, "part, not currency", foreign(2, 0, 3, 1, 0), foreign(8, 0, 3, 0, 0)),
		entryOf(1, "all together alone", own(2, 0, 5), foreign(8, 1, 1, -5, -5)),
	} {
		checkEntryOk(t, f, e, false)
	}
}

func TestEntryDays(t *testing.T) {
	f := handFrame()
	for _, day := range []int{0, 1, 366, impl.MaxDay - 1, impl.MaxDay} {
		checkEntryOk(t, f, saleOf(day, 5), true)
	}
	for _, day := range noDays {
		checkEntryOk(t, f, saleOf(day, 5), false)
	}
}

func TestEntryRefs(t *testing.T) {
	f := handFrame()
	e := saleOf(3, 5)
	for _, e.Ref = range []int{0, 1, 500, impl.MaxEntries - 1, impl.MaxEntries} {
		checkEntryOk(t, f, e, true)
	}
	for _, e.Ref = range noRefs {
		checkEntryOk(t, f, e, false)
	}
}

func TestEntryTexts(t *testing.T) {
	f := handFrame()
	e := saleOf(3, 5)
	for count := range impl.MaxText + 3 {
		e.Text = strings.Repeat("m", count)
		checkEntryOk(t, f, e, count <= impl.MaxText)
	}
	e.Text = strings.Repeat("é", impl.MaxText/2)
	checkEntryOk(t, f, e, true)
	e.Text = strings.Repeat("é", impl.MaxText/2+1)
	checkEntryOk(t, f, e, false)
	for b := range 256 {
		for place := range impl.MaxText {
			text := []byte(strings.Repeat(" ", impl.MaxText))
			text[place] = byte(b)
			e.Text = string(text)
			checkEntryOk(t, f, e, b >= 32)
		}
	}
}

func TestEntryLines(t *testing.T) {
	f := handFrame()
	e := impl.Entry{}
	checkEntryOk(t, f, e, false)
	for count := 1; count <= impl.MaxLines+2; count++ {
		e.Lines = append(e.Lines, own(handLeaves[count%len(handLeaves)], count%f.Dims, 0))
		checkEntryOk(t, f, e, count >= 2 && count <= impl.MaxLines)
	}
	long := impl.Entry{Lines: slices.Repeat([]impl.Line{own(2, 0, impl.MaxMoney), own(8, 0, -impl.MaxMoney)}, impl.MaxLines/2)}
	checkEntryOk(t, f, long, true)
	long.Lines[impl.MaxLines-1].Account = 0
	checkEntryOk(t, f, long, false)
}

// Each line of an entry is asked, not its first alone.
func eachLine(e impl.Entry, change func(n *impl.Line)) []impl.Entry {
	list := []impl.Entry{}
	for i := range e.Lines {
		changed := copyEntry(e)
		change(&changed.Lines[i])
		list = append(list, changed)
	}
	return list
}

func TestLineAccounts(t *testing.T) {
	f := handFrame()
	e := entryOf(1, "", own(2, 0, 5), own(8, 0, -5), own(12, 1, 0))
	for at := -3; at <= len(f.Chart)+2; at++ {
		for _, changed := range eachLine(e, func(n *impl.Line) { n.Account = at }) {
			checkEntryOk(t, f, changed, slices.Contains(handLeaves, at))
		}
	}
	for _, at := range noSpots {
		for _, changed := range eachLine(e, func(n *impl.Line) { n.Account = at }) {
			checkEntryOk(t, f, changed, false)
		}
	}
}

func TestLineDims(t *testing.T) {
	for _, dims := range []int{1, 2, 3, impl.MaxDims} {
		f := handFrame()
		f.Dims = dims
		e := entryOf(1, "", own(2, 0, 0), own(8, 0, 0), foreign(8, 0, 1, 0, 0))
		for _, dim := range append([]int{0, dims / 2, dims - 1, dims, dims + 1}, noSpots...) {
			for _, changed := range eachLine(e, func(n *impl.Line) { n.Dim = dim }) {
				checkEntryOk(t, f, changed, 0 <= dim && dim < dims)
			}
		}
	}
}

func TestLineCurs(t *testing.T) {
	for _, curs := range []int{1, 2, 3, impl.MaxCurs} {
		f := handFrame()
		f.Curs = curs
		e := entryOf(1, "", own(2, 0, 0), own(8, 0, 0), own(8, 2, 0))
		for _, cur := range append([]int{0, curs / 2, curs - 1, curs, curs + 1}, noSpots...) {
			for _, changed := range eachLine(e, func(n *impl.Line) { n.Cur = cur }) {
				checkEntryOk(t, f, changed, 0 <= cur && cur < curs)
			}
		}
	}
}

func TestLineAmounts(t *testing.T) {
	f := handFrame()
	for _, a := range []int{-impl.MaxMoney, -impl.MaxMoney + 1, -1, 0, 1, impl.MaxMoney - 1, impl.MaxMoney} {
		checkEntryOk(t, f, saleOf(1, a), true)
		checkEntryOk(t, f, entryOf(1, "", foreign(2, 0, 1, a, 3), foreign(8, 0, 1, -a, -3)), true)
		checkEntryOk(t, f, entryOf(1, "", foreign(2, 0, 1, 3, a), foreign(8, 0, 1, -3, -a)), true)
	}
	for _, a := range noAmounts {
		checkEntryOk(t, f, saleOf(1, a), false)
		checkEntryOk(t, f, entryOf(1, "", foreign(2, 0, 1, a, 3), foreign(8, 0, 1, -a, -3)), false)
		checkEntryOk(t, f, entryOf(1, "", foreign(2, 0, 1, 3, a), foreign(8, 0, 1, -3, -a)), false)
		checkEntryOk(t, f, entryOf(1, "", own(2, 0, 1), own(8, 0, -1), foreign(2, 0, 1, a, 0), foreign(3, 0, 1, -a, 0)), false)
	}
}

// One line is beyond the amounts; the others, which are amounts, even it out.
func TestLineBeyondAmongAmounts(t *testing.T) {
	f := handFrame()
	for _, sign := range []int{1, -1} {
		a := sign * (impl.MaxMoney + 1)
		checkEntryOk(t, f, entryOf(1, "", own(2, 0, a), own(8, 0, -a+sign), own(8, 0, -sign)), false)
		checkEntryOk(t, f, entryOf(1, "", foreign(2, 0, 1, a, 0), foreign(8, 0, 1, -a+sign, 0), foreign(8, 0, 1, -sign, 0)), false)
		checkEntryOk(t, f, entryOf(1, "", foreign(2, 0, 1, 0, a), foreign(8, 0, 1, 0, -a+sign), foreign(8, 0, 1, 0, -sign)), false)
		a -= sign
		checkEntryOk(t, f, entryOf(1, "", own(2, 0, a), own(8, 0, -a+sign), own(8, 0, -sign)), true)
		checkEntryOk(t, f, entryOf(1, "", foreign(2, 0, 1, a, 0), foreign(8, 0, 1, -a+sign, 0), foreign(8, 0, 1, -sign, 0)), true)
		checkEntryOk(t, f, entryOf(1, "", foreign(2, 0, 1, 0, a), foreign(8, 0, 1, 0, -a+sign), foreign(8, 0, 1, 0, -sign)), true)
	}
}

// The sums wrap round to 0 here, so only the lines themselves can be wrong.
func TestLinesThatWrap(t *testing.T) {
	f := handFrame()
	checkEntryOk(t, f, entryOf(1, "", own(2, 0, math.MinInt), own(8, 0, math.MinInt)), false)
	checkEntryOk(t, f, entryOf(1, "", own(2, 0, 1<<62), own(2, 0, 1<<62), own(2, 0, 1<<62), own(8, 0, 1<<62)), false)
}

func TestOwnAmountIsBase(t *testing.T) {
	f := handFrame()
	for cur := range f.Curs {
		one, other := foreign(2, 0, cur, 5, 6), foreign(8, 0, cur, -5, -6)
		checkEntryOk(t, f, entryOf(1, "", one, other), cur > 0)
		checkEntryOk(t, f, entryOf(1, "", own(2, 0, 1), own(8, 0, -1), one, other), cur > 0)
		checkEntryOk(t, f, entryOf(1, "", foreign(2, 0, cur, 5, -5), foreign(8, 0, cur, -5, 5)), cur > 0)
		checkEntryOk(t, f, entryOf(1, "", foreign(2, 0, cur, 5, 5), foreign(8, 0, cur, -5, -5)), true)
	}
}

func TestSomeEntries(t *testing.T) {
	chance := rand.New(rand.NewSource(51))
	for range 400 {
		f := someFrame(chance)
		e := someEntry(chance, f)
		checkEntryOk(t, f, e, true)
		for range 20 {
			changed := copyEntry(e)
			changeLine(chance, &changed.Lines[chance.Intn(len(changed.Lines))])
			checkEntryOk(t, f, changed, wantEntryOk(f, changed))
		}
	}
}

func changeLine(chance *rand.Rand, n *impl.Line) {
	step := chance.Intn(5) - 2
	switch chance.Intn(6) {
	case 0:
		n.Account += step
	case 1:
		n.Dim += step
	case 2:
		n.Cur += step
	case 3:
		n.Amount += step
	case 4:
		n.Base += step
	case 5:
		n.Amount, n.Base = n.Amount+step, n.Base+step
	}
}

func TestEntryOkLeavesItsArguments(t *testing.T) {
	f, e := handFrame(), entryOf(1, "", foreign(2, 0, 1, 5, 50), foreign(8, 0, 1, -5, -50), own(2, 0, 7), own(8, 0, -7))
	kept := copyEntry(e)
	e.Lines = e.Lines[:2]
	checkEntryOk(t, f, e, true)
	f.Chart = f.Chart[:9]
	checkEntryOk(t, f, e, true)
	if !slices.Equal(e.Lines[:4], kept.Lines) || !slices.Equal(f.Chart[:13], handChart()) {
		t.Errorf("EntryOk wrote into what it was given: %v, %v", e, f)
	}
}
