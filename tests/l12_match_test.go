package tests

import (
	"math"
	"math/rand"
	"slices"
	"testing"

	"loop.example/g00040/impl"
)

// Line, Qty, Price and so on.
func billOf(triples ...int) []impl.BillLine {
	bill := []impl.BillLine{}
	for i := 0; i < len(triples); i += 3 {
		bill = append(bill, impl.BillLine{Line: triples[i], Qty: triples[i+1], Price: triples[i+2]})
	}
	return bill
}

func matchOf(got, billed, due, state int) impl.MatchLine {
	return impl.MatchLine{Got: got, Billed: billed, Due: due, State: state}
}

// Dear by more than Least, and by more than the thousandths, told without a division.
func isTooDear(due, plain int, tol impl.Tol) bool {
	return due-plain > tol.Least && mostThousandths*(due-plain) > plain*tol.Price
}

func wantMatchLine(got int, n impl.OrderLine, bill []impl.BillLine, tol impl.Tol) (impl.MatchLine, bool) {
	m := impl.MatchLine{Got: got}
	for _, b := range bill {
		m.Billed += b.Qty
		m.Due += b.Qty * b.Price
	}
	if m.Billed > impl.MaxQty || m.Due > impl.MaxMoney {
		return impl.MatchLine{}, false
	}
	if len(bill) > 0 {
		dear := isTooDear(m.Due, m.Billed*n.Price, tol)
		m.State = map[[2]bool]int{{false, false}: impl.MatchOk, {true, false}: impl.MatchQty, {false, true}: impl.MatchPrice, {true, true}: impl.MatchBoth}[[2]bool{m.Billed > got, dear}]
	}
	return m, true
}

// The bill lines of each line of the order are picked out and looked at on their own.
func wantMatch(order []impl.OrderLine, list []impl.Receipt, bill []impl.BillLine, tol impl.Tol) ([]impl.MatchLine, int) {
	got, bad := wantReceived(order, list, tol)
	if bad != -1 || len(bill) > impl.MaxReceipts {
		return nil, 0
	}
	for _, b := range bill {
		if b.Line < 0 || b.Line >= len(order) || b.Qty == 0 || !isQty(b.Qty) || !isPrice(b.Price) {
			return nil, 0
		}
	}
	lines, pay := []impl.MatchLine{}, 0
	for i, n := range order {
		own := slices.DeleteFunc(slices.Clone(bill), func(b impl.BillLine) bool { return b.Line != i })
		m, ok := wantMatchLine(got[i], n, own, tol)
		if !ok {
			return nil, 0
		}
		lines = append(lines, m)
		if m.State == impl.MatchOk {
			pay += m.Due
		}
	}
	return lines, pay
}

// P32: what is MatchOk was received by the program's own Received, and is no dearer than the tolerance lets it be; and that alone comes together.
func checkMatchPromise(t *testing.T, order []impl.OrderLine, list []impl.Receipt, bill []impl.BillLine, tol impl.Tol, lines []impl.MatchLine, pay int) {
	t.Helper()
	got, bad := impl.Received(order, list, tol)
	if bad != -1 || len(got) != len(lines) {
		t.Errorf("MatchBill tells %v where Received tells %v, %d", lines, got, bad)
		return
	}
	together, mayCome := 0, 0
	for i, m := range lines {
		if m.State != impl.MatchOk {
			continue
		}
		more, _ := impl.MulDiv(order[i].Qty, tol.Over, 1000, impl.Down)
		dearer, _ := impl.MulDiv(m.Billed*order[i].Price, tol.Price, 1000, impl.Down)
		if m.Billed < 1 || m.Billed > got[i] || m.Billed > order[i].Qty+more {
			t.Errorf("MatchBill(%v, .., %v, %v): line %d is MatchOk with %d billed and %d received", order, bill, tol, i, m.Billed, got[i])
		}
		if m.Due > m.Billed*order[i].Price+max(tol.Least, dearer) {
			t.Errorf("MatchBill(%v, .., %v, %v): line %d is MatchOk with %d due", order, bill, tol, i, m.Due)
		}
		together += m.Due
	}
	for _, b := range bill {
		if lines[b.Line].State == impl.MatchOk {
			mayCome += b.Qty * b.Price
		}
	}
	if pay != together || pay != mayCome {
		t.Errorf("MatchBill(%v, .., %v, %v) = %v, %d; together they are %d", order, bill, tol, lines, pay, together)
	}
}

func checkMatch(t *testing.T, order []impl.OrderLine, list []impl.Receipt, bill []impl.BillLine, tol impl.Tol, wantPay int, want ...impl.MatchLine) {
	t.Helper()
	wanted, ownPay := wantMatch(order, list, bill, tol)
	lines, pay := impl.MatchBill(order, list, bill, tol)
	if !slices.Equal(lines, want) || pay != wantPay || !slices.Equal(wanted, want) || ownPay != wantPay {
		t.Errorf("MatchBill(%v, %v, %v, %v) = %v, %d; want %v, %d", order[:min(4, len(order))], list[:min(6, len(list))], bill[:min(6, len(bill))], tol, lines, pay, want, wantPay)
		return
	}
	checkMatchPromise(t, order, list, bill, tol, lines, pay)
}

func refuseMatch(t *testing.T, order []impl.OrderLine, list []impl.Receipt, bill []impl.BillLine, tol impl.Tol) {
	t.Helper()
	wanted, _ := wantMatch(order, list, bill, tol)
	if lines, pay := impl.MatchBill(order, list, bill, tol); len(lines) != 0 || pay != 0 || len(wanted) != 0 {
		t.Errorf("MatchBill(%v, %v, %v, %v) = %v, %d; want nothing, 0", order[:min(4, len(order))], list[:min(6, len(list))], bill[:min(6, len(bill))], tol, lines, pay)
	}
}

// Of one line with so many ordered at a price, all of which came.
func checkOneMatch(t *testing.T, qty, price int, tol impl.Tol, billed, at, state int) {
	t.Helper()
	pay := 0
	if state == impl.MatchOk {
		pay = billed * at
	}
	checkMatch(t, orderOf(qty, price), receiptsOf(0, qty), billOf(0, billed, at), tol, pay, matchOf(qty, billed, billed*at, state))
}

func TestMatchByHand(t *testing.T) {
	if impl.MatchOpen != 0 || impl.MatchOk != 1 || impl.MatchQty != 2 || impl.MatchPrice != 3 || impl.MatchBoth != 4 {
		t.Error("the states are not 0 to 4")
	}
	order := orderOf(10, 7, 10, 7, 10, 7, 10, 7, 10, 7)
	list := receiptsOf(0, 9, 1, 9, 2, 9, 3, 9, 4, 9)
	bill := billOf(4, 10, 8, 3, 9, 8, 2, 10, 7, 1, 9, 7)
	checkMatch(t, order, list, bill, impl.Tol{}, 63,
		matchOf(9, 0, 0, impl.MatchOpen), matchOf(9, 9, 63, impl.MatchOk), matchOf(9, 10, 70, impl.MatchQty),
		matchOf(9, 9, 72, impl.MatchPrice), matchOf(9, 10, 80, impl.MatchBoth))
}

func TestMatchOfNoBill(t *testing.T) {
	checkMatch(t, handOrder(), nil, nil, impl.Tol{}, 0, impl.MatchLine{}, impl.MatchLine{}, impl.MatchLine{})
	checkMatch(t, handOrder(), receiptsOf(0, 9, 1, 4), []impl.BillLine{}, impl.Tol{}, 0, matchOf(9, 0, 0, impl.MatchOpen), matchOf(4, 0, 0, impl.MatchOpen), impl.MatchLine{})
}

func TestMatchOfQuantities(t *testing.T) {
	order := orderOf(10, 7)
	for got := range 11 {
		for billed := 1; billed <= 12; billed++ {
			state, pay := impl.MatchOk, 7*billed
			if billed > got {
				state, pay = impl.MatchQty, 0
			}
			checkMatch(t, order, receiptsOf(0, got), billOf(0, billed, 7), impl.Tol{}, pay, matchOf(got, billed, 7*billed, state))
			// Neither the order's tolerance nor that of its price lets more be billed than came.
			checkMatch(t, order, receiptsOf(0, got), billOf(0, billed, 7), impl.Tol{Over: 1000, Price: 1000, Least: 1000}, pay, matchOf(got, billed, 7*billed, state))
		}
	}
	// What came beyond the order, within the tolerance, may be billed; what went back may not.
	checkMatch(t, order, receiptsOf(0, 11), billOf(0, 11, 7), overOf(100), 77, matchOf(11, 11, 77, impl.MatchOk))
	checkMatch(t, order, receiptsOf(0, 11, 0, -1), billOf(0, 11, 7), overOf(100), 0, matchOf(10, 11, 77, impl.MatchQty))
	checkMatch(t, order, receiptsOf(0, 10, 0, -10), billOf(0, 1, 0), impl.Tol{}, 0, matchOf(0, 1, 0, impl.MatchQty))
}

func TestMatchOfPrices(t *testing.T) {
	for at := range 8 {
		checkOneMatch(t, 10, 7, impl.Tol{}, 10, at, impl.MatchOk) // cheaper, or just as dear
	}
	checkOneMatch(t, 10, 7, impl.Tol{}, 10, 8, impl.MatchPrice)
	checkOneMatch(t, 10, 7, impl.Tol{}, 1, 8, impl.MatchPrice)
	checkOneMatch(t, 10, 0, impl.Tol{}, 10, 0, impl.MatchOk)
	checkOneMatch(t, 10, 0, impl.Tol{}, 10, 1, impl.MatchPrice)
	checkOneMatch(t, 10, 0, impl.Tol{Price: 1000}, 10, 1, impl.MatchPrice) // of nothing, thousandths are nothing
	checkOneMatch(t, 10, 0, impl.Tol{Least: 9}, 10, 1, impl.MatchPrice)
	checkOneMatch(t, 10, 0, impl.Tol{Least: 10}, 10, 1, impl.MatchOk)
}

// How much dearer than the order's price 10 units may be, as it comes out.
func checkDearest(t *testing.T, price int, tol impl.Tol, more int) {
	t.Helper()
	order, list := orderOf(10, price), receiptsOf(0, 10)
	for off, state := range map[int]int{-1: impl.MatchOk, 0: impl.MatchOk, 1: impl.MatchPrice} {
		due := 10*price + more + off
		low := due / 10 // most units at the lower price, the others at one more
		high := due % 10
		bill := billOf(0, 10-high, low)
		if high > 0 {
			bill = append(bill, billOf(0, high, low+1)...)
		}
		pay := 0
		if state == impl.MatchOk {
			pay = due
		}
		checkMatch(t, order, list, bill, tol, pay, matchOf(10, 10, due, state))
	}
}

func TestMatchAtTheTolerance(t *testing.T) {
	rows := [][4]int{ // price, Price, Least, how much more may be due for 10
		{100, 0, 0, 0}, {100, 0, 1, 1}, {100, 0, 77, 77}, {100, 1, 0, 1}, {100, 10, 0, 10}, {100, 10, 9, 10}, {100, 10, 10, 10}, {100, 10, 11, 11},
		{100, 999, 0, 999}, {100, 1000, 0, 1000}, {100, 1000, 1001, 1001}, {100, 1000, 999, 1000},
		{99, 1, 0, 0}, {199, 1, 0, 1}, {99, 10, 0, 9}, {7, 15, 0, 1}, {7, 14, 0, 0}, {7, 29, 0, 2}, {7, 28, 0, 1}, {7, 28, 2, 2},
		{3, 500, 0, 15}, {3, 33, 0, 0}, {3, 34, 0, 1}, {1, 999, 0, 9}, {1, 1000, 0, 10}, {1, 0, 100000, 100000},
	}
	for _, r := range rows {
		checkDearest(t, r[0], impl.Tol{Price: r[1], Least: r[2]}, r[3])
		checkDearest(t, r[0], impl.Tol{Over: 1000, Price: r[1], Least: r[2]}, r[3])
	}
}

// The tolerance is one of what is billed, not of what is ordered or of what came.
func TestToleranceIsOfWhatIsBilled(t *testing.T) {
	tol := impl.Tol{Price: 100}
	order, list := orderOf(100, 10), receiptsOf(0, 50)
	checkMatch(t, order, list, billOf(0, 10, 11), tol, 110, matchOf(50, 10, 110, impl.MatchOk))
	checkMatch(t, order, list, billOf(0, 9, 11, 0, 1, 12), tol, 0, matchOf(50, 10, 111, impl.MatchPrice))
	checkMatch(t, order, list, billOf(0, 60, 11), tol, 0, matchOf(50, 60, 660, impl.MatchQty))
	checkMatch(t, order, list, billOf(0, 59, 11, 0, 1, 12), tol, 0, matchOf(50, 60, 661, impl.MatchBoth))
	// Least is one of each line.
	two := orderOf(10, 7, 10, 7)
	checkMatch(t, two, receiptsOf(0, 10, 1, 10), billOf(0, 10, 8, 1, 10, 8), impl.Tol{Least: 10}, 160, matchOf(10, 10, 80, impl.MatchOk), matchOf(10, 10, 80, impl.MatchOk))
}

func TestSeveralBillLinesOfOneLine(t *testing.T) {
	order, list := orderOf(10, 7, 5, 3), receiptsOf(0, 10, 1, 5)
	rest := matchOf(5, 0, 0, impl.MatchOpen)
	checkMatch(t, order, list, billOf(0, 4, 7, 0, 6, 7), impl.Tol{}, 70, matchOf(10, 10, 70, impl.MatchOk), rest)
	checkMatch(t, order, list, billOf(0, 5, 8, 0, 5, 6), impl.Tol{}, 70, matchOf(10, 10, 70, impl.MatchOk), rest) // dear and cheap even out
	checkMatch(t, order, list, billOf(0, 5, 8, 0, 4, 6), impl.Tol{}, 0, matchOf(10, 9, 64, impl.MatchPrice), rest)
	checkMatch(t, order, list, billOf(0, 4, 7, 0, 7, 7), impl.Tol{}, 0, matchOf(10, 11, 77, impl.MatchQty), rest)
	checkMatch(t, order, list, billOf(0, 10, 7, 0, 10, 7), impl.Tol{}, 0, matchOf(10, 20, 140, impl.MatchQty), rest)
	checkMatch(t, order, list, billOf(1, 2, 3, 0, 4, 7, 1, 3, 3, 0, 6, 7), impl.Tol{}, 85, matchOf(10, 10, 70, impl.MatchOk), matchOf(5, 5, 15, impl.MatchOk))
	checkMatch(t, order, list, billOf(1, 2, 3, 0, 4, 7, 1, 4, 3, 0, 6, 7), impl.Tol{}, 70, matchOf(10, 10, 70, impl.MatchOk), matchOf(5, 6, 18, impl.MatchQty))
	checkMatch(t, order, list, billOf(0, 9, 0, 0, 1, 70), impl.Tol{}, 70, matchOf(10, 10, 70, impl.MatchOk), rest)
}

func TestBillLinesThatAreNone(t *testing.T) {
	order, list := handOrder(), receiptsOf(0, 10, 1, 4, 2, 1)
	right := impl.BillLine{Line: 0, Qty: 1, Price: 7}
	refuse := func(wrong impl.BillLine) {
		t.Helper()
		refuseMatch(t, order, list, []impl.BillLine{wrong}, impl.Tol{})
		refuseMatch(t, order, list, []impl.BillLine{right, wrong}, impl.Tol{})
		refuseMatch(t, order, list, []impl.BillLine{right, wrong, right}, impl.Tol{})
		refuseMatch(t, order, nil, []impl.BillLine{wrong, right}, impl.Tol{})
	}
	for _, line := range []int{math.MinInt, -2, -1, 3, 4, impl.MaxOrder - 1, impl.MaxOrder, impl.MaxOrder + 1, math.MaxInt} {
		refuse(impl.BillLine{Line: line, Qty: 1, Price: 7})
	}
	for _, qty := range noQtysAbove0 {
		refuse(impl.BillLine{Line: 0, Qty: qty, Price: 7})
		refuse(impl.BillLine{Line: 1, Qty: qty})
	}
	for _, price := range noPrices {
		refuse(impl.BillLine{Line: 0, Qty: 1, Price: price})
		refuse(impl.BillLine{Line: 1, Qty: impl.MaxQty - 1, Price: price})
	}
	for line := range order {
		for _, qty := range []int{1, impl.MaxQty - 1, impl.MaxQty} {
			for _, price := range []int{0, 1, impl.MaxPrice - 1, impl.MaxPrice} {
				bill := billOf(line, qty, price)
				want, pay := wantMatch(order, list, bill, impl.Tol{})
				if len(want) != 3 {
					t.Errorf("%v is refused", bill)
				}
				checkMatch(t, order, list, bill, impl.Tol{}, pay, want...)
			}
		}
	}
	full := slices.Repeat(orderOf(3, 5), impl.MaxOrder)
	refuseMatch(t, full, nil, billOf(impl.MaxOrder, 1, 1), impl.Tol{})
	want := make([]impl.MatchLine, impl.MaxOrder)
	want[impl.MaxOrder-1] = matchOf(3, 3, 15, impl.MatchOk)
	checkMatch(t, full, receiptsOf(impl.MaxOrder-1, 3), billOf(impl.MaxOrder-1, 3, 5), impl.Tol{}, 15, want...)
}

// What is due leaves the amounts only with what is billed leaving the quantities: MaxQty at MaxPrice is just MaxMoney.
func TestBilledAndDueTogether(t *testing.T) {
	order := orderOf(impl.MaxQty, impl.MaxPrice, impl.MaxQty, impl.MaxPrice)
	list := receiptsOf(0, impl.MaxQty, 1, impl.MaxQty)
	whole := matchOf(impl.MaxQty, impl.MaxQty, impl.MaxMoney, impl.MatchOk)
	rest := matchOf(impl.MaxQty, 0, 0, impl.MatchOpen)
	checkMatch(t, order, list, billOf(0, impl.MaxQty, impl.MaxPrice), impl.Tol{}, impl.MaxMoney, whole, rest)
	checkMatch(t, order, list, billOf(0, impl.MaxQty-1, impl.MaxPrice, 0, 1, impl.MaxPrice), impl.Tol{}, impl.MaxMoney, whole, rest)
	checkMatch(t, order, list, billOf(0, impl.MaxQty-1, 0, 0, 1, 0), impl.Tol{}, 0, matchOf(impl.MaxQty, impl.MaxQty, 0, impl.MatchOk), rest)
	for _, price := range []int{0, 1, impl.MaxPrice} {
		refuseMatch(t, order, list, billOf(0, impl.MaxQty, impl.MaxPrice, 0, 1, price), impl.Tol{})
		refuseMatch(t, order, list, billOf(0, impl.MaxQty, 0, 0, 1, price), impl.Tol{})
		refuseMatch(t, order, list, billOf(1, impl.MaxQty, 0, 0, 1, price, 1, 1, price), impl.Tol{})
		refuseMatch(t, order, list, billOf(0, impl.MaxQty, price, 0, impl.MaxQty, price), impl.Tol{})
	}
	refuseMatch(t, order, list, slices.Repeat(billOf(0, impl.MaxQty, impl.MaxPrice), impl.MaxReceipts), impl.Tol{})
	// Each line has its own: together they may be more.
	checkMatch(t, order, list, billOf(0, impl.MaxQty, impl.MaxPrice, 1, impl.MaxQty, impl.MaxPrice), impl.Tol{}, 2*impl.MaxMoney, whole, whole)
	full := slices.Repeat(orderOf(impl.MaxQty, impl.MaxPrice), impl.MaxOrder)
	in, bill := []impl.Receipt{}, []impl.BillLine{}
	for i := range full {
		in = append(in, impl.Receipt{Line: i, Qty: impl.MaxQty})
		bill = append(bill, impl.BillLine{Line: i, Qty: impl.MaxQty, Price: impl.MaxPrice})
	}
	checkMatch(t, full, in, bill, impl.Tol{}, impl.MaxOrder*impl.MaxMoney, slices.Repeat([]impl.MatchLine{whole}, impl.MaxOrder)...)
}

func TestMatchAtTheGreatestNumbers(t *testing.T) {
	most := impl.Tol{Over: 1000, Price: 1000, Least: impl.MaxMoney}
	cheap := orderOf(impl.MaxQty, 0)
	in := receiptsOf(0, impl.MaxQty)
	checkMatch(t, cheap, in, billOf(0, impl.MaxQty, impl.MaxPrice), most, impl.MaxMoney, matchOf(impl.MaxQty, impl.MaxQty, impl.MaxMoney, impl.MatchOk))
	less := most
	less.Least--
	checkMatch(t, cheap, in, billOf(0, impl.MaxQty, impl.MaxPrice), less, 0, matchOf(impl.MaxQty, impl.MaxQty, impl.MaxMoney, impl.MatchPrice))
	half := orderOf(impl.MaxQty, impl.MaxPrice/2)
	double := impl.Tol{Price: 1000}
	checkMatch(t, half, in, billOf(0, impl.MaxQty, impl.MaxPrice), double, impl.MaxMoney, matchOf(impl.MaxQty, impl.MaxQty, impl.MaxMoney, impl.MatchOk))
	double.Price--
	checkMatch(t, half, in, billOf(0, impl.MaxQty, impl.MaxPrice), double, 0, matchOf(impl.MaxQty, impl.MaxQty, impl.MaxMoney, impl.MatchPrice))
	dear := orderOf(impl.MaxQty, impl.MaxPrice)
	checkMatch(t, dear, in, billOf(0, impl.MaxQty, impl.MaxPrice), most, impl.MaxMoney, matchOf(impl.MaxQty, impl.MaxQty, impl.MaxMoney, impl.MatchOk))
}

func TestHowManyBillLinesThereMayBe(t *testing.T) {
	order, list := orderOf(impl.MaxReceipts, 7), receiptsOf(0, impl.MaxReceipts)
	for _, count := range []int{1, 2, impl.MaxReceipts - 1, impl.MaxReceipts} {
		checkMatch(t, order, list, slices.Repeat(billOf(0, 1, 7), count), impl.Tol{}, 7*count, matchOf(impl.MaxReceipts, count, 7*count, impl.MatchOk))
	}
	for _, count := range []int{impl.MaxReceipts + 1, impl.MaxReceipts + 2, 10000} {
		refuseMatch(t, order, list, slices.Repeat(billOf(0, 1, 7), count), impl.Tol{})
	}
}

func TestMatchOfWhatReceivedDoesNotTell(t *testing.T) {
	bill := billOf(0, 1, 7)
	refuseMatch(t, handOrder(), receiptsOf(0, 11), bill, impl.Tol{})
	refuseMatch(t, handOrder(), receiptsOf(0, -1), bill, impl.Tol{})
	refuseMatch(t, handOrder(), receiptsOf(0, 10, 3, 1), bill, impl.Tol{})
	refuseMatch(t, handOrder(), receiptsOf(0, 10, 1, 5), bill, overOf(249))
	refuseMatch(t, handOrder(), make([]impl.Receipt, impl.MaxReceipts+1), bill, impl.Tol{})
	refuseMatch(t, nil, nil, nil, impl.Tol{})
	refuseMatch(t, nil, nil, bill, impl.Tol{})
	refuseMatch(t, append(handOrder(), impl.OrderLine{}), receiptsOf(0, 10), bill, impl.Tol{})
	// An order that is too long has lines that no other one has.
	long := slices.Repeat(orderOf(3, 5), impl.MaxOrder+1)
	refuseMatch(t, long, nil, billOf(impl.MaxOrder, 1, 5), impl.Tol{})
	refuseMatch(t, long, receiptsOf(impl.MaxOrder, 1), billOf(impl.MaxOrder, 1, 5), impl.Tol{})
}

func TestOnlyWhatIsMatchOkComesTogether(t *testing.T) {
	order := orderOf(10, 7, 10, 7, 10, 7, 10, 7, 10, 7)
	list := receiptsOf(0, 9, 1, 9, 2, 9, 3, 9, 4, 9)
	bills := [][]impl.BillLine{nil, billOf(0, 9, 7), billOf(0, 10, 7), billOf(0, 9, 8), billOf(0, 10, 8)}
	states := []int{impl.MatchOpen, impl.MatchOk, impl.MatchQty, impl.MatchPrice, impl.MatchBoth}
	for code := range 5 * 5 * 5 {
		kinds := [3]int{code % 5, code / 5 % 5, code / 25}
		bill, want, pay := []impl.BillLine{}, []impl.MatchLine{}, 0
		for line := range order {
			m := matchOf(9, 0, 0, impl.MatchOpen)
			if line < len(kinds) {
				m.State = states[kinds[line]]
				for _, b := range bills[kinds[line]] {
					b.Line = line
					bill = append(bill, b)
					m.Billed, m.Due = b.Qty, b.Qty*b.Price
				}
			}
			if m.State == impl.MatchOk {
				pay += m.Due
			}
			want = append(want, m)
		}
		checkMatch(t, order, list, bill, impl.Tol{}, pay, want...)
		slices.Reverse(bill)
		checkMatch(t, order, list, bill, impl.Tol{}, pay, want...)
	}
}

func someBill(chance *rand.Rand, order []impl.OrderLine, count int) []impl.BillLine {
	bill := make([]impl.BillLine, count)
	for i := range bill {
		line := chance.Intn(len(order))
		bill[i] = impl.BillLine{Line: line, Qty: 1 + chance.Intn(1+order[line].Qty/2), Price: max(0, order[line].Price+chance.Intn(7)-4)}
	}
	return bill
}

func TestSomeMatches(t *testing.T) {
	chance := rand.New(rand.NewSource(125))
	states, refused := [5]int{}, 0
	for range 6000 {
		order := someOrder(chance, 1+chance.Intn(4))
		list := []impl.Receipt{}
		for i, n := range order {
			list = append(list, impl.Receipt{Line: i, Qty: chance.Intn(n.Qty + 1)}, impl.Receipt{Line: i, Qty: chance.Intn(2)})
		}
		bill := someBill(chance, order, chance.Intn(7))
		if chance.Intn(8) == 0 && len(bill) > 0 {
			b := &bill[chance.Intn(len(bill))]
			b.Line, b.Qty, b.Price = b.Line+chance.Intn(3)-1, b.Qty-chance.Intn(3), b.Price-chance.Intn(30)
		}
		tol := impl.Tol{Over: 30 * chance.Intn(30), Price: 5 * chance.Intn(9), Least: chance.Intn(9)}
		want, pay := wantMatch(order, list, bill, tol)
		if len(want) == 0 {
			refuseMatch(t, order, list, bill, tol)
			refused++
			continue
		}
		checkMatch(t, order, list, bill, tol, pay, want...)
		for _, m := range want {
			states[m.State]++
		}
	}
	if slices.Min(states[:]) < 300 || refused < 500 {
		t.Errorf("%v of the states, %d refused", states, refused)
	}
}

// Behind the lists stands more, which is neither read nor written; what is answered is new each time.
func TestMatchLeavesItsLists(t *testing.T) {
	order := append(handOrder(), impl.OrderLine{})
	list := receiptsOf(0, 9, 1, 4, 5, 5)
	bill := billOf(0, 9, 7, 1, 4, 100, 0, 1, 7, 9, 9, 9)
	keptOrder, keptList, keptBill := slices.Clone(order), slices.Clone(list), slices.Clone(bill)
	want := []impl.MatchLine{matchOf(9, 9, 63, impl.MatchOk), matchOf(4, 4, 400, impl.MatchOk), {}}
	checkMatch(t, order[:3], list[:2], bill[:2], impl.Tol{}, 463, want...)
	first, _ := impl.MatchBill(order[:3], list[:2], bill[:2], impl.Tol{})
	for i := range first[:cap(first)] {
		first[:cap(first)][i] = matchOf(-1, -1, -1, -1)
	}
	checkMatch(t, order[:3], list[:2], bill[:2], impl.Tol{}, 463, want...)
	checkMatch(t, order[:3], list[:1], bill[:1], impl.Tol{}, 63, want[0], impl.MatchLine{}, impl.MatchLine{})
	if !slices.Equal(order, keptOrder) || !slices.Equal(list, keptList) || !slices.Equal(bill, keptBill) {
		t.Error("an order, receipts or a bill were written into")
	}
}
