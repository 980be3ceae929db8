package tests

import (
	"math"
	"math/rand"
	"slices"
	"strings"
	"testing"

	"loop.example/g00040/impl"
)

const mostThousandths = 1000

var noThousandths = []int{math.MinInt, -mostThousandths, -2, -1, mostThousandths + 1, mostThousandths + 2, math.MaxInt}

var noMoves = []int{math.MinInt, -2 * impl.MaxQty, -impl.MaxQty - 2, -impl.MaxQty - 1, impl.MaxQty + 1, impl.MaxQty + 2, 2 * impl.MaxQty, math.MaxInt}

func orderLine(qty, price int) impl.OrderLine {
	return impl.OrderLine{Item: "nuts", Qty: qty, Price: price}
}

// Qty, Price and so on.
func orderOf(pairs ...int) []impl.OrderLine {
	order := []impl.OrderLine{}
	for i := 0; i < len(pairs); i += 2 {
		order = append(order, orderLine(pairs[i], pairs[i+1]))
	}
	return order
}

// Line, Qty and so on.
func receiptsOf(pairs ...int) []impl.Receipt {
	list := []impl.Receipt{}
	for i := 0; i < len(pairs); i += 2 {
		list = append(list, impl.Receipt{Line: pairs[i], Qty: pairs[i+1]})
	}
	return list
}

func overOf(over int) impl.Tol { return impl.Tol{Over: over} }

func handOrder() []impl.OrderLine {
	return []impl.OrderLine{{Item: "nuts", Qty: 10, Price: 7}, {Item: "bolts", Qty: 4, Price: 100}, {Item: "nuts", Qty: 1, Price: 0}}
}

func orderWith(change func(order []impl.OrderLine)) []impl.OrderLine {
	order := handOrder()
	change(order)
	return order
}

func wantOrderOk(order []impl.OrderLine) bool {
	wrong := len(order) == 0 || len(order) > impl.MaxOrder
	for _, n := range order {
		wrong = wrong || !accountName.MatchString(n.Item) || n.Qty == 0 || !isQty(n.Qty) || !isPrice(n.Price)
	}
	return !wrong
}

func wantTolOk(tol impl.Tol) bool {
	thousandths := 0 <= min(tol.Over, tol.Price) && max(tol.Over, tol.Price) <= mostThousandths
	return thousandths && amount(tol.Least) && tol.Least >= 0
}

// What there is of a line, summed up anew.
func thereOf(list []impl.Receipt, line int) int {
	all := 0
	for _, r := range list {
		if r.Line == line {
			all += r.Qty
		}
	}
	return all
}

// What is above the order's Qty is held against it without a division.
func wantReceived(order []impl.OrderLine, list []impl.Receipt, tol impl.Tol) ([]int, int) {
	if !wantOrderOk(order) || !wantTolOk(tol) || len(list) > impl.MaxReceipts {
		return nil, -2
	}
	for at, r := range list {
		if r.Line < 0 || r.Line >= len(order) || r.Qty < -impl.MaxQty || r.Qty > impl.MaxQty {
			return nil, at
		}
		there, ordered := thereOf(list[:at+1], r.Line), order[r.Line].Qty
		if there < 0 || mostThousandths*(there-ordered) > ordered*tol.Over {
			return nil, at
		}
	}
	got := make([]int, len(order))
	for i := range got {
		got[i] = thereOf(list, i)
	}
	return got, -1
}

func checkReceived(t *testing.T, order []impl.OrderLine, list []impl.Receipt, tol impl.Tol, want ...int) {
	t.Helper()
	wanted, wantBad := wantReceived(order, list, tol)
	got, bad := impl.Received(order, list, tol)
	if bad != -1 || wantBad != -1 || !slices.Equal(got, want) || !slices.Equal(wanted, want) {
		t.Errorf("Received(%v, %v, %v) = %v, %d; want %v, -1", order[:min(4, len(order))], list[:min(9, len(list))], tol, got, bad, want)
	}
}

func refuseReceived(t *testing.T, order []impl.OrderLine, list []impl.Receipt, tol impl.Tol, want int) {
	t.Helper()
	_, wantBad := wantReceived(order, list, tol)
	got, bad := impl.Received(order, list, tol)
	if len(got) != 0 || bad != want || wantBad != want {
		t.Errorf("Received(%v, %v, %v) = %v, %d; want nothing, %d", order[:min(4, len(order))], list[:min(9, len(list))], tol, got, bad, want)
	}
	if lines, pay := impl.MatchBill(order, list, nil, tol); len(lines) != 0 || pay != 0 {
		t.Errorf("MatchBill(%v, %v, no bill, %v) = %v, %d; want nothing, 0", order[:min(4, len(order))], list[:min(9, len(list))], tol, lines, pay)
	}
}

// checkOrder asks Received and MatchBill for their answers to an order that is not right, too.
func checkOrder(t *testing.T, want bool, order ...impl.OrderLine) {
	t.Helper()
	if got := impl.OrderOk(order); got != want || wantOrderOk(order) != want {
		t.Errorf("OrderOk(%d lines) = %v; want %v: %v", len(order), got, want, order[:min(8, len(order))])
	}
	if want {
		return
	}
	last := len(order) - 1
	for _, list := range [][]impl.Receipt{nil, receiptsOf(0, 1), receiptsOf(last, 1), receiptsOf(-1, 1), receiptsOf(0, -1)} {
		refuseReceived(t, order, list, impl.Tol{}, -2)
	}
	for _, line := range []int{-1, 0, last, last + 1} {
		if lines, pay := impl.MatchBill(order, nil, billOf(line, 1, 1), impl.Tol{}); len(lines) != 0 || pay != 0 {
			t.Errorf("MatchBill(%v, ..) = %v, %d; want nothing, 0", order[:min(4, len(order))], lines, pay)
		}
	}
}

func TestOrderByHand(t *testing.T) {
	checkOrder(t, true, handOrder()...)
	checkOrder(t, true, orderLine(1, 0))
	checkOrder(t, false)
	checkOrder(t, false, []impl.OrderLine{}...)
	checkOrder(t, false, impl.OrderLine{})
	checkOrder(t, false, append(handOrder(), impl.OrderLine{})...)
}

func TestHowManyLinesAnOrderMayHave(t *testing.T) {
	for count := range impl.MaxOrder + 4 {
		checkOrder(t, count >= 1 && count <= impl.MaxOrder, slices.Repeat([]impl.OrderLine{orderLine(3, 5)}, count)...)
	}
	checkOrder(t, false, slices.Repeat([]impl.OrderLine{orderLine(3, 5)}, 100000)...)
	for at := range impl.MaxOrder {
		order := slices.Repeat([]impl.OrderLine{orderLine(3, 5)}, impl.MaxOrder)
		order[at].Qty = 0
		checkOrder(t, false, order...)
	}
}

func TestItemsOfOrders(t *testing.T) {
	for at := range handOrder() {
		for _, item := range noNames {
			checkOrder(t, false, orderWith(func(order []impl.OrderLine) { order[at].Item = item })...)
		}
		for _, item := range []string{"a", "Z", "0", "-", "_", ".", "nuts", strings.Repeat("n", impl.MaxName)} {
			checkOrder(t, true, orderWith(func(order []impl.OrderLine) { order[at].Item = item })...)
		}
	}
}

func TestQuantitiesOfOrders(t *testing.T) {
	for at := range handOrder() {
		for _, qty := range []int{1, 2, impl.MaxQty - 1, impl.MaxQty} {
			checkOrder(t, true, orderWith(func(order []impl.OrderLine) { order[at].Qty = qty })...)
		}
		for _, qty := range noQtysAbove0 {
			checkOrder(t, false, orderWith(func(order []impl.OrderLine) { order[at].Qty = qty })...)
		}
	}
}

func TestPricesOfOrders(t *testing.T) {
	for at := range handOrder() {
		for _, price := range []int{0, 1, impl.MaxPrice - 1, impl.MaxPrice} {
			checkOrder(t, true, orderWith(func(order []impl.OrderLine) { order[at].Price = price })...)
		}
		for _, price := range noPrices {
			checkOrder(t, false, orderWith(func(order []impl.OrderLine) { order[at].Price = price })...)
		}
	}
}

func TestReceivedByHand(t *testing.T) {
	order := handOrder()
	checkReceived(t, order, nil, impl.Tol{}, 0, 0, 0)
	checkReceived(t, order, receiptsOf(0, 10, 1, 4, 2, 1), impl.Tol{}, 10, 4, 1)
	checkReceived(t, order, receiptsOf(1, 1, 0, 3, 1, 2), impl.Tol{}, 3, 3, 0)
	checkReceived(t, order, receiptsOf(0, 11, 0, -2, 1, 4), overOf(100), 9, 4, 0)
	checkReceived(t, order, receiptsOf(0, 0, 1, 0), impl.Tol{}, 0, 0, 0)
	checkReceived(t, order, receiptsOf(0, 5, 0, -5, 0, 10, 0, -10, 0, 10), impl.Tol{}, 10, 0, 0)
	refuseReceived(t, order, receiptsOf(0, 11), impl.Tol{}, 0)
	refuseReceived(t, order, receiptsOf(0, -1), impl.Tol{}, 0)
}

func TestLinesOfReceipts(t *testing.T) {
	for _, line := range []int{math.MinInt, -2, -1, 3, 4, impl.MaxOrder - 1, impl.MaxOrder, impl.MaxOrder + 1, math.MaxInt} {
		refuseReceived(t, handOrder(), receiptsOf(line, 1), impl.Tol{}, 0)
		refuseReceived(t, handOrder(), receiptsOf(line, 0), impl.Tol{}, 0)
		refuseReceived(t, handOrder(), receiptsOf(0, 1, 2, 1, line, 1), impl.Tol{}, 2)
	}
	full := slices.Repeat(orderOf(3, 5), impl.MaxOrder)
	got := make([]int, impl.MaxOrder)
	got[impl.MaxOrder-1] = 3
	checkReceived(t, full, receiptsOf(impl.MaxOrder-1, 3), impl.Tol{}, got...)
	for _, line := range []int{-1, impl.MaxOrder, impl.MaxOrder + 1} {
		refuseReceived(t, full, receiptsOf(0, 1, line, 1), impl.Tol{}, 1)
	}
	one := orderOf(3, 5)
	checkReceived(t, one, receiptsOf(0, 3), impl.Tol{}, 3)
	refuseReceived(t, one, receiptsOf(1, 3), impl.Tol{}, 0)
}

func TestQuantitiesOfReceipts(t *testing.T) {
	most, all := orderOf(impl.MaxQty, 1), overOf(mostThousandths)
	checkReceived(t, most, receiptsOf(0, impl.MaxQty), impl.Tol{}, impl.MaxQty)
	checkReceived(t, most, receiptsOf(0, impl.MaxQty, 0, -impl.MaxQty), impl.Tol{}, 0)
	checkReceived(t, most, receiptsOf(0, impl.MaxQty, 0, impl.MaxQty), all, 2*impl.MaxQty)
	checkReceived(t, most, receiptsOf(0, impl.MaxQty, 0, impl.MaxQty, 0, -impl.MaxQty), all, impl.MaxQty)
	refuseReceived(t, most, receiptsOf(0, impl.MaxQty, 0, impl.MaxQty, 0, 1), all, 2)
	refuseReceived(t, most, receiptsOf(0, -impl.MaxQty), all, 0)
	for _, qty := range noMoves {
		refuseReceived(t, most, receiptsOf(0, qty), all, 0)
		refuseReceived(t, most, receiptsOf(0, 5, 0, qty), all, 1)
		// There would be no less than 0 and no more than the tolerance lets be.
		refuseReceived(t, most, receiptsOf(0, impl.MaxQty, 0, impl.MaxQty, 0, qty), all, 2)
	}
}

func TestGoingBack(t *testing.T) {
	order := orderOf(10, 1, 10, 1)
	for there := range 11 {
		for back := range 12 {
			list := receiptsOf(0, there, 1, 10, 0, -back)
			if back <= there {
				checkReceived(t, order, list, impl.Tol{}, there-back, 10)
			} else {
				refuseReceived(t, order, list, impl.Tol{}, 2)
			}
		}
	}
	// What comes later does not make up for what is not there yet, nor what another line has.
	refuseReceived(t, order, receiptsOf(0, 3, 0, -4, 0, 5), impl.Tol{}, 1)
	refuseReceived(t, order, receiptsOf(1, 9, 0, -1), impl.Tol{}, 1)
	refuseReceived(t, order, receiptsOf(0, -1, 0, 1), impl.Tol{}, 0)
}

func TestToleranceOfReceipts(t *testing.T) {
	rows := [][3]int{ // Qty, Over, how many more may come
		{10, 0, 0}, {10, 99, 0}, {10, 100, 1}, {10, 199, 1}, {10, 200, 2}, {10, 999, 9}, {10, 1000, 10},
		{1, 0, 0}, {1, 999, 0}, {1, 1000, 1}, {999, 1, 0}, {1000, 1, 1}, {1999, 1, 1}, {2000, 1, 2}, {1001, 999, 999},
		{impl.MaxQty, 0, 0}, {impl.MaxQty, 1, 1000}, {impl.MaxQty - 1, 1, 999}, {impl.MaxQty, 999, 999000}, {impl.MaxQty, 1000, impl.MaxQty},
	}
	for _, r := range rows {
		order, tol := orderOf(5, 1, r[0], 1), overOf(r[1])
		in := receiptsOf(1, r[0], 1, r[2])
		checkReceived(t, order, in, tol, 0, r[0]+r[2])
		refuseReceived(t, order, append(in, receiptsOf(1, 1)...), tol, 2)
		if r[2] < impl.MaxQty {
			refuseReceived(t, order, receiptsOf(0, 0, 1, r[0], 1, r[2]+1), tol, 2)
		}
		if r[0]+r[2] <= impl.MaxQty {
			checkReceived(t, order, receiptsOf(1, r[0]+r[2]), tol, 0, r[0]+r[2])
		}
		if r[0]+r[2] < impl.MaxQty {
			refuseReceived(t, order, receiptsOf(1, r[0]+r[2]+1), tol, 0)
		}
		// It is each line's own Qty that counts.
		refuseReceived(t, order, receiptsOf(0, 5+5*r[1]/1000+1), tol, 0)
	}
	// Nor do the other numbers of a tolerance let more come.
	refuseReceived(t, orderOf(10, 1), receiptsOf(0, 11), impl.Tol{Over: 99, Price: 1000, Least: impl.MaxMoney}, 0)
}

func TestTooMuchThatGoesBackLater(t *testing.T) {
	order := orderOf(10, 1)
	refuseReceived(t, order, receiptsOf(0, 12, 0, -2), overOf(100), 0)
	refuseReceived(t, order, receiptsOf(0, 11, 0, 1, 0, -3), overOf(100), 1)
	checkReceived(t, order, receiptsOf(0, 11, 0, -1, 0, 1), overOf(100), 11)
	checkReceived(t, order, receiptsOf(0, 11, 0, -11, 0, 11), overOf(100), 11)
}

func TestTheFirstReceiptThatMayNotBe(t *testing.T) {
	order := orderOf(10, 1, 10, 1)
	wrong := []impl.Receipt{{Line: 2, Qty: 1}, {Line: -1}, {Line: 0, Qty: impl.MaxQty + 1}, {Line: 1, Qty: -impl.MaxQty - 1}, {Line: 0, Qty: -6}, {Line: 1, Qty: 11}}
	for at := range 8 {
		for i, first := range wrong {
			for _, second := range wrong {
				list := append(receiptsOf(0, 1, 1, 2, 0, 1, 0, 1, 1, 2, 0, 0, 0, 1, 0, 1)[:at], first, second)
				_, bad := wantReceived(order, list, impl.Tol{})
				if bad != at {
					t.Fatalf("the receipt %d of kind %d is not wrong", at, i)
				}
				refuseReceived(t, order, list, impl.Tol{}, at)
			}
		}
	}
}

func TestHowManyReceiptsThereMayBe(t *testing.T) {
	order := orderOf(impl.MaxReceipts, 1)
	for _, count := range []int{1, 2, impl.MaxReceipts - 1, impl.MaxReceipts} {
		checkReceived(t, order, slices.Repeat(receiptsOf(0, 1), count), impl.Tol{}, count)
		refuseReceived(t, order, append(slices.Repeat(receiptsOf(0, 1), count-1), impl.Receipt{Line: 1}), impl.Tol{}, count-1)
	}
	for _, count := range []int{impl.MaxReceipts + 1, impl.MaxReceipts + 2, 100000} {
		refuseReceived(t, order, make([]impl.Receipt, count), impl.Tol{}, -2)
		refuseReceived(t, order, slices.Repeat(receiptsOf(0, -1), count), impl.Tol{}, -2)
	}
}

// checkTol asks MatchBill too, which takes the same tolerances.
func checkTol(t *testing.T, want bool, tol impl.Tol) {
	t.Helper()
	if want {
		checkReceived(t, handOrder(), receiptsOf(0, 5), tol, 5, 0, 0)
		checkMatch(t, handOrder(), receiptsOf(0, 5), billOf(0, 5, 7), tol, 35, matchOf(5, 5, 35, impl.MatchOk), impl.MatchLine{}, impl.MatchLine{})
		return
	}
	for _, list := range [][]impl.Receipt{nil, receiptsOf(0, 5), receiptsOf(0, 5, 3, 1), receiptsOf(0, -1)} {
		refuseReceived(t, handOrder(), list, tol, -2)
		refuseMatch(t, handOrder(), list, billOf(0, 5, 7), tol)
	}
}

func TestTolerances(t *testing.T) {
	for _, n := range []int{0, 1, 500, mostThousandths - 1, mostThousandths} {
		checkTol(t, true, impl.Tol{Over: n})
		checkTol(t, true, impl.Tol{Price: n})
		checkTol(t, true, impl.Tol{Over: n, Price: mostThousandths - n, Least: n})
	}
	for _, n := range noThousandths {
		checkTol(t, false, impl.Tol{Over: n})
		checkTol(t, false, impl.Tol{Price: n})
		checkTol(t, false, impl.Tol{Over: n, Price: n, Least: 5})
	}
	for _, least := range []int{0, 1, mostThousandths + 1, impl.MaxMoney - 1, impl.MaxMoney} {
		checkTol(t, true, impl.Tol{Over: 10, Price: 10, Least: least})
	}
	for _, least := range append([]int{-1, -2, -impl.MaxMoney}, noAmounts...) {
		checkTol(t, false, impl.Tol{Least: least})
		checkTol(t, false, impl.Tol{Over: 10, Price: 10, Least: least})
	}
}

func someOrder(chance *rand.Rand, lines int) []impl.OrderLine {
	order := make([]impl.OrderLine, lines)
	for i := range order {
		order[i] = orderLine(1+chance.Intn(30), chance.Intn(200))
	}
	return order
}

// Most of them may be: what comes is kept to what is still missing, what goes back to what is there.
func someReceipts(chance *rand.Rand, order []impl.OrderLine, count int) []impl.Receipt {
	list := []impl.Receipt{}
	for range count {
		line := chance.Intn(len(order))
		there := thereOf(list, line)
		qty := chance.Intn(1+max(0, order[line].Qty-there)) + chance.Intn(2)*chance.Intn(2)
		if chance.Intn(3) == 0 {
			qty = -chance.Intn(there + 1)
		}
		list = append(list, impl.Receipt{Line: line, Qty: qty})
	}
	return list
}

func TestSomeReceipts(t *testing.T) {
	chance := rand.New(rand.NewSource(124))
	taken, refused := 0, 0
	for range 5000 {
		order := someOrder(chance, 1+chance.Intn(4))
		list := someReceipts(chance, order, chance.Intn(12))
		tol := impl.Tol{Over: chance.Intn(150), Price: chance.Intn(5), Least: chance.Intn(5)}
		if chance.Intn(4) == 0 && len(list) > 0 {
			list[chance.Intn(len(list))].Line += chance.Intn(3) - 1
		}
		got, bad := wantReceived(order, list, tol)
		if bad == -1 {
			checkReceived(t, order, list, tol, got...)
			taken++
		} else {
			refuseReceived(t, order, list, tol, bad)
			refused++
		}
	}
	if taken < 1000 || refused < 1000 {
		t.Errorf("%d taken, %d refused", taken, refused)
	}
}

// Behind the lists stands more, which is neither read nor written; what is answered is new each time.
func TestReceivedLeavesItsLists(t *testing.T) {
	order := append(handOrder(), impl.OrderLine{}, impl.OrderLine{Qty: -1})
	list := receiptsOf(0, 3, 1, 4, 9, 9, 0, -50)
	keptOrder, keptList := slices.Clone(order), slices.Clone(list)
	checkOrder(t, true, order[:3]...)
	checkReceived(t, order[:3], list[:2], impl.Tol{}, 3, 4, 0)
	first, _ := impl.Received(order[:3], list[:2], impl.Tol{})
	for i := range first[:cap(first)] {
		first[:cap(first)][i] = -7
	}
	checkReceived(t, order[:3], list[:2], impl.Tol{}, 3, 4, 0)
	checkReceived(t, order[:2], list[:1], impl.Tol{}, 3, 0)
	if !slices.Equal(order, keptOrder) || !slices.Equal(list, keptList) {
		t.Error("an order or receipts were written into")
	}
}
