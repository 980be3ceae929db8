package tests

import (
	"math"
	"math/rand"
	"slices"
	"testing"

	"loop.example/g00040/impl"
)

// Due, Until, Rate, Amount and so on.
func billsOf(fours ...int) []impl.Bill {
	list := []impl.Bill{}
	for i := 0; i < len(fours); i += 4 {
		list = append(list, impl.Bill{Due: fours[i], Until: fours[i+1], Rate: fours[i+2], Amount: fours[i+3]})
	}
	return list
}

// Bills without a discount: Due, Amount and so on.
func duesUntil0(pairs ...int) []impl.Bill {
	list := []impl.Bill{}
	for i := 0; i < len(pairs); i += 2 {
		list = append(list, impl.Bill{Due: pairs[i], Amount: pairs[i+1]})
	}
	return list
}

// Bills that are due far on, with a discount until day 5: Rate, Amount and so on.
func discountsUntil5(pairs ...int) []impl.Bill {
	list := []impl.Bill{}
	for i := 0; i < len(pairs); i += 2 {
		list = append(list, impl.Bill{Due: 1000, Until: 5, Rate: pairs[i], Amount: pairs[i+1]})
	}
	return list
}

func wantProposed(bills []impl.Bill, today, next, cash int) bool {
	for _, b := range bills {
		if !isDay(b.Due) || !isDay(b.Until) || !isSaleRate(b.Rate) || b.Amount <= 0 || !amount(b.Amount) {
			return false
		}
	}
	return len(bills) <= impl.MaxPayments && isDay(today) && isDay(next) && today < next && cash >= 0 && amount(cash)
}

// A bill comes ahead of another one when it is told so by the first of the reasons that tells them apart: nothing is sorted, those that come ahead are counted.
func comesAhead(bills []impl.Bill, i, k, next int) bool {
	a, b := bills[i], bills[k]
	switch {
	case (a.Due <= next) != (b.Due <= next):
		return a.Due <= next
	case a.Due <= next && a.Due != b.Due:
		return a.Due < b.Due
	case a.Due <= next && a.Amount != b.Amount:
		return a.Amount > b.Amount
	case a.Due > next && a.Rate != b.Rate:
		return a.Rate > b.Rate
	}
	return i < k
}

func mayBePaid(b impl.Bill, today, next int) bool {
	return b.Due <= next || b.Rate > 0 && b.Until >= today && b.Until <= next
}

func wantPropose(bills []impl.Bill, today, next, cash int) []int {
	chosen := []int{}
	if !wantProposed(bills, today, next, cash) {
		return chosen
	}
	order := make([]int, len(bills))
	for i := range bills {
		ahead := 0
		for k := range bills {
			if k != i && comesAhead(bills, k, i, next) {
				ahead++
			}
		}
		order[ahead] = i
	}
	for _, i := range order {
		if b := bills[i]; mayBePaid(b, today, next) && cash-b.Amount >= 0 {
			cash -= b.Amount
			chosen = append(chosen, i)
		}
	}
	return chosen
}

// P40: no more than the cash, no bill twice, and none that is due by the next run and would still fit is left.
func checkProposePromise(t *testing.T, bills []impl.Bill, today, next, cash int, chosen []int) {
	t.Helper()
	left := cash
	for i, at := range chosen {
		if slices.Contains(chosen[:i], at) {
			t.Errorf("Propose(%v, %d, %d, %d) = %v: %d stands twice", bills, today, next, cash, chosen, at)
		}
		if !mayBePaid(bills[at], today, next) {
			t.Errorf("Propose(%v, %d, %d, %d) = %v: %d may not be paid", bills, today, next, cash, chosen, at)
		}
		left -= bills[at].Amount
	}
	if left < 0 {
		t.Errorf("Propose(%v, %d, %d, %d) = %v: %d more than the cash", bills, today, next, cash, chosen, -left)
	}
	for i, b := range bills {
		if b.Due <= next && b.Amount <= left && !slices.Contains(chosen, i) {
			t.Errorf("Propose(%v, %d, %d, %d) = %v: %d would still fit", bills, today, next, cash, chosen, i)
		}
	}
}

func checkPropose(t *testing.T, bills []impl.Bill, today, next, cash int, want ...int) {
	t.Helper()
	got := impl.Propose(bills, today, next, cash)
	if !slices.Equal(got, want) || !slices.Equal(wantPropose(bills, today, next, cash), want) || !wantProposed(bills, today, next, cash) {
		t.Errorf("Propose(%v, %d, %d, %d) = %v; want %v", bills[:min(6, len(bills))], today, next, cash, got, want)
		return
	}
	checkProposePromise(t, bills, today, next, cash, got)
}

func noPropose(t *testing.T, bills []impl.Bill, today, next, cash int) {
	t.Helper()
	if got := impl.Propose(bills, today, next, cash); len(got) != 0 || wantProposed(bills, today, next, cash) {
		t.Errorf("Propose(%v, %d, %d, %d) = %v; want nothing", bills[:min(6, len(bills))], today, next, cash, got)
	}
}

func TestProposeByHand(t *testing.T) {
	bills := billsOf(9, 3, 100, 50, 4, 0, 0, 70, 5, 0, 0, 60, 9, 0, 900, 1)
	checkPropose(t, bills, 1, 5, 125, 1, 0)
	checkPropose(t, bills, 1, 5, 130, 1, 2)
	checkPropose(t, bills, 1, 5, 179, 1, 2)
	checkPropose(t, bills, 1, 5, 180, 1, 2, 0)
	checkPropose(t, bills, 1, 5, 1000, 1, 2, 0)
	checkPropose(t, bills, 0, 5, 1000, 1, 2, 3, 0)
	checkPropose(t, bills, 1, 9, 1000, 1, 2, 0, 3)
	checkPropose(t, bills, 1, 4, 1000, 1, 0)
	checkPropose(t, bills, 1, 3, 1000, 0)
	checkPropose(t, bills, 1, 2, 1000)
	checkPropose(t, bills, 1, 5, 0)
	checkPropose(t, bills, 1, 5, 49)
	checkPropose(t, bills, 1, 5, 50, 0)
}

func TestProposeWithoutBills(t *testing.T) {
	checkPropose(t, nil, 1, 5, 100)
	checkPropose(t, []impl.Bill{}, 1, 5, 0)
	noPropose(t, nil, 5, 5, 100)
	noPropose(t, nil, 1, 5, -1)
}

func TestHowManyBillsMayBeProposed(t *testing.T) {
	for _, count := range []int{1, 2, impl.MaxPayments - 1, impl.MaxPayments} {
		want := []int{}
		for i := range count {
			want = append(want, i)
		}
		checkPropose(t, slices.Repeat(duesUntil0(3, 7), count), 1, 5, 7*count, want...)
		checkPropose(t, slices.Repeat(duesUntil0(3, 7), count), 1, 5, 7*count-1, want[:count-1]...)
		checkPropose(t, slices.Repeat(discountsUntil5(9, 7), count), 1, 5, 7*count, want...)
	}
	for _, count := range []int{impl.MaxPayments + 1, impl.MaxPayments + 2, 1000, 100000} {
		noPropose(t, slices.Repeat(duesUntil0(3, 7), count), 1, 5, impl.MaxMoney)
		noPropose(t, make([]impl.Bill, count), 1, 5, impl.MaxMoney)
	}
	noPropose(t, slices.Repeat(duesUntil0(100, 7), impl.MaxPayments+1), 1, 5, impl.MaxMoney)
}

// A bill that is none stands alone, ahead of others and behind them; it would not be chosen either.
func refuseBillIn(t *testing.T, b impl.Bill) {
	t.Helper()
	for _, cash := range []int{0, 5, 1000, impl.MaxMoney} {
		noPropose(t, []impl.Bill{b}, 1, 5, cash)
		noPropose(t, append([]impl.Bill{b}, duesUntil0(3, 7)...), 1, 5, cash)
		noPropose(t, append(duesUntil0(3, 7), b), 1, 5, cash)
		noPropose(t, slices.Insert(duesUntil0(3, 7, 4, 8), 1, b), 1, 5, cash)
	}
}

func TestBillsThatAreNone(t *testing.T) {
	for _, none := range noDays {
		refuseBillIn(t, impl.Bill{Due: none, Amount: 7})
		refuseBillIn(t, impl.Bill{Due: 3, Until: none, Amount: 7})
		refuseBillIn(t, impl.Bill{Due: 1000, Until: none, Rate: 9, Amount: 7})
		refuseBillIn(t, impl.Bill{Due: none, Until: none, Rate: 9, Amount: 7})
	}
	for _, none := range noSaleRates {
		refuseBillIn(t, impl.Bill{Due: 3, Rate: none, Amount: 7})
		refuseBillIn(t, impl.Bill{Due: 1000, Until: 3, Rate: none, Amount: 7})
	}
	for _, none := range noOpenAmounts {
		refuseBillIn(t, impl.Bill{Due: 3, Amount: none})
		refuseBillIn(t, impl.Bill{Due: 1000, Until: 3, Rate: 9, Amount: none})
		refuseBillIn(t, impl.Bill{Due: 1000, Amount: none})
	}
	refuseBillIn(t, impl.Bill{})
	// Each field at its limits.
	checkPropose(t, billsOf(0, 0, 0, 1), 0, 1, 1, 0)
	checkPropose(t, billsOf(0, impl.MaxDay, wholeSale, impl.MaxMoney), 0, 1, impl.MaxMoney, 0)
	checkPropose(t, billsOf(impl.MaxDay, impl.MaxDay-1, wholeSale, impl.MaxMoney), 0, impl.MaxDay-1, impl.MaxMoney, 0)
	checkPropose(t, billsOf(impl.MaxDay, impl.MaxDay, 1, 1), impl.MaxDay-1, impl.MaxDay, 1, 0)
}

func TestTodayAndTheNextRun(t *testing.T) {
	bills := billsOf(0, 0, 0, 7, 1000, 5, 9, 8)
	checkPropose(t, bills, 4, 5, 100, 0, 1)
	checkPropose(t, bills, 5, 6, 100, 0, 1)
	checkPropose(t, bills, 6, 7, 100, 0)
	checkPropose(t, bills, 0, impl.MaxDay, 100, 0, 1)
	checkPropose(t, bills, impl.MaxDay-1, impl.MaxDay, 100, 0, 1)
	for _, day := range []int{0, 1, 5, 1000, impl.MaxDay} {
		noPropose(t, bills, day, day, 100)
		noPropose(t, bills, day, max(day-1, 0), 100)
		noPropose(t, bills, day, 0, 100)
		noPropose(t, bills, impl.MaxDay, day, 100)
	}
	for _, none := range noDays {
		noPropose(t, bills, none, 5, 100)
		noPropose(t, bills, 1, none, 100)
		noPropose(t, bills, none, none, 100)
		noPropose(t, bills, none, impl.MaxDay, 100)
	}
	noPropose(t, bills, -1, 0, 100)
	noPropose(t, bills, impl.MaxDay, impl.MaxDay+1, 100)
}

func TestCashOfProposals(t *testing.T) {
	for _, a := range []int{1, 2, 7, impl.MaxMoney - 1, impl.MaxMoney} {
		for _, cash := range []int{0, a - 1, a, min(a+1, impl.MaxMoney), impl.MaxMoney} {
			want := []int{}
			if a <= cash {
				want = append(want, 0)
			}
			checkPropose(t, duesUntil0(3, a), 1, 5, cash, want...)
			checkPropose(t, discountsUntil5(9, a), 1, 5, cash, want...)
		}
	}
	for _, none := range append([]int{-1, -2, -impl.MaxMoney}, noAmounts...) {
		noPropose(t, duesUntil0(3, 7), 1, 5, none)
		noPropose(t, discountsUntil5(9, 7), 1, 5, none)
	}
	all := slices.Repeat(duesUntil0(3, impl.MaxMoney), impl.MaxPayments) // together far beyond the cash
	checkPropose(t, all, 1, 5, impl.MaxMoney, 0)
	checkPropose(t, all, 1, 5, impl.MaxMoney-1)
}

func TestProposeByDue(t *testing.T) {
	checkPropose(t, duesUntil0(5, 1, 3, 1, 4, 1), 1, 5, 100, 1, 2, 0)
	checkPropose(t, duesUntil0(5, 1, 3, 1, 4, 1), 1, 5, 2, 1, 2)
	checkPropose(t, duesUntil0(5, 100, 4, 1), 1, 5, 100, 1) // the greater one does not fit any more
	// What is overdue, due today and due on the next run; just behind it nothing is due.
	checkPropose(t, duesUntil0(10, 1, 11, 2, 9, 3, 7, 4, 0, 5, 6, 6), 7, 10, 100, 4, 5, 3, 2, 0)
	checkPropose(t, duesUntil0(10, 1), 7, 10, 100, 0)
	checkPropose(t, duesUntil0(11, 1), 7, 10, 100)
	checkPropose(t, duesUntil0(impl.MaxDay, 1), 7, impl.MaxDay, 100, 0)
	checkPropose(t, duesUntil0(impl.MaxDay, 1), 7, impl.MaxDay-1, 100)
}

func TestProposeOfOneDue(t *testing.T) {
	checkPropose(t, duesUntil0(3, 5, 3, 9, 3, 7), 1, 5, 100, 1, 2, 0)
	checkPropose(t, duesUntil0(3, 7, 3, 7, 3, 9, 3, 7), 1, 5, 100, 2, 0, 1, 3)
	checkPropose(t, duesUntil0(3, 7, 2, 1, 3, 9, 2, 4, 3, 7), 1, 5, 100, 3, 1, 2, 0, 4)
	checkPropose(t, duesUntil0(3, 7, 3, 7, 3, 7), 1, 5, 14, 0, 1)
	// What is due has no discount that counts: the Rate does not order it.
	checkPropose(t, billsOf(3, 3, 1, 7, 3, 3, 9, 7, 3, 3, 5, 8), 1, 5, 100, 2, 0, 1)
	// More of one Due than a short sort would leave in their order by chance.
	list, want := []impl.Bill{}, []int{}
	for i := range impl.MaxPayments {
		list = append(list, impl.Bill{Due: 3, Amount: 5 + i%2})
	}
	for _, odd := range []int{1, 0} {
		for i := odd; i < impl.MaxPayments; i += 2 {
			want = append(want, i)
		}
	}
	checkPropose(t, list, 1, 5, 10000, want...)
}

func TestProposePassesOver(t *testing.T) {
	checkPropose(t, duesUntil0(2, 50, 3, 60, 4, 40, 5, 10), 1, 5, 100, 0, 2, 3)
	checkPropose(t, duesUntil0(2, 50, 3, 60, 4, 40, 5, 11), 1, 5, 100, 0, 2)
	checkPropose(t, duesUntil0(3, 101, 3, 100, 3, 1), 1, 5, 100, 1)
	checkPropose(t, duesUntil0(3, 101, 3, 99, 3, 2, 3, 1), 1, 5, 100, 1, 3)
	checkPropose(t, duesUntil0(1, 500, 2, 400, 3, 300, 4, 200, 5, 100), 1, 5, 600, 0, 4)
	// What is due and did not fit leaves its cash to discounts.
	checkPropose(t, append(duesUntil0(3, 101), discountsUntil5(7, 60, 9, 50, 8, 51, 6, 50)...), 1, 5, 100, 2, 4)
	checkPropose(t, append(discountsUntil5(7, 60, 9, 50), duesUntil0(3, 60)...), 1, 5, 100, 2)
	checkPropose(t, append(discountsUntil5(7, 40, 9, 50), duesUntil0(3, 60)...), 1, 5, 100, 2, 0)
}

func TestProposeUntil(t *testing.T) {
	for until, want := range map[int][]int{0: {}, 8: {}, 9: {}, 10: {0}, 11: {0}, 14: {0}, 15: {0}, 16: {}, 17: {}, impl.MaxDay: {}} {
		checkPropose(t, billsOf(1000, until, 9, 7), 10, 15, 100, want...)
		checkPropose(t, billsOf(16, until, 9, 7), 10, 15, 100, want...)
		checkPropose(t, billsOf(1000, until, 0, 7), 10, 15, 100)   // without a Rate there is nothing to gain
		checkPropose(t, billsOf(15, until, 9, 7), 10, 15, 100, 0)  // what is due is due
		checkPropose(t, billsOf(15, until, 0, 7), 10, 15, 100, 0)  // with or without a Rate
		checkPropose(t, billsOf(1000, until, 9, 101), 10, 15, 100) // and nothing is paid that does not fit
		checkPropose(t, billsOf(1000, until, 1, 7), 10, 15, 100, want...)
	}
	// A discount may reach behind the day on which the bill is due.
	checkPropose(t, billsOf(16, 15, 9, 7, 16, 17, 9, 7), 10, 15, 100, 0)
}

func TestProposeByRate(t *testing.T) {
	checkPropose(t, discountsUntil5(5, 1, 9, 1, 7, 1), 1, 5, 100, 1, 2, 0)
	checkPropose(t, discountsUntil5(5, 1, 9, 1, 7, 1, 0, 1), 1, 5, 100, 1, 2, 0)
	checkPropose(t, discountsUntil5(0, 1), 1, 5, 100)
	checkPropose(t, discountsUntil5(1, 1), 1, 5, 100, 0)
	checkPropose(t, discountsUntil5(wholeSale, 1, wholeSale-1, 1), 1, 5, 100, 0, 1)
	// Of equal Rates neither the Amount nor Due nor Until counts, only the order.
	checkPropose(t, discountsUntil5(5, 1, 5, 9, 5, 4), 1, 5, 100, 0, 1, 2)
	checkPropose(t, billsOf(900, 5, 7, 3, 20, 2, 7, 9, 600, 1, 7, 5, 700, 4, 8, 5), 1, 5, 100, 3, 0, 1, 2)
	list, want := []impl.Bill{}, []int{}
	for i := range impl.MaxPayments {
		list = append(list, impl.Bill{Due: 1000 - i, Until: 1 + i%5, Rate: 5 + i%2, Amount: 1 + i})
	}
	for _, odd := range []int{1, 0} {
		for i := odd; i < impl.MaxPayments; i += 2 {
			want = append(want, i)
		}
	}
	checkPropose(t, list, 1, 5, 10000, want...)
}

// What is due comes first, however great a discount is.
func TestProposeDuesAheadOfDiscounts(t *testing.T) {
	bills := append(discountsUntil5(wholeSale, 10), duesUntil0(5, 10, 4, 10)...)
	checkPropose(t, bills, 1, 5, 10, 2)
	checkPropose(t, bills, 1, 5, 20, 2, 1)
	checkPropose(t, bills, 1, 5, 30, 2, 1, 0)
	checkPropose(t, billsOf(6, 5, 1, 10, 5, 5, wholeSale, 10), 1, 5, 10, 1)
}

func someBills(chance *rand.Rand, count, days, most int) []impl.Bill {
	list := make([]impl.Bill, count)
	for i := range list {
		list[i] = impl.Bill{Due: chance.Intn(days), Until: chance.Intn(days), Rate: chance.Intn(4) * chance.Intn(3), Amount: 1 + chance.Intn(most)}
	}
	return list
}

func spoilBill(chance *rand.Rand, b *impl.Bill) {
	switch chance.Intn(4) {
	case 0:
		b.Due = noDays[chance.Intn(len(noDays))]
	case 1:
		b.Until = noDays[chance.Intn(len(noDays))]
	case 2:
		b.Rate = noSaleRates[chance.Intn(len(noSaleRates))]
	case 3:
		b.Amount = noOpenAmounts[chance.Intn(len(noOpenAmounts))]
	}
}

func TestSomeProposals(t *testing.T) {
	chance := rand.New(rand.NewSource(145))
	proposed, none, passed := 0, 0, 0
	for range 6000 {
		most := []int{3, 30, impl.MaxMoney}[chance.Intn(3)]
		bills := someBills(chance, chance.Intn(14), 12, most)
		if chance.Intn(50) == 0 {
			bills = someBills(chance, impl.MaxPayments-chance.Intn(3), 12, most)
		}
		if chance.Intn(8) == 0 && len(bills) > 0 {
			spoilBill(chance, &bills[chance.Intn(len(bills))])
		}
		today, next, cash := chance.Intn(10), chance.Intn(14), min(chance.Intn(1+5*most), impl.MaxMoney)
		if !wantProposed(bills, today, next, cash) {
			noPropose(t, bills, today, next, cash)
			none++
			continue
		}
		want := wantPropose(bills, today, next, cash)
		checkPropose(t, bills, today, next, cash, want...)
		proposed++
		if len(want) > 0 && len(want) < len(wantPropose(bills, today, next, impl.MaxMoney)) {
			passed++
		}
	}
	if proposed < 2000 || none < 1000 || passed < 500 {
		t.Errorf("%d proposed, %d not, %d with bills that do not fit", proposed, none, passed)
	}
}

// Behind the bills stands more, which is neither read nor written; what is answered is new each time.
func TestProposeLeavesItsBills(t *testing.T) {
	whole := billsOf(9, 3, 100, 50, 4, 0, 0, 70, 5, 0, 0, 60, -1, 0, 900, 1, 4, 0, 0, 80)
	kept := slices.Clone(whole)
	checkPropose(t, whole[:3], 1, 5, 180, 1, 2, 0)
	first := impl.Propose(whole[:3], 1, 5, 180)
	for i := range first[:cap(first)] {
		first[:cap(first)][i] = -7
	}
	checkPropose(t, whole[:3], 1, 5, 180, 1, 2, 0)
	checkPropose(t, whole[:1], 1, 5, 180, 0)
	checkPropose(t, whole[:0], 1, 5, 180)
	noPropose(t, whole[:4], 1, 5, 180)
	noPropose(t, whole, 1, 5, 180)
	if !slices.Equal(whole, kept) {
		t.Error("the bills were written into")
	}
	for _, n := range []int{math.MinInt, math.MaxInt} {
		noPropose(t, billsOf(n, n, n, n), n, n, n)
	}
}
