package tests

import (
	"math"
	"math/big"
	"math/rand"
	"slices"
	"testing"

	"loop.example/g00040/impl"
)

const feeDays = 360
const feeDivisor = 36000000

// Paid, kept, taken.
type sold [3]int

func wantFee(o impl.OpenItem, fee, day int) int {
	product := big.NewInt(int64(o.Amount))
	product.Mul(product, big.NewInt(int64(fee)))
	product.Mul(product, big.NewInt(int64(max(o.Day, day)-day)))
	return rounded(product, big.NewInt(feeDivisor), impl.Half)
}

func wantFactor(bills []impl.OpenItem, fee, keep, day int) (sold, bool) {
	if !wantOpenOk(bills) || !isSaleRate(fee) || !isSaleRate(keep) || !isDay(day) || !amount(openTotal(bills)) {
		return sold{}, false
	}
	all, taken := openTotal(bills), 0
	for _, o := range bills {
		if o.Day > day+feeDays {
			return sold{}, false
		}
		taken += wantFee(o, fee, day)
	}
	kept := wantMulDiv(all, keep, wholeSale, impl.Half)
	if all < kept+taken {
		return sold{}, false
	}
	return sold{all - kept - taken, kept, taken}, true
}

func factorOf(bills []impl.OpenItem, fee, keep, day int) sold {
	paid, kept, taken := impl.Factor(bills, fee, keep, day)
	return sold{paid, kept, taken}
}

// P37: what is paid, kept and taken is together what the bills come to; none of them is below 0.
func checkFactor(t *testing.T, bills []impl.OpenItem, fee, keep, day, paid, kept, taken int) {
	t.Helper()
	want := sold{paid, kept, taken}
	own, ok := wantFactor(bills, fee, keep, day)
	got := factorOf(bills, fee, keep, day)
	if got != want || own != want || !ok {
		t.Errorf("Factor(%v, %d, %d, %d) = %v; want %v", bills[:min(4, len(bills))], fee, keep, day, got, want)
	}
	if sumOf(got[:]) != openTotal(bills) || slices.Min(got[:]) < 0 {
		t.Errorf("Factor(%v, %d, %d, %d) = %v: the bills are together %d", bills[:min(4, len(bills))], fee, keep, day, got, openTotal(bills))
	}
}

func noFactor(t *testing.T, bills []impl.OpenItem, fee, keep, day int) {
	t.Helper()
	_, ok := wantFactor(bills, fee, keep, day)
	if got := factorOf(bills, fee, keep, day); got != (sold{}) || ok {
		t.Errorf("Factor(%v, %d, %d, %d) = %v; want 0, 0, 0", bills[:min(4, len(bills))], fee, keep, day, got)
	}
}

func factorAsWanted(t *testing.T, bills []impl.OpenItem, fee, keep, day int) bool {
	t.Helper()
	want, ok := wantFactor(bills, fee, keep, day)
	if ok {
		checkFactor(t, bills, fee, keep, day, want[0], want[1], want[2])
	} else {
		noFactor(t, bills, fee, keep, day)
	}
	return ok
}

func TestFactorByHand(t *testing.T) {
	checkFactor(t, openOf(46, 36000, 3, 10), 10000, 10000, 10, 32049, 3601, 360)
	checkFactor(t, openOf(100, 3600), 10000, 0, 10, 3510, 0, 90)
	checkFactor(t, openOf(100, 3600), 10000, 5000, 10, 3330, 180, 90)
	checkFactor(t, openOf(100, 3600, 190, 7200), 10000, 5000, 10, 9810, 540, 450)
	checkFactor(t, openOf(100, 3600), 0, 5000, 10, 3420, 180, 0)
	checkFactor(t, openOf(100, 3600), 0, 0, 10, 3600, 0, 0)
}

func TestFactorWithoutBills(t *testing.T) {
	checkFactor(t, nil, 10000, 10000, 10, 0, 0, 0)
	checkFactor(t, []impl.OpenItem{}, wholeSale, wholeSale, 10, 0, 0, 0)
	noFactor(t, nil, -1, 0, 10)
}

func TestHowManyBillsThereMayBe(t *testing.T) {
	for _, count := range []int{1, 2, impl.MaxOpen - 1, impl.MaxOpen} {
		checkFactor(t, manyOpen(count, 10), 0, 10000, 0, 9*count, count, 0)
		checkFactor(t, slices.Repeat(openOf(180, 10), count), wholeSale, 10000, 0, 4*count, count, 5*count)
	}
	for _, count := range []int{impl.MaxOpen + 1, impl.MaxOpen + 2, 10000} {
		noFactor(t, slices.Repeat(openOf(180, 10), count), wholeSale, 10000, 0)
		noFactor(t, slices.Repeat(openOf(0, 1), count), 0, 0, 0)
	}
}

func TestFactorOfAmounts(t *testing.T) {
	checkFactor(t, openOf(5, 1), 0, 0, 5, 1, 0, 0)
	checkFactor(t, openOf(5, impl.MaxMoney), 0, 10000, 5, impl.MaxMoney/10*9, impl.MaxMoney/10, 0)
	half := impl.MaxMoney / 2
	checkFactor(t, openOf(5, half, 6, half), 0, 10000, 5, impl.MaxMoney/10*9, impl.MaxMoney/10, 0)
	noFactor(t, openOf(5, half, 6, half+1), 0, 10000, 5)
	noFactor(t, openOf(5, half+1, 6, half), 0, 0, 5)
	noFactor(t, openOf(5, impl.MaxMoney, 6, 1), 0, 10000, 5)
	part := impl.MaxMoney / impl.MaxOpen
	checkFactor(t, slices.Repeat(openOf(5, part), impl.MaxOpen), 0, 0, 5, impl.MaxMoney, 0, 0)
	noFactor(t, append(slices.Repeat(openOf(5, part), impl.MaxOpen-1), openOf(5, part+1)...), 0, 0, 5)
	noFactor(t, manyOpen(impl.MaxOpen, impl.MaxMoney), 0, 0, 5)
	for _, none := range noOpenAmounts {
		noFactor(t, openOf(5, none), 1000, 1000, 5)
		noFactor(t, openOf(5, 1000, 6, none), 1000, 1000, 5)
		noFactor(t, openOf(5, none, 6, 1000), 1000, 1000, 5)
	}
}

func TestFactorByDays(t *testing.T) {
	for _, day := range []int{500, impl.MaxDay - feeDays - 5} {
		for _, off := range []int{-500, -2, -1, 0} { // ahead of the day, or on it
			checkFactor(t, openOf(day+off, 36000), 1000, 0, day, 36000, 0, 0)
		}
		for off := range feeDays + 1 {
			checkFactor(t, openOf(day+off, 36000), 1000, 0, day, 36000-off, 0, off)
		}
		for _, off := range []int{feeDays + 1, feeDays + 2, feeDays + 5} {
			noFactor(t, openOf(day+off, 36000), 1000, 0, day)
			noFactor(t, openOf(day+off, 36000), 0, 1000, day) // also where nothing is taken
			noFactor(t, openOf(day, 36000, day+off, 36000), 1000, 0, day)
			noFactor(t, openOf(day+off, 36000, day, 36000), 1000, 0, day)
		}
	}
	checkFactor(t, openOf(0, 100), wholeSale, 10000, impl.MaxDay, 90, 10, 0)
	checkFactor(t, openOf(impl.MaxDay, 100), wholeSale, 10000, impl.MaxDay, 90, 10, 0)
	checkFactor(t, openOf(impl.MaxDay, 36000), 1000, 0, impl.MaxDay-feeDays, 35640, 0, 360)
	noFactor(t, openOf(impl.MaxDay, 36000), 1000, 0, impl.MaxDay-feeDays-1)
	for _, none := range noDays {
		noFactor(t, openOf(5, 1000), 1000, 1000, none)
		noFactor(t, openOf(none, 1000), 1000, 1000, 5)
		noFactor(t, openOf(none, 1000), 1000, 1000, none)
		noFactor(t, openOf(5, 1000, none, 1000), 1000, 1000, 5)
	}
}

func TestFeeAndKeep(t *testing.T) {
	bill := openOf(100+feeDays/2, 100000)
	for _, rate := range []int{0, 1, 2, wholeSale - 1, wholeSale} {
		checkFactor(t, bill, 0, rate, 100, wholeSale-rate, rate, 0)
		if !factorAsWanted(t, bill, rate, 0, 100) {
			t.Errorf("a fee of %d is refused", rate)
		}
	}
	checkFactor(t, bill, wholeSale, 0, 100, 50000, 0, 50000)
	checkFactor(t, bill, wholeSale, 50000, 100, 0, 50000, 50000) // just nothing is paid
	noFactor(t, bill, wholeSale, 50001, 100)
	for _, none := range noSaleRates {
		noFactor(t, bill, none, 0, 100)
		noFactor(t, bill, 0, none, 100)
		noFactor(t, bill, none, none, 100)
		noFactor(t, openOf(1, 100000), none, 0, 100) // also where the fee is for no day
	}
}

// A half goes up, of each bill alone; what is kept back is of all together.
func TestFactorRoundsTheHalfUp(t *testing.T) {
	rows := [][4]int{ // amount, fee, days, what is taken
		{1, wholeSale, 180, 1}, {1, wholeSale, 179, 0}, {1, 99999, 180, 0}, {3, wholeSale, 180, 2}, {3, wholeSale, 60, 1}, {3, wholeSale, 59, 0},
		{5, 10000, 360, 1}, {4, 10000, 360, 0}, {15, 10000, 360, 2}, {25, 2000, 360, 1}, {24, 2000, 360, 0}, {50, 2000, 180, 1}, {49, 2000, 180, 0}, {450, 40000, 1, 1}, {449, 40000, 1, 0},
	}
	for _, r := range rows {
		checkFactor(t, openOf(7+r[2], r[0]), r[1], 0, 7, r[0]-r[3], 0, r[3])
	}
	checkFactor(t, openOf(180, 1, 180, 1, 180, 1), wholeSale, 0, 0, 0, 0, 3) // 1.5 together
	checkFactor(t, openOf(179, 1, 179, 1, 179, 1), wholeSale, 0, 0, 3, 0, 0)
	checkFactor(t, openOf(0, 1, 0, 1, 0, 1), 0, 50000, 0, 1, 2, 0) // 1.5 of all, not a half of each
	checkFactor(t, openOf(0, 1, 0, 1, 0, 1, 0, 1), 0, 10000, 0, 4, 0, 0)
	checkFactor(t, openOf(0, 1, 0, 1, 0, 1, 0, 1, 0, 1), 0, 10000, 0, 4, 1, 0)
	checkFactor(t, openOf(180, 1, 0, 4), wholeSale, 10000, 0, 3, 1, 1)
}

func TestFactorPaysNoLessThanNothing(t *testing.T) {
	checkFactor(t, openOf(feeDays, 100), wholeSale, 0, 0, 0, 0, 100)
	checkFactor(t, openOf(0, 100), wholeSale, wholeSale, 0, 0, 100, 0)
	checkFactor(t, openOf(180, 100), wholeSale, 50000, 0, 0, 50, 50)
	checkFactor(t, openOf(180, 100), wholeSale, 49499, 0, 1, 49, 50)
	checkFactor(t, openOf(180, 100), wholeSale, 50499, 0, 0, 50, 50)
	noFactor(t, openOf(180, 100), wholeSale, 50500, 0) // 51 would be kept, 50 are taken
	noFactor(t, openOf(feeDays, 100), wholeSale, wholeSale, 0)
	noFactor(t, openOf(feeDays, 100), wholeSale, 500, 0)
	checkFactor(t, openOf(feeDays, 100), wholeSale, 499, 0, 0, 0, 100)
	noFactor(t, openOf(180, 1, 180, 1, 180, 1), wholeSale, 20000, 0)
	noFactor(t, openOf(180, 1), wholeSale, 50000, 0) // the half is kept, and taken
	checkFactor(t, openOf(180, 1), wholeSale, 49999, 0, 0, 0, 1)
}

func TestFactorOfGreatNumbers(t *testing.T) {
	checkFactor(t, openOf(feeDays, impl.MaxMoney), wholeSale, 0, 0, 0, 0, impl.MaxMoney)
	checkFactor(t, openOf(feeDays, impl.MaxMoney), wholeSale-1, 1, 0, 0, impl.MaxMoney/wholeSale, impl.MaxMoney-impl.MaxMoney/wholeSale)
	checkFactor(t, openOf(feeDays-1, impl.MaxMoney), wholeSale, 0, 0, 277777778, 0, 99722222222)
	for _, n := range []int{math.MinInt, math.MaxInt} {
		noFactor(t, openOf(n, n), n, n, n)
	}
}

func TestSomeFactors(t *testing.T) {
	chance := rand.New(rand.NewSource(140))
	taken, refused := 0, 0
	for range 10000 {
		most := []int{5, 1000, impl.MaxMoney / 6}[chance.Intn(3)]
		day := chance.Intn(impl.MaxDay - feeDays)
		bills := someOpen(chance, chance.Intn(9), feeDays+20, most)
		for i := range bills {
			bills[i].Day = max(bills[i].Day+day-20, 0)
		}
		if chance.Intn(8) == 0 && len(bills) > 0 {
			bills[chance.Intn(len(bills))].Amount = noOpenAmounts[chance.Intn(len(noOpenAmounts))]
		}
		if chance.Intn(8) == 0 && len(bills) > 0 {
			bills[chance.Intn(len(bills))].Day = day + feeDays + chance.Intn(3)
		}
		if factorAsWanted(t, bills, chance.Intn(wholeSale+5000)-1000, chance.Intn(wholeSale+5000)-1000, day) {
			taken++
		} else {
			refused++
		}
	}
	if taken < 3000 || refused < 1000 {
		t.Errorf("%d taken, %d refused", taken, refused)
	}
}

// Behind the bills stands more, which is neither read nor written.
func TestFactorLeavesItsBills(t *testing.T) {
	whole := openOf(46, 36000, 3, 10, 5, 0, 46, 1000)
	kept := slices.Clone(whole)
	checkFactor(t, whole[:2], 10000, 10000, 10, 32049, 3601, 360)
	checkFactor(t, whole[:1], 10000, 10000, 10, 32040, 3600, 360)
	checkFactor(t, whole[:0], 10000, 10000, 10, 0, 0, 0)
	noFactor(t, whole[:3], 10000, 10000, 10)
	if !slices.Equal(whole, kept) {
		t.Error("the bills were written into")
	}
}
