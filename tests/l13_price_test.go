package tests

import (
	"math"
	"math/rand"
	"slices"
	"testing"

	"loop.example/g00040/impl"
)

// What a rate leaves, in one division: where taking rounds a half up, what is left rounds it down.
func wantLeft(left, rate int) int {
	return (2*left*(wholeSale-rate) + wholeSale - 1) / (2 * wholeSale)
}

func wantSalePrice(price, qty int, ladder []impl.Rung, rates []int) (int, bool) {
	if !isPrice(price) || !isQty(qty) || !wantLadderOk(ladder) || len(rates) > impl.MaxDiscounts {
		return 0, false
	}
	left := wantLeft(price*qty, wantLadderRate(ladder, qty))
	for _, rate := range rates {
		if !isSaleRate(rate) {
			return 0, false
		}
		left = wantLeft(left, rate)
	}
	return left, true
}

func checkSale(t *testing.T, price, qty int, ladder []impl.Rung, rates []int, want int) {
	t.Helper()
	wanted, wantOk := wantSalePrice(price, qty, ladder, rates)
	if got, ok := impl.SalePrice(price, qty, ladder, rates); got != want || !ok || wanted != want || !wantOk {
		t.Errorf("SalePrice(%d, %d, %v, %v) = %d, %v; want %d, true", price, qty, ladder, rates, got, ok, want)
	}
}

func refuseSale(t *testing.T, price, qty int, ladder []impl.Rung, rates []int) {
	t.Helper()
	_, wantOk := wantSalePrice(price, qty, ladder, rates)
	if got, ok := impl.SalePrice(price, qty, ladder, rates); got != 0 || ok || wantOk {
		t.Errorf("SalePrice(%d, %d, %v, %v) = %d, %v; want 0, false", price, qty, ladder[:min(4, len(ladder))], rates[:min(9, len(rates))], got, ok)
	}
}

func saleAsWanted(t *testing.T, price, qty int, ladder []impl.Rung, rates []int) bool {
	t.Helper()
	want, ok := wantSalePrice(price, qty, ladder, rates)
	if ok {
		checkSale(t, price, qty, ladder, rates, want)
	} else {
		refuseSale(t, price, qty, ladder, rates)
	}
	return ok
}

func TestSalePriceByHand(t *testing.T) {
	checkSale(t, 50, 2, handLadder(), nil, 100)
	checkSale(t, 50, 3, handLadder(), nil, 135)
	checkSale(t, 50, 10, handLadder(), nil, 400)
	checkSale(t, 50, 10, handLadder(), []int{50000}, 200)
	checkSale(t, 50, 10, handLadder(), []int{50000, 10000}, 180)
	checkSale(t, 50, 11, handLadder(), nil, 522) // 27.5 are taken as 28
	checkSale(t, 50, 500, handLadder(), nil, 25000)
	checkSale(t, 50, 1000, handLadder(), nil, 0)
	checkSale(t, 50, 1000, handLadder(), []int{50000}, 0)
	checkSale(t, 50, 2, nil, []int{50000}, 50)
	checkSale(t, 50, 2, nil, nil, 100)
	checkSale(t, 50, 2, []impl.Rung{}, []int{}, 100)
}

// The ladder's rate is taken first, then the others, in order: another order may leave another price.
func TestSalePriceStepByStep(t *testing.T) {
	checkSale(t, 33, 1, nil, []int{50000, 50000}, 8)                   // 16, then 8
	checkSale(t, 35, 1, nil, []int{50000, 50000}, 8)                   // 17, then 8; three quarters taken at once would leave 9
	checkSale(t, 1, 1, nil, []int{50000}, 0)                           // a half is taken
	checkSale(t, 1, 1, nil, []int{49999}, 1)                           // less than a half is not
	checkSale(t, 1, 1, nil, []int{49999, 49999, 49999}, 1)             // at once it would be an eighth
	checkSale(t, 7, 1, nil, []int{10000, 10000}, 5)                    // 7 - 1, 6 - 1; at once 19 hundredths of 7 are 1.33
	checkSale(t, 4, 1, nil, []int{10000, 10000, 10000}, 4)             // 0.4 is taken three times as nothing
	checkSale(t, 5, 1, nil, []int{10000, 10000, 10000}, 4)             // 0.5 is taken as 1, then 0.4 twice as nothing
	checkSale(t, 15, 1, nil, []int{50000, 10000}, 6)                   // 7, then 0.7
	checkSale(t, 15, 1, nil, []int{10000, 50000}, 6)                   // 13, then 6.5
	checkSale(t, 13, 1, nil, []int{50000, 10000}, 5)                   // 6, then 0.6
	checkSale(t, 11, 1, nil, []int{30000, 50000}, 4)                   // 8, then 4
	checkSale(t, 11, 1, nil, []int{50000, 30000}, 3)                   // 5, then 1.5
	checkSale(t, 11, 1, rungsOf(1, 30000), []int{50000}, 4)            // as the first two
	checkSale(t, 11, 1, rungsOf(1, 50000), []int{30000}, 3)            // as the other two
	checkSale(t, 1, 11, rungsOf(1, 30000, 11, 50000), []int{30000}, 3) // of the rung for 11
}

func TestSalePriceRoundsTheHalfUp(t *testing.T) {
	rows := [][3]int{ // price, rate, what is left
		{25, 2000, 24}, {24, 2000, 24}, {26, 2000, 25}, {75, 2000, 73}, {74, 2000, 73}, {125, 2000, 122}, {1, 50000, 0}, {1, 50001, 0}, {3, 50000, 1}, {5, 50000, 2}, {5, 10000, 4}, {4, 10000, 4},
	}
	for _, r := range rows {
		checkSale(t, r[0], 1, nil, []int{r[1]}, r[2])
		checkSale(t, r[0], 1, rungsOf(0, r[1]), nil, r[2])
		checkSale(t, r[0], 1, rungsOf(0, r[1]), []int{0, 0}, r[2])
		checkSale(t, r[0], 1, rungsOf(2, 90000), []int{0, r[1]}, r[2])
	}
}

func TestSalePricesOfPricesAndQuantities(t *testing.T) {
	for _, price := range []int{0, 1, 2, impl.MaxPrice - 1, impl.MaxPrice} {
		for _, qty := range []int{0, 1, 2, impl.MaxQty - 1, impl.MaxQty} {
			checkSale(t, price, qty, nil, nil, price*qty)
			checkSale(t, price, qty, rungsOf(0, 0), []int{0}, price*qty)
			checkSale(t, price, qty, rungsOf(0, wholeSale), nil, 0)
			for _, rate := range []int{0, 1, 33333, 50000, wholeSale - 1, wholeSale} {
				if !saleAsWanted(t, price, qty, handLadder(), []int{rate, rate}) {
					t.Errorf("%d of the price %d are refused", qty, price)
				}
			}
		}
	}
	checkSale(t, impl.MaxPrice, impl.MaxQty, nil, nil, impl.MaxMoney)
	checkSale(t, impl.MaxPrice, impl.MaxQty, nil, []int{1}, impl.MaxMoney-impl.MaxMoney/wholeSale)
	for _, none := range noPrices {
		for _, qty := range []int{0, 1, 5, impl.MaxQty} {
			refuseSale(t, none, qty, nil, nil)
			refuseSale(t, none, qty, handLadder(), []int{10000})
		}
	}
	for _, none := range noQtys {
		for _, price := range []int{0, 1, 5, impl.MaxPrice} {
			refuseSale(t, price, none, nil, nil)
			refuseSale(t, price, none, handLadder(), []int{10000})
		}
	}
	refuseSale(t, -1, -1, nil, nil)
	refuseSale(t, math.MinInt, math.MinInt, nil, nil)
}

func TestHowManyDiscountsThereMayBe(t *testing.T) {
	left := 100000
	for count := range impl.MaxDiscounts + 1 {
		checkSale(t, 100000, 1, nil, repeated(50000, count), left)
		checkSale(t, 100000, 1, nil, repeated(0, count), 100000)
		left /= 2 // a half that is left over is taken
	}
	for _, count := range []int{impl.MaxDiscounts + 1, impl.MaxDiscounts + 2, 1000} {
		refuseSale(t, 100000, 1, nil, repeated(50000, count))
		refuseSale(t, 100000, 1, nil, repeated(0, count))
		refuseSale(t, 0, 0, nil, repeated(0, count))
	}
}

func TestRatesOfDiscounts(t *testing.T) {
	for _, rate := range []int{0, 1, wholeSale - 1, wholeSale} {
		checkSale(t, 100000, 1, nil, []int{rate}, wholeSale-rate)
		checkSale(t, 100000, 1, nil, []int{0, rate}, wholeSale-rate)
		checkSale(t, 100000, 1, nil, []int{rate, 0}, wholeSale-rate)
		checkSale(t, 100000, 1, nil, []int{wholeSale, rate}, 0)
	}
	for _, none := range noSaleRates {
		for _, price := range []int{0, 1, 100} {
			refuseSale(t, price, 1, nil, []int{none})
			refuseSale(t, price, 1, nil, []int{wholeSale, none}) // also where nothing is left
			refuseSale(t, price, 1, nil, []int{none, wholeSale})
			refuseSale(t, price, 1, nil, append(repeated(5, impl.MaxDiscounts-1), none))
			refuseSale(t, price, 0, handLadder(), []int{7, none, 7})
		}
	}
}

func TestSalePriceOfWrongLadders(t *testing.T) {
	for _, ladder := range wrongLadders() {
		for _, qty := range []int{0, 1, 3, 5, 100, impl.MaxQty} { // also where no rung, or another one, is used
			refuseSale(t, 50, qty, ladder, nil)
			refuseSale(t, 0, qty, ladder, []int{10000})
		}
	}
	checkSale(t, 50, 1, manyRungs(impl.MaxLadder), nil, 50)
}

func TestSomeSalePrices(t *testing.T) {
	chance := rand.New(rand.NewSource(132))
	taken, refused := 0, 0
	for range 20000 {
		ladder := someLadder(chance)
		if chance.Intn(8) == 0 {
			spoilLadder(chance, ladder)
		}
		rates := make([]int, chance.Intn(impl.MaxDiscounts+2))
		for i := range rates {
			rates[i] = chance.Intn(wholeSale + 1)
		}
		if chance.Intn(8) == 0 && len(rates) > 0 {
			rates[chance.Intn(len(rates))] = noSaleRates[chance.Intn(len(noSaleRates))]
		}
		price, qty := chance.Intn(60), chance.Intn(20)
		if chance.Intn(2) == 0 {
			price, qty = chance.Intn(impl.MaxPrice+2), chance.Intn(impl.MaxQty+2)
		}
		if saleAsWanted(t, price, qty, ladder, rates) {
			taken++
		} else {
			refused++
		}
	}
	if taken < 10000 || refused < 1500 {
		t.Errorf("%d taken, %d refused", taken, refused)
	}
}

// Behind the lists stands more, which is neither read nor written.
func TestSalePriceLeavesItsLists(t *testing.T) {
	ladder := append(handLadder(), impl.Rung{From: 3, Rate: -1})
	rates := append(repeated(0, 2), wholeSale, -1, 50000)
	keptLadder, keptRates := slices.Clone(ladder), slices.Clone(rates)
	checkSale(t, 50, 10, ladder[:5], rates[:2], 400)
	checkSale(t, 50, 10, ladder[:1], rates[:2], 450)
	checkSale(t, 50, 10, ladder[:0], rates[:0], 500)
	checkSale(t, 50, 10, ladder[:5], rates[:3], 0)
	refuseSale(t, 50, 10, ladder[:5], rates[:4])
	refuseSale(t, 50, 10, ladder[:6], rates[:2])
	if !slices.Equal(ladder, keptLadder) || !slices.Equal(rates, keptRates) {
		t.Error("the ladder or the rates were written into")
	}
}
