package tests

import (
	"math/rand"
	"slices"
	"strconv"
	"strings"
	"testing"

	"loop.example/g00040/impl"
)

var noNames = []string{"", " ", "a b", "a,b", "eur\n", "\x00", "é", "e$", "a/b", strings.Repeat("a", impl.MaxName+1)}

func checkCursOk(t *testing.T, list []impl.Cur, want bool) {
	t.Helper()
	if got := impl.CursOk(list); got != want {
		t.Errorf("CursOk(%+v) = %v; want %v", list, got, want)
	}
}

func checkCash(t *testing.T, step, a, want, off int) {
	t.Helper()
	c := impl.Cur{Code: "eur", Places: 2, Step: step}
	if got, gotOff, ok := impl.Cash(c, a); got != want || gotOff != off || !ok {
		t.Errorf("Cash(step %d, %d) = %d, %d, %v; want %d, %d", step, a, got, gotOff, ok, want, off)
	}
}

func refuseCash(t *testing.T, c impl.Cur, a int) {
	t.Helper()
	if got, off, ok := impl.Cash(c, a); got != 0 || off != 0 || ok {
		t.Errorf("Cash(%+v, %d) = %d, %d, %v; want 0, 0, false", c, a, got, off, ok)
	}
}

// checkCashPromise asks P9 of the answer alone: whole coins, at most half a coin off, and off is told. It tells whether there was one.
func checkCashPromise(t *testing.T, step, a int) bool {
	t.Helper()
	coins, off, ok := impl.Cash(impl.Cur{Code: "c", Step: step}, a)
	if !ok {
		return false
	}
	if !amount(coins) || coins%step != 0 || coins-off != a || 2*max(off, -off) > step {
		t.Errorf("Cash(step %d, %d) = %d, %d", step, a, coins, off)
	}
	return true
}

func manyCurs(count int) []impl.Cur {
	list := make([]impl.Cur, count)
	for i := range list {
		list[i] = impl.Cur{Code: "c" + strconv.Itoa(i), Places: i % (impl.MaxPlaces + 1), Step: 1 + i}
	}
	return list
}

func TestHowManyCurrenciesThereMayBe(t *testing.T) {
	checkCursOk(t, nil, false)
	checkCursOk(t, []impl.Cur{}, false)
	for count := 1; count <= impl.MaxCurs; count++ {
		checkCursOk(t, manyCurs(count), true)
	}
	for _, count := range []int{impl.MaxCurs + 1, impl.MaxCurs + 2, 1000} {
		checkCursOk(t, manyCurs(count), false)
	}
}

// eachPlace puts c at each place of a right list; the others stay as they are.
func eachPlace(c impl.Cur) [][]impl.Cur {
	lists := [][]impl.Cur{{c}}
	for _, count := range []int{2, 3, impl.MaxCurs} {
		for at := range count {
			list := manyCurs(count)
			list[at] = c
			lists = append(lists, list)
		}
	}
	return lists
}

func checkCur(t *testing.T, c impl.Cur, want bool) {
	t.Helper()
	for _, list := range eachPlace(c) {
		checkCursOk(t, list, want)
	}
	if want {
		if got, off, ok := impl.Cash(c, 0); got != 0 || off != 0 || !ok {
			t.Errorf("Cash(%+v, 0) = %d, %d, %v", c, got, off, ok)
		}
		return
	}
	for _, a := range []int{-impl.MaxMoney, -13, 0, 10, 13, impl.MaxMoney} {
		refuseCash(t, c, a)
	}
}

func TestCodeOfACurrency(t *testing.T) {
	for _, code := range []string{"a", "Z", "9", "-", "_", ".", "EUR", "a-1._", strings.Repeat("a", impl.MaxName)} {
		checkCur(t, impl.Cur{Code: code, Places: 2, Step: 5}, true)
	}
	for _, code := range noNames {
		checkCur(t, impl.Cur{Code: code, Places: 2, Step: 5}, false)
	}
}

func TestPlacesOfACurrency(t *testing.T) {
	for places := 0; places <= impl.MaxPlaces; places++ {
		checkCur(t, impl.Cur{Code: "eur", Places: places, Step: 1}, true)
	}
	for _, places := range noPlaces {
		checkCur(t, impl.Cur{Code: "eur", Places: places, Step: 1}, false)
	}
}

func TestStepOfACurrency(t *testing.T) {
	for _, step := range []int{1, 2, 5, impl.MaxFactor - 1, impl.MaxFactor} {
		checkCur(t, impl.Cur{Code: "eur", Step: step}, true)
	}
	for _, step := range noDivisors {
		checkCur(t, impl.Cur{Code: "eur", Step: step}, false)
	}
	checkCur(t, impl.Cur{}, false)
}

func TestNoCodeTwice(t *testing.T) {
	for _, count := range []int{2, 3, impl.MaxCurs} {
		for i := range count {
			for j := range i {
				list := manyCurs(count)
				list[i].Code = list[j].Code
				checkCursOk(t, list, false)
				list[i].Code = strings.ToUpper(list[j].Code) // another name
				checkCursOk(t, list, true)
				list[i].Code = list[j].Code + "-"
				checkCursOk(t, list, true)
			}
		}
	}
}

func TestCurrenciesAreNeitherWrittenNorReadBehind(t *testing.T) {
	room := append(manyCurs(5), impl.Cur{Code: "c0", Places: -1}, impl.Cur{Code: "c1", Step: -1})
	kept := slices.Clone(room)
	checkCursOk(t, room[:5], true)
	checkCursOk(t, room[:6], false)
	if !slices.Equal(room, kept) {
		t.Error("the currencies were written into, or behind them")
	}
}

func TestCashByHand(t *testing.T) {
	rows := [][4]int{ // step, a, coins, off
		{1, 0, 0, 0}, {1, 1, 1, 0}, {1, 7, 7, 0},
		{2, 1, 2, 1}, {2, 2, 2, 0}, {2, 3, 4, 1},
		{5, 0, 0, 0}, {5, 1, 0, -1}, {5, 2, 0, -2}, {5, 3, 5, 2}, {5, 4, 5, 1}, {5, 5, 5, 0}, {5, 12, 10, -2}, {5, 13, 15, 2},
		{10, 4, 0, -4}, {10, 5, 10, 5}, {10, 6, 10, 4}, {10, 14, 10, -4}, {10, 15, 20, 5}, {10, 25, 30, 5},
		{100, 49, 0, -49}, {100, 50, 100, 50}, {100, 149, 100, -49}, {100, 150, 200, 50}, {100, 151, 200, 49},
		{impl.MaxFactor, 4999999, 0, -4999999}, {impl.MaxFactor, 5000000, impl.MaxFactor, 5000000}, {impl.MaxFactor, 5000001, impl.MaxFactor, 4999999},
	}
	for _, r := range rows {
		checkCash(t, r[0], r[1], r[2], r[3])
		checkCash(t, r[0], -r[1], -r[2], -r[3])
	}
}

func TestCashOfSmallAmounts(t *testing.T) {
	for step := 1; step <= 25; step++ {
		for a := -120; a <= 120; a++ {
			want := wantMulDiv(a, 1, step, impl.Half) * step
			checkCash(t, step, a, want, want-a)
			if !checkCashPromise(t, step, a) {
				t.Errorf("Cash(step %d, %d) is refused", step, a)
			}
		}
	}
}

func TestCashOfGreatAmounts(t *testing.T) {
	chance := rand.New(rand.NewSource(6))
	for range 20000 {
		step := someDivisor(chance)
		a := chance.Intn(2*impl.MaxMoney+1) - impl.MaxMoney
		if a > impl.MaxMoney-step || a < step-impl.MaxMoney {
			continue
		}
		want := wantMulDiv(a, 1, step, impl.Half) * step
		checkCash(t, step, a, want, want-a)
		if !checkCashPromise(t, step, a) {
			t.Errorf("Cash(step %d, %d) is refused", step, a)
		}
	}
}

func TestCashAtTheGreatestAmount(t *testing.T) {
	for _, sign := range []int{-1, 1} {
		most := sign * impl.MaxMoney
		for _, step := range []int{1, 2, 5, 100, impl.MaxFactor} {
			checkCash(t, step, most, most, 0)
		}
		checkCash(t, impl.MaxFactor, most-sign, most, sign)
		checkCash(t, impl.MaxFactor, most-sign*5000000, most, sign*5000000)
		checkCash(t, impl.MaxFactor, most-sign*5000001, most-sign*impl.MaxFactor, -sign*4999999)
		// By 3 it is 1 above a multiple, by 7 5 above one: the next would be past the amounts.
		checkCash(t, 3, most, most-sign, -sign)
		checkCash(t, 7, most-sign*2, most-sign*5, -sign*3)
		for past := range 2 {
			refuseCash(t, impl.Cur{Code: "c", Step: 7}, most-sign*past)
		}
		checkCash(t, impl.MaxFactor-1, most, most-sign*10000, -sign*10000)
		// By 60000 it is 40000 above a multiple, by 4096 just half of it.
		refuseCash(t, impl.Cur{Code: "c", Step: 60000}, most)
		refuseCash(t, impl.Cur{Code: "c", Step: 4096}, most)
		checkCash(t, 4096, most-sign, most-sign*2048, -sign*2047)
	}
}

func TestCashOfWhatIsNoAmount(t *testing.T) {
	for _, a := range noAmounts {
		for _, step := range []int{1, 2, 3, 7, impl.MaxFactor - 1, impl.MaxFactor} {
			refuseCash(t, impl.Cur{Code: "c", Step: step}, a)
		}
		refuseCash(t, impl.Cur{}, a)
	}
}

// Places are how an amount is written: they change nothing of what is paid.
func TestCashAtEachNumberOfPlaces(t *testing.T) {
	for places := 0; places <= impl.MaxPlaces; places++ {
		if got, off, ok := impl.Cash(impl.Cur{Code: "c", Places: places, Step: 5}, 13); got != 15 || off != 2 || !ok {
			t.Errorf("at %d places: %d, %d, %v", places, got, off, ok)
		}
	}
}
