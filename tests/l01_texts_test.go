package tests

import (
	"math"
	"math/big"
	"math/rand"
	"regexp"
	"strconv"
	"strings"
	"testing"

	"loop.example/g00040/impl"
)

var noPlaces = []int{math.MinInt, -1, impl.MaxPlaces + 1, 20, math.MaxInt}

func power10(n int) int {
	p := 1
	for range n {
		p *= 10
	}
	return p
}

func wantShow(a, places int) string {
	return new(big.Rat).SetFrac64(int64(a), int64(power10(places))).FloatString(places)
}

func moneyForm(places int) *regexp.Regexp {
	tail := ""
	if places > 0 {
		tail = `(\.[0-9]{1,` + strconv.Itoa(places) + `})?`
	}
	return regexp.MustCompile(`\A-?(0|[1-9][0-9]*)` + tail + `\z`)
}

func wantRead(s string, places int, form *regexp.Regexp) (int, bool) {
	if !form.MatchString(s) {
		return 0, false
	}
	value, _ := new(big.Rat).SetString(s)
	value.Mul(value, new(big.Rat).SetInt64(int64(power10(places))))
	if strings.HasPrefix(s, "-") && value.Sign() == 0 || value.Num().CmpAbs(big.NewInt(impl.MaxMoney)) > 0 {
		return 0, false
	}
	return int(value.Num().Int64()), true
}

func checkRead(t *testing.T, s string, places int, form *regexp.Regexp) {
	t.Helper()
	want, wantOk := wantRead(s, places, form)
	if got, ok := impl.ReadMoney(s, places); got != want || ok != wantOk {
		t.Errorf("ReadMoney(%q, %d) = %d, %v; want %d, %v", s, places, got, ok, want, wantOk)
	}
}

func takeText(t *testing.T, s string, places, want int) {
	t.Helper()
	if got, ok := impl.ReadMoney(s, places); got != want || !ok {
		t.Errorf("ReadMoney(%q, %d) = %d, %v; want %d, true", s, places, got, ok, want)
	}
}

func refuseText(t *testing.T, s string, places int) {
	t.Helper()
	if got, ok := impl.ReadMoney(s, places); got != 0 || ok {
		t.Errorf("ReadMoney(%q, %d) = %d, %v; want 0, false", s, places, got, ok)
	}
}

func testedAmounts() []int {
	list := []int{0, impl.MaxMoney, impl.MaxMoney - 1, 12345678901, 10203040506, 99999999999, 10000000001}
	for p := 1; p < impl.MaxMoney; p *= 10 {
		list = append(list, p-1, p, p+1, 2*p, 5*p)
	}
	for a := range 1100 {
		list = append(list, a)
	}
	r := rand.New(rand.NewSource(3))
	for range 2000 {
		list = append(list, r.Intn(impl.MaxMoney+1), r.Intn(10*impl.MaxFactor))
	}
	for _, a := range list {
		list = append(list, -a)
	}
	return list
}

// A text with noughts at its end stands for the same amount without them, down to the whole part alone.
func checkShorterTexts(t *testing.T, text string, places, want int) {
	t.Helper()
	for strings.Contains(text, ".") && strings.HasSuffix(text, "0") {
		text = strings.TrimSuffix(text[:len(text)-1], ".")
		takeText(t, text, places, want)
	}
}

func TestMoneyReadIsMoneyShown(t *testing.T) {
	amounts := testedAmounts()
	for places := 0; places <= impl.MaxPlaces; places++ {
		for _, a := range amounts {
			text := impl.ShowMoney(a, places)
			if want := wantShow(a, places); text != want {
				t.Errorf("ShowMoney(%d, %d) = %q; want %q", a, places, text, want)
			}
			takeText(t, text, places, a)
			checkShorterTexts(t, text, places, a)
		}
	}
}

func TestShowMoneyByHand(t *testing.T) {
	rows := []struct {
		a      int
		places int
		want   string
	}{
		{0, 0, "0"}, {0, 1, "0.0"}, {0, 6, "0.000000"},
		{7, 0, "7"}, {-7, 0, "-7"}, {7, 1, "0.7"}, {-7, 1, "-0.7"},
		{-5, 2, "-0.05"}, {5, 2, "0.05"}, {50, 2, "0.50"}, {100, 2, "1.00"}, {1200, 2, "12.00"}, {-1234, 2, "-12.34"},
		{1, 6, "0.000001"}, {-1, 6, "-0.000001"}, {999999, 6, "0.999999"}, {1000000, 6, "1.000000"},
		{impl.MaxMoney, 0, "100000000000"}, {-impl.MaxMoney, 0, "-100000000000"},
		{impl.MaxMoney, 6, "100000.000000"}, {-impl.MaxMoney, 2, "-1000000000.00"},
	}
	for _, r := range rows {
		if got := impl.ShowMoney(r.a, r.places); got != r.want {
			t.Errorf("ShowMoney(%d, %d) = %q; want %q", r.a, r.places, got, r.want)
		}
		takeText(t, r.want, r.places, r.a)
	}
}

func TestShowMoneyRefuses(t *testing.T) {
	for places := 0; places <= impl.MaxPlaces; places++ {
		for _, a := range noAmounts {
			if got := impl.ShowMoney(a, places); got != "" {
				t.Errorf("ShowMoney(%d, %d) = %q; want nothing", a, places, got)
			}
		}
	}
	for _, places := range noPlaces {
		for _, a := range []int{math.MinInt, -impl.MaxMoney, -1, 0, 1, 1000000, impl.MaxMoney, math.MaxInt} {
			if got := impl.ShowMoney(a, places); got != "" {
				t.Errorf("ShowMoney(%d, %d) = %q; want nothing", a, places, got)
			}
		}
	}
}

func TestReadMoneyByHand(t *testing.T) {
	takeText(t, "12.5", 2, 1250)
	takeText(t, "12", 2, 1200)
	takeText(t, "-12", 2, -1200)
	takeText(t, "-12.5", 2, -1250)
	takeText(t, "0", 2, 0)
	takeText(t, "0.0", 2, 0)
	takeText(t, "0.00", 2, 0)
	takeText(t, "-0.01", 2, -1)
	takeText(t, "-0.1", 2, -10)
	takeText(t, "10", 0, 10)
	takeText(t, "-10", 0, -10)
	takeText(t, "1", 6, 1000000)
	takeText(t, "1.000001", 6, 1000001)
	takeText(t, "0.5", 1, 5)
}

func TestReadMoneyRefusesTexts(t *testing.T) {
	bad := []string{
		"", "-", ".", "-.", "--1", "- 1", "1-", "+1", "+0", " 1", "1 ", "1\n", "\t1",
		"00", "01", "-01", "00.5", "000", "012", "-00.5", "-012.5",
		"-0", "-0.0", "-0.00",
		"12.", "0.", "-1.", ".5", "-.5", "1..5", "1.5.", "1.5.5", "1.-5", "1.+5", "1. 5",
		"1,5", "1,000", "1_000", "1e3", "1E3", "0x1", "1.5x", "x1.5", "1.0x", "a", "NaN", "Inf", "1/2",
		"١", "１", "1.５", "−1", "1\x00", "\x001", "\xff", "1.\xff",
	}
	for places := 0; places <= impl.MaxPlaces; places++ {
		for _, s := range bad {
			refuseText(t, s, places)
		}
		refuseText(t, "1."+strings.Repeat("0", places+1), places)
		refuseText(t, "1."+strings.Repeat("1", places+1), places)
		refuseText(t, "0."+strings.Repeat("0", places+1), places)
		refuseText(t, "-0."+strings.Repeat("0", places), places)
	}
	refuseText(t, "1.234", 2)
	refuseText(t, "1.0", 0)
	refuseText(t, "1.", 0)
}

func TestReadMoneyRefusesPlaces(t *testing.T) {
	for _, places := range noPlaces {
		for _, s := range []string{"", "0", "1", "1.5", "-1", "1.0000000", "100000000000"} {
			refuseText(t, s, places)
		}
	}
}

func TestReadMoneyAtTheGreatestAmount(t *testing.T) {
	for places := 0; places <= impl.MaxPlaces; places++ {
		most := strconv.Itoa(impl.MaxMoney / power10(places))
		takeText(t, most, places, impl.MaxMoney)
		takeText(t, "-"+most, places, -impl.MaxMoney)
		refuseText(t, wantShow(impl.MaxMoney+1, places), places)
		refuseText(t, wantShow(-impl.MaxMoney-1, places), places)
		refuseText(t, strconv.Itoa(impl.MaxMoney/power10(places)+1), places)
		refuseText(t, most+"0", places)
		for _, long := range []int{13, 18, 19, 20, 21, 40, 10000} {
			refuseText(t, strings.Repeat("9", long), places)
			refuseText(t, "-1"+strings.Repeat("0", long), places)
			refuseText(t, "0."+strings.Repeat("0", long), places)
		}
		// These wrap round to small numbers where an int is let run over.
		for _, s := range []string{"9223372036854775808", "18446744073709551616", "18446744073709551617", "-18446744073709551621", "36893488147419103233"} {
			refuseText(t, s, places)
		}
	}
}

// textsOf: all texts of 0 to most bytes of signs.
func textsOf(signs string, most int) []string {
	all, last := []string{""}, []string{""}
	for range most {
		var next []string
		for _, s := range last {
			for i := range len(signs) {
				next = append(next, s+signs[i:i+1])
			}
		}
		all, last = append(all, next...), next
	}
	return all
}

func TestReadMoneyOfAllShortTexts(t *testing.T) {
	texts := textsOf("-.0179 +", 5)
	for places := 0; places <= impl.MaxPlaces; places++ {
		form := moneyForm(places)
		for _, s := range texts {
			checkRead(t, s, places, form)
		}
	}
}

func TestReadMoneyOfEachByte(t *testing.T) {
	for places := 0; places <= impl.MaxPlaces; places++ {
		form := moneyForm(places)
		for b := range 256 {
			for _, s := range []string{"", "1", "12.5", "-12.5", "0.05", "-3", "70"} {
				for at := range len(s) + 1 {
					checkRead(t, s[:at]+string([]byte{byte(b)})+s[at:], places, form)
				}
				for at := range len(s) {
					checkRead(t, s[:at]+string([]byte{byte(b)})+s[at+1:], places, form)
				}
			}
		}
	}
}

const nameBytes = "abcdefghijklmnopqrstuvwxyzABCDEFGHIJKLMNOPQRSTUVWXYZ0123456789-_."

func TestNameOfEachByte(t *testing.T) {
	for b := range 256 {
		one := string([]byte{byte(b)})
		want := strings.Contains(nameBytes, one)
		for _, s := range []string{one, "a" + one, one + "a", "ab" + one + "cd", strings.Repeat("x", impl.MaxName-1) + one, one + strings.Repeat("x", impl.MaxName-1)} {
			if got := impl.NameOk(s); got != want {
				t.Errorf("NameOk(%q) = %v", s, got)
			}
		}
	}
}

func TestNameOfEachLength(t *testing.T) {
	for n := range 3 * impl.MaxName {
		want := n >= 1 && n <= impl.MaxName
		for _, one := range []string{"a", "Z", "7", "-", "_", "."} {
			if got := impl.NameOk(strings.Repeat(one, n)); got != want {
				t.Errorf("NameOk of %d times %q = %v", n, one, got)
			}
		}
	}
	if impl.NameOk(strings.Repeat("a", 100000)) {
		t.Error("a long text is no name")
	}
}

func TestNamesByHand(t *testing.T) {
	for _, s := range []string{"a", "a-1._", "EUR", "0", "-", "..", "A.b_c-9"} {
		if !impl.NameOk(s) {
			t.Errorf("NameOk(%q) = false", s)
		}
	}
	for _, s := range []string{"", " ", "a b", "a\n", "é", "a/b", "name:", "１", "ſ", "\x00", "a\xff"} {
		if impl.NameOk(s) {
			t.Errorf("NameOk(%q) = true", s)
		}
	}
}
