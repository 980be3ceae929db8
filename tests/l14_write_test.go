package tests

import (
	"fmt"
	"math/rand"
	"slices"
	"strings"
	"testing"

	"loop.example/g00040/impl"
)

const checkPrime = 65521

var noTos = []string{
	"", "XX", "XX90", "XX9000", "XX90000", "XX910000", "xx900000", "XX90000a", "XX900000 ", " XX900000", "XX900000\n", "XX900000|", "XX90|0000", "XX9000é", "1X900000",
	"MT84MALT011000012345MTLCAST001S", strings.Repeat("X", 1000),
}

var barNames = append([]string{"|", "a|b", "r|", "|r", "a|1.00", "r\n", "\n", "T|1"}, noNames...)

func payOut(to, ref string, amount int) impl.Payment {
	return impl.Payment{To: to, Ref: ref, Amount: amount}
}

func handPayments() []impl.Payment {
	return []impl.Payment{payOut("XX900000", "r", 1234), payOut("DE89370400440532013000", "bill-7", 5), payOut("MU17BOMM0101101030300200000MUR", strings.Repeat("n", impl.MaxName), 100000000), payOut("XX900000", "r", 1234)}
}

const handHead = "H|5|4|1000024.73\n"
const handLines = "P|XX900000|r|12.34\nP|DE89370400440532013000|bill-7|0.05\nP|MU17BOMM0101101030300200000MUR|nnnnnnnnnnnnnnnnnnnn|1000000.00\nP|XX900000|r|12.34\n"

// The check as a sum of powers, from the last byte on: each byte times 31 to the number of those behind it, and 7 as a byte ahead of all.
func wantCheck(text string) string {
	all, power := 0, 1
	for i := len(text) - 1; i >= 0; i-- {
		all += power * int(text[i])
		power = power * 31 % checkPrime
	}
	return fmt.Sprint((all + 7*power) % checkPrime)
}

func withTail(text string) string { return text + "T|" + wantCheck(text) + "\n" }

func wantPayment(p impl.Payment) bool {
	return wantAccountNumber(p.To) && accountName.MatchString(p.Ref) && p.Amount > 0 && p.Amount <= impl.MaxMoney
}

func wantBank(day int, list []impl.Payment) string {
	if !isDay(day) || len(list) == 0 || len(list) > impl.MaxPayments {
		return ""
	}
	lines, all := "", 0
	for _, p := range list {
		if !wantPayment(p) {
			return ""
		}
		lines += fmt.Sprintf("P|%s|%s|%d.%02d\n", p.To, p.Ref, p.Amount/100, p.Amount%100)
		all += p.Amount
	}
	text := withTail(fmt.Sprintf("H|%d|%d|%d.%02d\n%s", day, len(list), all/100, all%100, lines))
	if all > impl.MaxMoney || len(text) > impl.MaxBank {
		return ""
	}
	return text
}

// P38, first part: what is written is read as it was.
func checkBank(t *testing.T, day int, list ...impl.Payment) string {
	t.Helper()
	want, got := wantBank(day, list), impl.WriteBank(day, list)
	if got != want || got == "" {
		t.Errorf("WriteBank(%d, %v) = %q; want %q", day, list[:min(4, len(list))], got, want)
	}
	back, readDay, told := impl.ReadBank(got)
	if told != impl.BankOk || readDay != day || !slices.Equal(back, list) {
		t.Errorf("ReadBank(%q) = %v, %d, %d; want %v, %d, BankOk", got, back, readDay, told, list[:min(4, len(list))], day)
	}
	return got
}

func refuseBank(t *testing.T, day int, list ...impl.Payment) {
	t.Helper()
	if got := impl.WriteBank(day, list); got != "" || wantBank(day, list) != "" {
		t.Errorf("WriteBank(%d, %d payments: %v) = %q; want nothing", day, len(list), list[:min(4, len(list))], got)
	}
}

func bankAsWanted(t *testing.T, day int, list ...impl.Payment) bool {
	t.Helper()
	if wantBank(day, list) == "" {
		refuseBank(t, day, list...)
		return false
	}
	checkBank(t, day, list...)
	return true
}

// The payment that is none stands alone, first, in the midst and last.
func refusePayment(t *testing.T, p impl.Payment) {
	t.Helper()
	refuseBank(t, 5, p)
	for at := range len(handPayments()) + 1 {
		refuseBank(t, 5, slices.Insert(handPayments(), at, p)...)
	}
}

func TestBankFileByHand(t *testing.T) {
	if got := checkBank(t, 5, handPayments()...); got != withTail(handHead+handLines) {
		t.Errorf("WriteBank = %q", got)
	}
	for i := range handPayments() {
		checkBank(t, 5, handPayments()[i:]...)
		checkBank(t, 5, handPayments()[i])
	}
	// Reckoned by hand: ten bytes and a line end, then one payment.
	if got := impl.WriteBank(0, []impl.Payment{payOut("XX900000", "a", 1)}); got != "H|0|1|0.01\nP|XX900000|a|0.01\nT|"+wantCheck("H|0|1|0.01\nP|XX900000|a|0.01\n")+"\n" {
		t.Errorf("WriteBank = %q", got)
	}
}

func manyPayments(count, amount int) []impl.Payment {
	list := make([]impl.Payment, count)
	for i := range list {
		list[i] = payOut(knownNumbers[i%len(knownNumbers)], fmt.Sprintf("r%d", i), amount)
	}
	return list
}

func TestHowManyPaymentsThereMayBe(t *testing.T) {
	for count := 1; count <= impl.MaxPayments; count++ {
		checkBank(t, 7, manyPayments(count, 100+count)...)
	}
	refuseBank(t, 7)
	refuseBank(t, 7, []impl.Payment{}...)
	for _, count := range []int{impl.MaxPayments + 1, impl.MaxPayments + 2, 1000, 100000} {
		refuseBank(t, 7, manyPayments(count, 1)...)
	}
	refuseBank(t, 7, make([]impl.Payment, 100000)...)
}

func TestDaysOfBankFiles(t *testing.T) {
	for _, day := range []int{0, 1, 9, 10, 11, 100, 9999, 10000, impl.MaxDay - 1, impl.MaxDay} {
		if got := checkBank(t, day, handPayments()...); !strings.HasPrefix(got, fmt.Sprintf("H|%d|4|", day)) {
			t.Errorf("of day %d: %q", day, got)
		}
	}
	for _, none := range noDays {
		refuseBank(t, none, handPayments()...)
		refuseBank(t, none)
	}
}

func TestPaymentsThatAreNone(t *testing.T) {
	for _, to := range noTos {
		refusePayment(t, payOut(to, "r", 5))
	}
	for _, to := range knownNumbers {
		checkBank(t, 5, payOut(to, "r", 5))
	}
	for _, ref := range barNames {
		refusePayment(t, payOut("XX900000", ref, 5))
	}
	for _, ref := range []string{"a", "Z", "0", "-", "_", ".", "--", "T", "H", "P", "0.00", strings.Repeat("n", impl.MaxName)} {
		checkBank(t, 5, payOut("XX900000", ref, 5))
		checkBank(t, 5, append(handPayments(), payOut("XX900000", ref, 5))...)
	}
	for _, a := range noOpenAmounts {
		refusePayment(t, payOut("XX900000", "r", a))
	}
	refusePayment(t, impl.Payment{})
}

func TestAmountsOfPayments(t *testing.T) {
	for text, a := range map[string]int{"0.01": 1, "0.09": 9, "0.10": 10, "0.99": 99, "1.00": 100, "10.00": 1000, "12.05": 1205, "999999999.99": impl.MaxMoney - 1, "1000000000.00": impl.MaxMoney} {
		if got := checkBank(t, 5, payOut("XX900000", "r", a)); !strings.HasPrefix(got, "H|5|1|"+text+"\nP|XX900000|r|"+text+"\nT|") {
			t.Errorf("of %d: %q", a, got)
		}
	}
}

func TestSumsOfPayments(t *testing.T) {
	half := impl.MaxMoney / 2
	pay := func(a int) impl.Payment { return payOut("XX900000", "r", a) }
	checkBank(t, 5, pay(half), pay(half))
	checkBank(t, 5, pay(half), pay(half-1), pay(1))
	checkBank(t, 5, pay(impl.MaxMoney-1), pay(1))
	refuseBank(t, 5, pay(half), pay(half+1))
	refuseBank(t, 5, pay(half), pay(half), pay(1))
	refuseBank(t, 5, pay(impl.MaxMoney), pay(1))
	refuseBank(t, 5, pay(1), pay(impl.MaxMoney))
	refuseBank(t, 5, manyPayments(impl.MaxPayments, impl.MaxMoney)...)
	part := impl.MaxMoney / impl.MaxPayments
	checkBank(t, 5, manyPayments(impl.MaxPayments, part)...)
	refuseBank(t, 5, append(manyPayments(impl.MaxPayments-1, part), pay(part+1))...)
	// Two that are none, and together an amount.
	refuseBank(t, 5, pay(-1), pay(2))
	refuseBank(t, 5, pay(impl.MaxMoney+1), pay(-1))
	refuseBank(t, 5, pay(-impl.MaxMoney), pay(impl.MaxMoney), pay(5))
}

// The longest payments there are, as many as there may be: their file is far from MaxBank, so WriteBank never comes to it.
func TestLongestBankFile(t *testing.T) {
	list := []impl.Payment{}
	for range impl.MaxPayments {
		list = append(list, payOut("MU17BOMM0101101030300200000MUR", strings.Repeat("n", impl.MaxName), impl.MaxMoney/impl.MaxPayments))
	}
	if got := checkBank(t, impl.MaxDay, list...); len(got) > impl.MaxBank {
		t.Errorf("the longest file has %d bytes", len(got))
	}
}

// Checks are in 0 .. 65520: files are looked for whose check is short.
func TestChecksOfBankFiles(t *testing.T) {
	sizes := map[int]int{}
	for a := range 30000 {
		text := impl.WriteBank(5, []impl.Payment{payOut("XX900000", "r", a+1)})
		tail := text[strings.Index(text, "T|")+2:]
		if sizes[len(tail)]++; sizes[len(tail)] < 20 {
			checkBank(t, 5, payOut("XX900000", "r", a+1))
		}
		if strings.HasPrefix(tail, "0") && tail != "0\n" {
			t.Errorf("a check with a needless nought: %q", text)
		}
	}
	for size := 3; size <= 6; size++ { // of two to five digits, and the line end
		if sizes[size] == 0 {
			t.Errorf("no check of %d bytes", size)
		}
	}
}

func somePayments(chance *rand.Rand, count, most int) []impl.Payment {
	list := make([]impl.Payment, count)
	for i := range list {
		list[i] = payOut(someNumber(chance), someSigns(chance, nameBytes, 1+chance.Intn(impl.MaxName)), 1+chance.Intn(most))
	}
	return list
}

func spoilPayment(chance *rand.Rand, p *impl.Payment) {
	switch chance.Intn(4) {
	case 0:
		p.To = noTos[chance.Intn(len(noTos))]
	case 1:
		p.To = withByte(p.To, 4+chance.Intn(4), capitals[chance.Intn(len(capitals))])
	case 2:
		p.Ref = barNames[chance.Intn(len(barNames))]
	case 3:
		p.Amount = noOpenAmounts[chance.Intn(len(noOpenAmounts))]
	}
}

func TestSomeBankFiles(t *testing.T) {
	chance := rand.New(rand.NewSource(142))
	right, wrong := 0, 0
	for range 3000 {
		most := []int{100, 1000000, impl.MaxMoney / 6}[chance.Intn(3)]
		list := somePayments(chance, 1+chance.Intn(9), most)
		if chance.Intn(50) == 0 {
			list = somePayments(chance, impl.MaxPayments-1+chance.Intn(3), most)
		}
		if chance.Intn(4) == 0 {
			spoilPayment(chance, &list[chance.Intn(len(list))])
		}
		if bankAsWanted(t, chance.Intn(impl.MaxDay+1), list...) {
			right++
		} else {
			wrong++
		}
	}
	if right < 1500 || wrong < 300 {
		t.Errorf("%d right, %d wrong", right, wrong)
	}
}

// Behind the payments stands more, which is neither read nor written.
func TestWriteBankLeavesItsPayments(t *testing.T) {
	whole := append(handPayments(), payOut("", "|", -1), payOut("XX900000", "r", 7))
	kept := slices.Clone(whole)
	for n := 1; n <= 4; n++ {
		checkBank(t, 5, whole[:n]...)
	}
	refuseBank(t, 5, whole[:0]...)
	refuseBank(t, 5, whole[:5]...)
	refuseBank(t, 5, whole...)
	if !slices.Equal(whole, kept) {
		t.Error("the payments were written into")
	}
}
