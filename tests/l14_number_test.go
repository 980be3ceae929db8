package tests

import (
	"fmt"
	"math/big"
	"math/rand"
	"regexp"
	"strconv"
	"strings"
	"testing"

	"loop.example/g00040/impl"
)

const capitals = "ABCDEFGHIJKLMNOPQRSTUVWXYZ"
const tenDigits = "0123456789"

const leastNumber = 8 // bytes of an account number
const mostNumber = 30

var numberForm = regexp.MustCompile(`\A[A-Z]{2}[0-9]{2}[A-Z0-9]{4,26}\z`)

// Numbers as banks give them out.
var knownNumbers = []string{
	"DE89370400440532013000", "GB82WEST12345698765432", "FR1420041010050500013M02606", "NO9386011117947", "BE68539007547034", "CH9300762011623852957",
	"AT611904300234573201", "NL91ABNA0417164300", "ES9121000418450200051332", "BR1500000000000010932840814P2", "MU17BOMM0101101030300200000MUR", "XX900000",
}

var noLands = []string{
	"", "X", "XXX", "XXXX", "xx", "Xx", "xX", "X1", "1X", "11", "X ", " X", "X-", "X|", "X\n", "\x00X", "X\xff", "É", "\xc3\x89", "ÄX", "Ａ", "X@", "[X", "`X",
}

// The digits of base 36 have the values that the letters have; the number is a big one.
func numberRest(s string) int64 {
	digits := ""
	for _, sign := range strings.Split(s[4:]+s[:4], "") {
		value, err := strconv.ParseInt(sign, 36, 64)
		if err != nil {
			return -1
		}
		digits += fmt.Sprint(value)
	}
	whole, _ := new(big.Int).SetString(digits, 10)
	return new(big.Int).Mod(whole, big.NewInt(97)).Int64()
}

func wantAccountNumber(s string) bool { return numberForm.MatchString(s) && numberRest(s) == 1 }

// All checks are tried, from 02 to 98; just one of them makes an account number.
func wantMade(land, rest string) string {
	made := ""
	for check := 2; check <= 98; check++ {
		if s := fmt.Sprintf("%s%02d%s", land, check, rest); len(land) == 2 && wantAccountNumber(s) {
			if made != "" {
				panic("two checks of " + s)
			}
			made = s
		}
	}
	return made
}

func checkNumber(t *testing.T, s string, want bool) {
	t.Helper()
	if got := impl.AccountNumber(s); got != want || wantAccountNumber(s) != want {
		t.Errorf("AccountNumber(%q) = %v; want %v", s[:min(60, len(s))], got, want)
	}
}

func numberAsWanted(t *testing.T, s string) bool {
	t.Helper()
	checkNumber(t, s, wantAccountNumber(s))
	return wantAccountNumber(s)
}

// P39, first part: what is made is an account number, of that land and that rest.
func checkMade(t *testing.T, land, rest, want string) string {
	t.Helper()
	got := impl.MakeNumber(land, rest)
	if got != want || wantMade(land, rest) != want {
		t.Errorf("MakeNumber(%q, %q) = %q; want %q", land, rest, got, want)
	}
	checkNumber(t, got, true)
	return got
}

func refuseMade(t *testing.T, land, rest string) {
	t.Helper()
	if got := impl.MakeNumber(land, rest); got != "" || wantMade(land, rest) != "" {
		t.Errorf("MakeNumber(%q, %q) = %q; want nothing", land[:min(60, len(land))], rest[:min(60, len(rest))], got)
	}
}

func withByte(s string, at int, b byte) string { return s[:at] + string([]byte{b}) + s[at+1:] }

// P39, second part: one digit made another digit, or one letter another letter, is refused.
func checkTurnedNumber(t *testing.T, s string) {
	t.Helper()
	for at := range len(s) {
		alike := tenDigits
		if strings.Contains(capitals, s[at:at+1]) {
			alike = capitals
		}
		for i := range len(alike) {
			if other := withByte(s, at, alike[i]); other != s {
				checkNumber(t, other, false)
			}
		}
	}
}

func TestAccountNumbersByHand(t *testing.T) {
	for _, s := range knownNumbers {
		checkNumber(t, s, true)
		checkTurnedNumber(t, s)
		checkMade(t, s[:2], s[4:], s)
	}
	checkNumber(t, "XX910000", false)
	checkNumber(t, "GB82TEST12345698765432", false)
	checkNumber(t, "DE89370400440532013001", false)
}

// Numbers of real lands with 31 and 32 bytes are right by their rest, and too long.
func TestHowLongAnAccountNumberMayBe(t *testing.T) {
	for _, s := range []string{"MT84MALT011000012345MTLCAST001S", "LC55HEMM000100010012001200023015"} {
		if numberRest(s) != 1 {
			t.Errorf("%s has another rest", s)
		}
		checkNumber(t, s, false)
		refuseMade(t, s[:2], s[4:])
	}
	for size := range 3 * mostNumber {
		// Of each length there are texts with the rest 1.
		found := 0
		for check := range 100 {
			s := fmt.Sprintf("XX%02d%s", check, strings.Repeat("7A0", size)[:max(size-4, 0)])[:size]
			isOne := size >= 4 && numberRest(s) == 1
			if isOne {
				found++
			}
			checkNumber(t, s, isOne && size >= leastNumber && size <= mostNumber)
		}
		if size >= 4 && found == 0 {
			t.Errorf("none of %d bytes has the rest 1", size)
		}
	}
	checkNumber(t, "", false)
	checkNumber(t, strings.Repeat("X", 1000000), false)
	checkNumber(t, "XX90"+strings.Repeat("0", 1000000), false)
}

func TestBytesOfAccountNumbers(t *testing.T) {
	for _, s := range knownNumbers {
		for at := range len(s) {
			for b := range 256 {
				numberAsWanted(t, withByte(s, at, byte(b)))
				numberAsWanted(t, s[:at]+string([]byte{byte(b)})+s[at:])
			}
			numberAsWanted(t, s[:at]+s[at+1:])
			checkNumber(t, s[:at]+strings.ToLower(s[at:at+1])+s[at+1:], strings.ToLower(s[at:at+1]) == s[at:at+1])
		}
		checkNumber(t, strings.ToLower(s), false)
		for _, more := range []string{" ", "\n", "\x00", "|", "-", "é", "\xff"} {
			checkNumber(t, s+more, false)
			checkNumber(t, more+s, false)
			checkNumber(t, s[:4]+more+s[4:], false)
		}
	}
}

// A digit where a letter must stand, and a letter where a digit must, with each rest by 97.
func TestLettersAndDigitsInTheirPlaces(t *testing.T) {
	for _, form := range []string{"1X%02d0000", "X1%02d0000", "11%02d0000", "xX%02d0000", "Xx%02d0000", "XX%02d000a", "XX%02da000", "XX%02d00-0", "XX%02d0 00", "XX%02d00.0"} {
		for check := range 100 {
			checkNumber(t, fmt.Sprintf(form, check), false)
		}
	}
	for _, land := range []string{"XX", "AA", "ZZ"} {
		for i := range len(capitals) {
			for k := range len(tenDigits) {
				letter, digit := capitals[i:i+1], tenDigits[k:k+1]
				for _, check := range []string{letter + digit, digit + letter, letter + letter, " " + digit, digit + " ", "-" + digit, "+" + digit} {
					for _, rest := range []string{"0000", "1A2B"} {
						checkNumber(t, land+check+rest, false)
					}
				}
			}
		}
	}
	for b := range 256 {
		one := string([]byte{byte(b)})
		for check := range 100 {
			numberAsWanted(t, fmt.Sprintf("X%s%02d0000", one, check))
			numberAsWanted(t, fmt.Sprintf("%sX%02d0000", one, check))
			numberAsWanted(t, fmt.Sprintf("XX%02d000%s", check, one))
		}
	}
}

// Of the 100 checks of a number one or two have the rest 1: 00 and 97, 01 and 98, 02 and 99 differ by 97. All of them are two digits.
func TestEveryRestOfAccountNumbers(t *testing.T) {
	rests := map[int64]int{}
	twice := 0
	for n := range 300 {
		rest := fmt.Sprintf("%04d", 37*n)
		right := []int{}
		for check := range 100 {
			s := fmt.Sprintf("QZ%02d%s", check, rest)
			rests[numberRest(s)]++
			if numberAsWanted(t, s) {
				right = append(right, check)
			}
		}
		switch len(right) {
		case 1:
		case 2:
			twice++
			if right[1]-right[0] != 97 {
				t.Errorf("checks %v", right)
			}
		default:
			t.Errorf("%d checks of QZ..%s", len(right), rest)
		}
		made := impl.MakeNumber("QZ", rest)
		if check, _ := strconv.Atoi(made[2:4]); check < 2 || check > 98 {
			t.Errorf("MakeNumber(QZ, %s) = %s", rest, made)
		}
		checkMade(t, "QZ", rest, wantMade("QZ", rest))
	}
	if len(rests) != 97 || twice == 0 {
		t.Errorf("%d rests, %d with two checks", len(rests), twice)
	}
}

func TestLandsOfNumbers(t *testing.T) {
	for i := range len(capitals) {
		for k := range len(capitals) {
			land := capitals[i:i+1] + capitals[k:k+1]
			checkMade(t, land, "0000", wantMade(land, "0000"))
		}
	}
	for _, land := range append([]string{strings.Repeat("X", 100000), "XX90", "XX00"}, noLands...) {
		refuseMade(t, land, "0000")
		refuseMade(t, land, "A1B2C3")
		refuseMade(t, land, "")
	}
	for b := range 256 {
		one := string([]byte{byte(b)})
		if strings.Contains(capitals, one) {
			continue
		}
		refuseMade(t, one+"X", "0000")
		refuseMade(t, "X"+one, "0000")
		refuseMade(t, one, "X0000")
	}
}

func TestRestsOfNumbers(t *testing.T) {
	for size := range 40 {
		for _, signs := range []string{"0", "9", "A", "Z", "1A", "A1"} {
			rest := strings.Repeat(signs, size)[:size]
			if size < leastNumber-4 || size > mostNumber-4 {
				refuseMade(t, "XX", rest)
				continue
			}
			checkTurnedNumber(t, checkMade(t, "XX", rest, wantMade("XX", rest)))
		}
	}
	refuseMade(t, "XX", "00é0")
	refuseMade(t, "XX", "0 00")
	refuseMade(t, "XX", "000a")
	refuseMade(t, "XX", "-000")
	refuseMade(t, "XX", strings.Repeat("0", 1000000))
}

func TestBytesOfRests(t *testing.T) {
	for _, rest := range []string{"0000", "1A2B3", "ABCDEFGHIJKLMNOPQRSTUVWXYZ"} {
		for b := range 256 {
			one := string([]byte{byte(b)})
			if strings.Contains(capitals+tenDigits, one) {
				continue
			}
			for at := range len(rest) {
				refuseMade(t, "XX", withByte(rest, at, byte(b)))
			}
		}
	}
}

// Every check from 02 to 98 is made by some rest, those below 10 with a nought ahead.
func TestEveryCheckIsMade(t *testing.T) {
	made := map[string]int{}
	for n := range 2000 {
		s := impl.MakeNumber("AB", fmt.Sprintf("%04d", n))
		checkNumber(t, s, true)
		if len(s) != leastNumber {
			t.Fatalf("%q has %d bytes", s, len(s))
		}
		made[s[2:4]]++
	}
	for check := 2; check <= 98; check++ {
		if made[fmt.Sprintf("%02d", check)] == 0 {
			t.Errorf("no number has the check %02d", check)
		}
	}
	if len(made) != 97 {
		t.Errorf("%d checks", len(made))
	}
}

func someSigns(chance *rand.Rand, signs string, size int) string {
	text := make([]byte, size)
	for i := range text {
		text[i] = signs[chance.Intn(len(signs))]
	}
	return string(text)
}

func someNumber(chance *rand.Rand) string {
	signs := []string{tenDigits, capitals, capitals + tenDigits}[chance.Intn(3)]
	return impl.MakeNumber(someSigns(chance, capitals, 2), someSigns(chance, signs, 4+chance.Intn(23)))
}

func TestSomeAccountNumbers(t *testing.T) {
	chance := rand.New(rand.NewSource(141))
	for range 300 {
		s := someNumber(chance)
		checkMade(t, s[:2], s[4:], s)
		checkTurnedNumber(t, s)
	}
	right, wrong := 0, 0
	for range 20000 {
		s := someSigns(chance, capitals, 2) + someSigns(chance, tenDigits, 2) + someSigns(chance, capitals+tenDigits, 3+chance.Intn(25))
		if numberAsWanted(t, s) {
			right++
		} else {
			wrong++
		}
	}
	if right < 100 || wrong < 15000 {
		t.Errorf("%d right, %d wrong", right, wrong)
	}
}
