package tests

import (
	"fmt"
	"math/rand"
	"regexp"
	"slices"
	"strconv"
	"strings"
	"testing"

	"loop.example/g00040/impl"
)

var bankHeadForm = regexp.MustCompile(`\AH\|(0|[1-9][0-9]{0,4})\|([1-9][0-9]{0,2})\|(0|[1-9][0-9]{0,9})\.([0-9]{2})\n\z`)

var bankLineForm = regexp.MustCompile(`\AP\|([A-Z0-9]+)\|([A-Za-z0-9._-]+)\|(0|[1-9][0-9]{0,9})\.([0-9]{2})\n\z`)

// A file as it is read: payments, day and code.
type bankRead struct {
	list []impl.Payment
	day  int
	told int
}

func refusedAs(told int) bankRead { return bankRead{told: told} }

func (r bankRead) equals(other bankRead) bool {
	return slices.Equal(r.list, other.list) && r.day == other.day && r.told == other.told
}

func readBank(text string) bankRead {
	list, day, told := impl.ReadBank(text)
	return bankRead{list: list, day: day, told: told}
}

// Each line, with its end, is held against a form.
func wantReadBank(text string) bankRead {
	lines := strings.SplitAfter(text, "\n")
	head := bankHeadForm.FindStringSubmatch(lines[0])
	if len(text) > impl.MaxBank || head == nil {
		return refusedAs(impl.BankHead)
	}
	day, _ := strconv.Atoi(head[1])
	count, _ := strconv.Atoi(head[2])
	left, _ := strconv.Atoi(head[3] + head[4])
	if day > impl.MaxDay || count > impl.MaxPayments || left == 0 || left > impl.MaxMoney {
		return refusedAs(impl.BankHead)
	}
	list := []impl.Payment{}
	for _, line := range lines[1:] {
		if len(list) == count {
			break
		}
		if !strings.HasSuffix(line, "\n") || strings.HasPrefix(line, "T|") {
			return refusedAs(impl.BankCount)
		}
		fields := bankLineForm.FindStringSubmatch(line)
		if fields == nil {
			return refusedAs(impl.BankLine)
		}
		amount, _ := strconv.Atoi(fields[3] + fields[4])
		p := payOut(fields[1], fields[2], amount)
		if !wantPayment(p) {
			return refusedAs(impl.BankLine)
		}
		list = append(list, p)
		left -= amount
	}
	if left != 0 {
		return refusedAs(impl.BankSum)
	}
	if text != withTail(strings.Join(lines[:count+1], "")) {
		return refusedAs(impl.BankTail)
	}
	return bankRead{list: list, day: day}
}

func checkReadBank(t *testing.T, text string, want bankRead) {
	t.Helper()
	if got := readBank(text); !got.equals(want) || !wantReadBank(text).equals(want) {
		t.Errorf("ReadBank(%q) = %v; want %v", text[:min(300, len(text))], got, want)
	}
}

func refuseReadBank(t *testing.T, text string, told int) {
	t.Helper()
	checkReadBank(t, text, refusedAs(told))
}

// Only what WriteBank writes is read.
func readBankAsWanted(t *testing.T, text string) int {
	t.Helper()
	want := wantReadBank(text)
	if got := readBank(text); !got.equals(want) {
		t.Errorf("ReadBank(%q) = %v; want %v", text[:min(300, len(text))], got, want)
	}
	if want.told == impl.BankOk && impl.WriteBank(want.day, want.list) != text {
		t.Errorf("ReadBank takes %q, which WriteBank does not write", text)
	}
	return want.told
}

func handBank() string { return withTail(handHead + handLines) }

const onePay = "P|XX900000|r|12.34\n"

func TestReadBankByHand(t *testing.T) {
	checkReadBank(t, handBank(), bankRead{list: handPayments(), day: 5})
	checkReadBank(t, withTail("H|0|1|12.34\n"+onePay), bankRead{list: []impl.Payment{payOut("XX900000", "r", 1234)}})
	checkReadBank(t, withTail("H|40000|2|24.68\n"+onePay+onePay), bankRead{list: slices.Repeat([]impl.Payment{payOut("XX900000", "r", 1234)}, 2), day: 40000})
	refuseReadBank(t, "", impl.BankHead)
}

// What is wrong in the first line is told, whatever follows: what follows is right, or nothing is.
func refuseHead(t *testing.T, head string) {
	t.Helper()
	refuseReadBank(t, head, impl.BankHead)
	refuseReadBank(t, withTail(head), impl.BankHead)
	refuseReadBank(t, withTail(head+onePay), impl.BankHead)
	refuseReadBank(t, head+"T|1\n", impl.BankHead)
	refuseReadBank(t, head+"x\n", impl.BankHead)
}

func TestFirstLinesThatAreNone(t *testing.T) {
	for _, day := range []string{"", " ", "05", "00", "0005", "+5", "-5", "-0", "-1", " 5", "5 ", "5.0", "5.", "5,", "5e0", "0x5", "a", "5a", "40001", "40002", "100000", "99999999999", "9223372036854775808", "18446744073709551621", strings.Repeat("9", 1000), "\xd9\xa5", "５", "5\x00", "5\r"} {
		refuseHead(t, "H|"+day+"|1|12.34\n")
	}
	for _, count := range []string{"", " ", "0", "00", "01", "001", "+1", "-1", "-0", " 1", "1 ", "1.0", "1.", "a", "1a", "101", "102", "1000", "99999999999", "9223372036854775808", "18446744073709551617", strings.Repeat("9", 1000), "１", "1\x00"} {
		refuseHead(t, "H|5|"+count+"|12.34\n")
	}
	for _, sum := range []string{"", " ", "0", "0.00", "-0.00", "12", "12.", "12.3", "12.340", "12.3400", "012.34", "0012.34", "+12.34", "-12.34", " 12.34", "12.34 ", "12,34", "12.3a", ".34", ".", "12..34", "12.34.", "1234e-2", "12.-4", "1000000000.01", "1000000001.00", "9999999999.99", "10000000000.00", "92233720368547758.08", "184467440737095528.50", strings.Repeat("9", 1000) + ".00", "12.\x334\r", "１２.34"} {
		refuseHead(t, "H|5|1|"+sum+"\n")
	}
	for _, head := range []string{"", "H", "H|", "|", "||||", "H|5", "H|5|1", "H|5|1|", "5|1|12.34", "|5|1|12.34", "H5|1|12.34", "H|5|112.34", "H|5|1|12.34|", "H|5|1|12.34|x", "H|5|1||12.34", "H||5|1|12.34", "HH|5|1|12.34", "h|5|1|12.34", "P|5|1|12.34", "T|5|1|12.34", "T|1", "H |5|1|12.34", " H|5|1|12.34", "H|5|1|12.34 ", "H|5|1|12.34\r", "\xef\xbb\xbfH|5|1|12.34", "H;5;1;12.34", "H\xa65|1|12.34", "H|5\x851|12.34", "\xe2H|5|1|12.34", "H|5|1|12.34\xe2"} {
		refuseHead(t, head+"\n")
	}
	// Without its end, or with another one.
	for _, head := range []string{"H|5|1|12.34", "H|5|1|12.34\r", "H|5|1|12.34\x00", "H|5|1|12.34\x85", "H|5|1|12.34\u2028", "H|5|1|12.34|", "H", "H|5|1|"} {
		refuseReadBank(t, head, impl.BankHead)
		refuseReadBank(t, head+onePay, impl.BankHead)
		refuseReadBank(t, withTail(head+onePay), impl.BankHead)
	}
	refuseReadBank(t, "\n"+handBank(), impl.BankHead)
	refuseReadBank(t, handBank()[1:], impl.BankHead)
	refuseReadBank(t, handLines, impl.BankHead)
	refuseReadBank(t, handBank()[len(handHead):], impl.BankHead)
}

func TestFirstLinesAtTheirLimits(t *testing.T) {
	pays := strings.Repeat(onePay, impl.MaxPayments)
	all := 1234 * impl.MaxPayments
	text := withTail(fmt.Sprintf("H|%d|%d|%d.00\n%s", impl.MaxDay, impl.MaxPayments, all/100, pays))
	if readBankAsWanted(t, text) != impl.BankOk {
		t.Error("the last day and MaxPayments are refused")
	}
	refuseHead(t, fmt.Sprintf("H|%d|%d|%d.00\n", impl.MaxDay+1, impl.MaxPayments, all/100))
	refuseHead(t, fmt.Sprintf("H|%d|%d|%d.00\n", impl.MaxDay, impl.MaxPayments+1, all/100))
	refuseReadBank(t, withTail(fmt.Sprintf("H|5|%d|1246.34\n%s", impl.MaxPayments+1, pays+onePay)), impl.BankHead)
	most := "P|XX900000|r|1000000000.00\n"
	if readBankAsWanted(t, withTail("H|0|1|1000000000.00\n"+most)) != impl.BankOk {
		t.Error("the greatest sum is refused")
	}
	refuseHead(t, "H|0|1|1000000000.01\n")
	refuseReadBank(t, withTail("H|0|2|1000000000.01\n"+most+"P|XX900000|r|0.01\n"), impl.BankHead)
	if readBankAsWanted(t, withTail("H|0|1|0.01\nP|XX900000|r|0.01\n")) != impl.BankOk {
		t.Error("the least sum is refused")
	}
}

// The line stands first, in the midst and last among others; no check is looked at.
func refuseBankLine(t *testing.T, line string, told int) {
	t.Helper()
	for count := 1; count <= 4; count++ {
		head := fmt.Sprintf("H|5|%d|%d.%02d\n", count, 1234*count/100, 1234*count%100)
		for at := range count {
			ahead, behind := strings.Repeat(onePay, at), strings.Repeat(onePay, count-at-1)
			refuseReadBank(t, withTail(head+ahead+line+behind), told)
			refuseReadBank(t, head+ahead+line+behind, told)
			refuseReadBank(t, head+ahead+line, told)
			refuseReadBank(t, head+ahead+line+"x\nT|1\n", told)
		}
	}
}

func TestPaymentLinesThatAreNone(t *testing.T) {
	for _, to := range noTos {
		if !strings.Contains(to, "\n") {
			refuseBankLine(t, "P|"+to+"|r|12.34\n", impl.BankLine)
		}
	}
	for _, ref := range barNames {
		if !strings.Contains(ref, "\n") {
			refuseBankLine(t, "P|XX900000|"+ref+"|12.34\n", impl.BankLine)
		}
	}
	for _, a := range []string{"", " ", "0", "0.00", "-0.00", "-12.34", "12", "12.", "12.3", "12.340", "012.34", "+12.34", " 12.34", "12.34 ", "12,34", "12.3a", ".34", ".", "12..34", "12.34.", "1e3", "1000000000.01", "9999999999.99", "92233720368547758.08", "184467440737095528.50", strings.Repeat("9", 1000) + ".00", "12.34\r"} {
		refuseBankLine(t, "P|XX900000|r|"+a+"\n", impl.BankLine)
	}
	for _, line := range []string{"", " ", "P", "P|", "P|XX900000", "P|XX900000|r", "P|XX900000|r|", "P|XX900000|r|12.34|", "P|XX900000|r|12.34|x", "P|XX900000||r|12.34", "P||XX900000|r|12.34", "XX900000|r|12.34", "|XX900000|r|12.34", "PP|XX900000|r|12.34", "p|XX900000|r|12.34", "H|XX900000|r|12.34", "H|5|1|12.34", "P |XX900000|r|12.34", " P|XX900000|r|12.34", "P|r|XX900000|12.34", "P|XX900000|12.34|r", "P|XX900000;r|12.34", "|||", "||||", "x", "T", "t|1", " T|1", "TT|1", "T 1", "T1", "P|T|1|12.34", "|T|1", "\xe2", "\xe2T|1", "P|XX900000|r|12.34\xe2"} {
		refuseBankLine(t, line+"\n", impl.BankLine)
	}
	// Bytes that begin a rune swallow neither a bar nor a line end.
	for b := range 256 {
		one := string([]byte{byte(b)})
		for _, line := range []string{one + "P|XX900000|r|12.34\n", "P" + one + "|XX900000|r|12.34\n", "P|XX900000" + one + "|r|12.34\n", "P|XX900000|r" + one + "|12.34\n", "P|XX900000|r|12.34" + one + "\n", "P" + one + "XX900000|r|12.34\n", "P|XX900000|r|12" + one + "34\n", "P|XX900000|r|12.34" + one} {
			readBankAsWanted(t, withTail("H|5|1|12.34\n"+line))
			readBankAsWanted(t, withTail("H|5|2|24.68\n"+line+onePay))
		}
	}
}

// Every beginning of a file is told by where it ends.
func TestFilesThatEndTooEarly(t *testing.T) {
	text := handBank()
	for n := range len(text) {
		told := impl.BankTail
		if n < len(handHead) {
			told = impl.BankHead
		} else if n < len(handHead+handLines) {
			told = impl.BankCount
		}
		refuseReadBank(t, text[:n], told)
	}
	refuseReadBank(t, "H|5|1|12.34\n", impl.BankCount)
	refuseReadBank(t, "H|5|1|12.34\nP|XX900000|r|12.34", impl.BankCount)
	refuseReadBank(t, "H|5|1|12.34\nx", impl.BankCount) // a line without its end is none yet
	refuseReadBank(t, "H|5|2|24.68\n"+onePay, impl.BankCount)
	refuseReadBank(t, "H|5|2|12.34\n"+onePay+"T", impl.BankCount)
	refuseReadBank(t, "H|5|2|12.34\n"+onePay+"T|", impl.BankCount)
	refuseReadBank(t, "H|5|2|12.34\n"+onePay+"T\n", impl.BankLine)
}

func TestTailsThatComeTooEarly(t *testing.T) {
	for _, tail := range []string{"T|\n", "T|1\n", "T|x\n", "T||\n", "T|1|2|3\n", "T|XX900000|r|12.34\n", "T|\xff\n", "T|" + strings.Repeat("1", 1000) + "\n"} {
		refuseBankLine(t, tail, impl.BankCount)
	}
	for count := 2; count <= 5; count++ {
		for there := range count {
			head := fmt.Sprintf("H|5|%d|%d.%02d\n", count, 1234*there/100, 1234*there%100)
			if there == 0 {
				head = fmt.Sprintf("H|5|%d|12.34\n", count)
			}
			refuseReadBank(t, withTail(head+strings.Repeat(onePay, there)), impl.BankCount)
		}
	}
}

func TestWhichMistakeIsMetFirst(t *testing.T) {
	head := "H|5|3|37.02\n"
	badSum := "H|5|3|37.03\n"
	// A wrong line ahead of an end that comes too early, and behind it.
	refuseReadBank(t, head+"x\n", impl.BankLine)
	refuseReadBank(t, head+"x\nT|1\n", impl.BankLine)
	refuseReadBank(t, head+onePay+"x\n", impl.BankLine)
	refuseReadBank(t, head+onePay+"T|1\nx\n", impl.BankCount)
	refuseReadBank(t, head+"T|1\nx\nx\n", impl.BankCount)
	refuseReadBank(t, head+onePay+"x", impl.BankCount)
	refuseReadBank(t, head+"x\nx", impl.BankLine)
	// A wrong line, or one too few, ahead of a wrong sum.
	refuseReadBank(t, badSum+onePay+onePay+"x\nT|1\n", impl.BankLine)
	refuseReadBank(t, badSum+onePay+onePay+"T|1\n", impl.BankCount)
	refuseReadBank(t, badSum+onePay+onePay, impl.BankCount)
	// A wrong sum ahead of a wrong tail, or of none.
	refuseReadBank(t, badSum+onePay+onePay+onePay, impl.BankSum)
	refuseReadBank(t, badSum+onePay+onePay+onePay+"T|1\n", impl.BankSum)
	refuseReadBank(t, badSum+onePay+onePay+onePay+"x", impl.BankSum)
	refuseReadBank(t, badSum+onePay+onePay+onePay+onePay, impl.BankSum)
	refuseReadBank(t, withTail(badSum+onePay+onePay+onePay), impl.BankSum)
	// A line too many is part of what follows.
	refuseReadBank(t, withTail(head+onePay+onePay+onePay+onePay), impl.BankTail)
	refuseReadBank(t, withTail("H|5|3|49.36\n"+onePay+onePay+onePay+onePay), impl.BankSum)
	refuseReadBank(t, withTail(head+onePay+onePay+onePay+"x\n"), impl.BankTail)
	refuseReadBank(t, head+onePay+onePay+onePay, impl.BankTail)
	// A first line that is wrong comes ahead of all.
	refuseReadBank(t, "H|5|3|37.2\nx\n", impl.BankHead)
	refuseReadBank(t, "H|5|0|37.02\nT|1\n", impl.BankHead)
}

func TestSumsThatAreOthers(t *testing.T) {
	for off := -1234; off <= 5000; off++ {
		told := readBankAsWanted(t, withTail(fmt.Sprintf("H|5|1|%s\n%s", impl.ShowMoney(1234+off, 2), onePay)))
		want := impl.BankSum
		switch off {
		case -1234:
			want = impl.BankHead
		case 0:
			want = impl.BankOk
		}
		if told != want {
			t.Errorf("a sum of %d is told as %d", 1234+off, told)
		}
	}
	// Payments that are together beyond the amounts.
	most := "P|XX900000|r|1000000000.00\n"
	refuseReadBank(t, withTail("H|5|2|1000000000.00\n"+most+most), impl.BankSum)
	refuseReadBank(t, withTail("H|5|2|0.01\n"+most+most), impl.BankSum)
	refuseReadBank(t, withTail("H|5|100|1000000000.00\n"+strings.Repeat(most, 100)), impl.BankSum)
	refuseReadBank(t, withTail("H|5|2|1000000000.00\n"+most+"P|XX900000|r|0.01\n"), impl.BankSum)
}

func TestTailsOfFiles(t *testing.T) {
	ahead := handHead + handLines
	check := wantCheck(ahead)
	number, _ := strconv.Atoi(check)
	for n := range checkPrime + 100 {
		tail := fmt.Sprintf("T|%d\n", n)
		if got := readBank(ahead + tail); (n == number) != (got.told == impl.BankOk) || n != number && !got.equals(refusedAs(impl.BankTail)) {
			t.Errorf("a check of %d, not %d, is told as %d", n, number, got.told)
		}
	}
	for _, tail := range []string{"", "T", "T|", "T|\n", "T\n", "T|" + check, "T|" + check + "\r\n", "T|" + check + "\n\n", "T|" + check + "\nx", "T|" + check + "\n" + onePay, "T|" + check + "\nT|" + check + "\n", "T|0" + check + "\n", "T|+" + check + "\n", "T|-" + check + "\n", "T| " + check + "\n", "T|" + check + " \n", " T|" + check + "\n", "t|" + check + "\n", "T||" + check + "\n", "T|" + check + "|\n", "T|" + check + ".0\n", "T|" + strconv.Itoa(number+checkPrime) + "\n", "T|" + strconv.Itoa(number-checkPrime) + "\n", "T:" + check + "\n", "\nT|" + check + "\n", "P|" + check + "\n", "T|" + check + "\x00", "T|" + check + "\n\x00", "T|" + strings.Repeat("0", 1000) + check + "\n"} {
		refuseReadBank(t, ahead+tail, impl.BankTail)
	}
	// A check of 0 and one of a single digit.
	found := map[string]bool{}
	for a := 1; len(found) < 10 && a < 2000000; a++ {
		lines := fmt.Sprintf("H|5|1|%d.%02d\nP|XX900000|r|%d.%02d\n", a/100, a%100, a/100, a%100)
		if digit := wantCheck(lines); len(digit) == 1 && !found[digit] {
			found[digit] = true
			checkBank(t, 5, payOut("XX900000", "r", a))
			refuseReadBank(t, lines+"T|0"+digit+"\n", impl.BankTail)
			refuseReadBank(t, lines+"T|\n", impl.BankTail)
		}
	}
	if !found["0"] {
		t.Error("no check of 0 was found")
	}
}

// P38, second part: each byte of a file, turned into every other one, is refused.
func TestEveryByteOfAFileTurned(t *testing.T) {
	chance := rand.New(rand.NewSource(143))
	texts := []string{handBank(), withTail("H|0|1|0.01\nP|XX900000|a|0.01\n"), withTail("H|40000|1|1000000000.00\nP|BE68539007547034|Z|1000000000.00\n"), impl.WriteBank(77, somePayments(chance, 3, 1000000))}
	met := map[int]int{}
	for _, text := range texts {
		if readBank(text).told != impl.BankOk {
			t.Fatalf("%q is refused", text)
		}
		for at := range len(text) {
			for b := range 256 {
				if byte(b) == text[at] {
					continue
				}
				turned := withByte(text, at, byte(b))
				told := readBankAsWanted(t, turned)
				if met[told]++; told == impl.BankOk {
					t.Errorf("with byte %d turned into %q, %q is read", at, byte(b), text)
				}
			}
		}
	}
	for told := impl.BankHead; told <= impl.BankTail; told++ {
		if met[told] == 0 {
			t.Errorf("no byte turned is told as %d", told)
		}
	}
}

func TestBytesPutInAndLeftOut(t *testing.T) {
	text := handBank()
	for at := range len(text) + 1 {
		for b := range 256 {
			if told := readBankAsWanted(t, text[:at]+string([]byte{byte(b)})+text[at:]); told == impl.BankOk {
				t.Errorf("with %q put in at %d the file is read", byte(b), at)
			}
		}
		if at < len(text) && readBankAsWanted(t, text[:at]+text[at+1:]) == impl.BankOk {
			t.Errorf("without byte %d the file is read", at)
		}
	}
}

// A text of just MaxBank bytes is looked at, one byte more is none: whatever is wrong with it.
func TestHowLongABankTextMayBe(t *testing.T) {
	fill := func(text string, size int) string { return text + strings.Repeat("x", size-len(text)) }
	for _, size := range []int{impl.MaxBank - 1, impl.MaxBank} {
		refuseReadBank(t, fill(handBank(), size), impl.BankTail)
		refuseReadBank(t, fill(handBank(), size-1)+"\n", impl.BankTail)
		refuseReadBank(t, fill(handHead, size), impl.BankCount)
		refuseReadBank(t, fill(handHead, size-1)+"\n", impl.BankLine)
		refuseReadBank(t, fill(handHead+"T|", size-1)+"\n", impl.BankCount)
		refuseReadBank(t, fill("H|5|1|12.33\n"+onePay, size), impl.BankSum)
		refuseReadBank(t, fill("", size), impl.BankHead)
		refuseReadBank(t, strings.Repeat("\n", size), impl.BankHead)
		refuseReadBank(t, handHead+strings.Repeat("|", size-len(handHead)), impl.BankCount)
		refuseReadBank(t, handHead+strings.Repeat("|", size-len(handHead)-1)+"\n", impl.BankLine)
	}
	for _, size := range []int{impl.MaxBank + 1, impl.MaxBank + 2, 100000, 1000000} {
		refuseReadBank(t, fill(handBank(), size), impl.BankHead)
		refuseReadBank(t, fill(handHead, size), impl.BankHead)
		refuseReadBank(t, fill(handHead, size-1)+"\n", impl.BankHead)
		refuseReadBank(t, fill(handHead+"T|", size-1)+"\n", impl.BankHead)
		refuseReadBank(t, fill("H|5|1|12.33\n"+onePay, size), impl.BankHead)
	}
}

// Several things are wrong at once; both readers meet the same one first.
func TestSomeSpoiltFiles(t *testing.T) {
	chance := rand.New(rand.NewSource(144))
	met := map[int]int{}
	for range 20000 {
		count := 1 + chance.Intn(4)
		text := impl.WriteBank(chance.Intn(impl.MaxDay+1), somePayments(chance, count, 100000))
		lines := strings.SplitAfter(text, "\n")
		for range chance.Intn(3) {
			i, k := chance.Intn(len(lines)), chance.Intn(len(lines))
			switch chance.Intn(6) {
			case 0:
				lines[i], lines[k] = lines[k], lines[i]
			case 1:
				lines[i] = lines[k]
			case 2:
				lines[i] = ""
			case 3:
				lines[i] = strings.Replace(lines[i], "|", []string{"", "||", " |", "\n", "|0"}[chance.Intn(5)], 1+chance.Intn(2))
			case 4:
				lines[i] = strings.TrimSuffix(lines[i], "\n")
			case 5:
				if size := len(lines[i]); size > 0 {
					lines[i] = withByte(lines[i], chance.Intn(size), "0123456789ABPHT|.\n"[chance.Intn(18)])
				}
			}
		}
		met[readBankAsWanted(t, strings.Join(lines, ""))]++
	}
	for told := impl.BankOk; told <= impl.BankTail; told++ {
		if met[told] < 100 {
			t.Errorf("%d texts are told as %d", met[told], told)
		}
	}
}

// What is answered may be written into: no other answer changes.
func TestReadBankAnswersNewMemory(t *testing.T) {
	first, second := readBank(handBank()), readBank(handBank())
	for i := range first.list[:cap(first.list)] {
		first.list[:cap(first.list)][i] = payOut("spoilt", "spoilt", -7)
	}
	if !slices.Equal(second.list, handPayments()) {
		t.Error("two answers share their memory")
	}
	checkReadBank(t, handBank(), bankRead{list: handPayments(), day: 5})
}
