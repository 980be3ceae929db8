package tests

import (
	"fmt"
	"slices"
	"strings"
	"testing"

	"loop.example/g00040/impl"
)

func wantPaper(r impl.Register, at int) string {
	if !wantRegisterOk(r) || at < 0 || at >= len(r.Papers) {
		return ""
	}
	s := r.Series[r.Papers[at].Series]
	return fmt.Sprintf("%s-%0*d", s.Prefix, s.Width, r.Papers[at].Number)
}

func wantPapers(r impl.Register) []string {
	texts := make([]string, len(r.Papers))
	for at := range texts {
		texts[at] = wantPaper(r, at)
	}
	return texts
}

func checkPaperText(t *testing.T, r impl.Register, at int, want string) {
	t.Helper()
	if got := impl.ShowPaper(r, at); got != want {
		t.Errorf("ShowPaper(%v, %d) = %q; want %q", firstOf(r), at, got, want)
	}
}

func checkFindPaper(t *testing.T, r impl.Register, text string, want int) {
	t.Helper()
	if got := impl.FindPaper(r, text); got != want {
		t.Errorf("FindPaper(%v, %q) = %d; want %d", firstOf(r), text, got, want)
	}
}

// Every paper is told as it must be and found by that, and by no text that is not one of theirs.
func checkPaperTexts(t *testing.T, r impl.Register, others ...string) {
	t.Helper()
	texts := wantPapers(r)
	for at, text := range texts {
		checkPaperText(t, r, at, text)
		checkFindPaper(t, r, text, at)
	}
	for _, text := range others {
		checkFindPaper(t, r, text, slices.Index(texts, text))
	}
}

func TestPaperTextsByHand(t *testing.T) {
	texts := []string{"in-001", "c-1", "in-002", "in--00000001", "c-2", "in-003"}
	for at, text := range texts {
		checkPaperText(t, handRegister(), at, text)
		checkFindPaper(t, handRegister(), text, at)
	}
	for _, at := range append([]int{len(texts), len(texts) + 1}, farPlaces...) {
		checkPaperText(t, handRegister(), at, "")
	}
	checkPaperText(t, impl.Register{}, 0, "")
	checkPaperText(t, oneSeries(2), 0, "")
	checkFindPaper(t, impl.Register{}, "", -1)
	checkFindPaper(t, oneSeries(2), "", -1)
	checkFindPaper(t, oneSeries(2), "p-01", -1)
	checkFindPaper(t, oneSeries(2), "p-00", -1)
}

func TestNoughtsAheadOfANumber(t *testing.T) {
	for width := 1; width <= impl.MaxWidth; width++ {
		most := min(power10(width)-1, impl.MaxPapers)
		r := oneSeries(width, papersOf(0, most, 5)...)
		checkPaperTexts(t, r)
		checkPaperText(t, r, 0, "p-"+strings.Repeat("0", width-1)+"1")
		for _, number := range []int{1, 9, 10, 99, 100, most} {
			if number > most {
				continue
			}
			digits := fmt.Sprint(number)
			for noughts := range impl.MaxWidth + 2 {
				want := -1
				if noughts+len(digits) == width {
					want = number - 1
				}
				checkFindPaper(t, r, "p-"+strings.Repeat("0", noughts)+digits, want)
			}
		}
		for other := 1; other <= impl.MaxWidth+1; other++ {
			checkFindPaper(t, r, fmt.Sprintf("p-%0*d", other, 0), -1)
			checkFindPaper(t, r, fmt.Sprintf("p-%0*d", other, most+1), -1)
		}
	}
	checkPaperText(t, oneSeries(3, papersOf(0, 100, 5)...), 99, "p-100")
	checkPaperText(t, oneSeries(2, papersOf(0, 99, 5)...), 98, "p-99")
	checkPaperText(t, oneSeries(1, papersOf(0, 9, 5)...), 8, "p-9")
}

func TestVoidPapersAreTold(t *testing.T) {
	r := handRegister()
	texts := wantPapers(r)
	for at := range r.Papers {
		r.Papers[at].Void = true
	}
	for at, text := range texts {
		checkPaperText(t, r, at, text)
		checkFindPaper(t, r, text, at)
	}
}

func TestTextsThatAreNoPapers(t *testing.T) {
	wrong := []string{
		"", "-", "in", "in-", "in-1", "in-01", "in-0001", "in-000", "in-004", "in-999", "in001", "in_001", "in.001", "in:001", "in 001", "in--001", "in---00000001",
		"IN-001", "In-001", "n-001", "iin-001", "in-001 ", " in-001", "in-001\n", "in- 01", "in-+01", "in--01", "in-0x1", "in-00l", "in-1e0", "in-00\x31\x00", "in-\xd9\xa00\xd9\xa1", "in—001",
		"c", "c-", "c-0", "c-3", "c-01", "c-02", "c-1c-2", "c-1,c-2", "in--1", "in--0000001", "in--000000001", "in-00000001", "in--00000002", "9_.A-01", "9_.A-00", "9_.A-", "1", "001", "-001",
		strings.Repeat("9", 100000), "in-" + strings.Repeat("0", 100000) + "1",
	}
	for _, text := range wrong {
		checkFindPaper(t, handRegister(), text, -1)
	}
	for at, text := range wantPapers(handRegister()) {
		for i := range len(text) {
			checkFindPaper(t, handRegister(), text[:i], -1)
			for b := range 256 {
				turned := text[:i] + string([]byte{byte(b)}) + text[i+1:]
				checkFindPaper(t, handRegister(), turned, slices.Index(wantPapers(handRegister()), turned))
				put := text[:i] + string([]byte{byte(b)}) + text[i:]
				checkFindPaper(t, handRegister(), put, slices.Index(wantPapers(handRegister()), put))
			}
		}
		checkFindPaper(t, handRegister(), text, at)
	}
}

func TestPrefixesThatBeginAlike(t *testing.T) {
	prefixes := []string{"a", "a-", "a--", "a-0", "a-00", "a-0-", "aa", "a-1", "a-1-", "1", "1-1", "1-1-1", "-", "--", "-1", "0", "00"}
	for width := 1; width <= impl.MaxWidth; width++ {
		r := impl.Register{}
		for i, prefix := range prefixes {
			r.Series = append(r.Series, seriesOf(prefix, 1+(i*width)%impl.MaxWidth))
		}
		for i := range 5 * len(prefixes) {
			p := paperOf(i%len(prefixes), 1+i/len(prefixes), i)
			r.Papers = append(r.Papers, p)
		}
		checkRegister(t, true, r)
		others := []string{}
		for _, prefix := range prefixes {
			for _, digits := range []string{"", "0", "1", "01", "001", "0001", "00001", "000001", "0000001", "00000001", "000000001", "-1", "5", "05", "6"} {
				others = append(others, prefix+"-"+digits, prefix+digits)
			}
		}
		checkPaperTexts(t, r, others...)
		checkNumbers(t, r)
	}
}

func TestLongestPaperText(t *testing.T) {
	r := impl.Register{Series: []impl.Series{seriesOf(strings.Repeat("n", impl.MaxName), impl.MaxWidth)}, Papers: papersOf(0, impl.MaxPapers, 0)}
	checkPaperTexts(t, r)
	checkPaperText(t, r, impl.MaxPapers-1, strings.Repeat("n", impl.MaxName)+"-00000400")
	checkFindPaper(t, r, strings.Repeat("n", impl.MaxName)+"-00000401", -1)
}
