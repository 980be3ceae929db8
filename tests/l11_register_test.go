package tests

import (
	"math"
	"math/rand"
	"slices"
	"strconv"
	"strings"
	"testing"

	"loop.example/g00040/impl"
)

var noWidths = []int{math.MinInt, -impl.MaxWidth, -1, 0, impl.MaxWidth + 1, impl.MaxWidth + 2, 100, math.MaxInt}

var farPlaces = []int{math.MinInt, -2, -1, math.MaxInt}

func seriesOf(prefix string, width int) impl.Series {
	return impl.Series{Prefix: prefix, Width: width}
}

func paperOf(series, number, day int) impl.Paper {
	return impl.Paper{Series: series, Number: number, Day: day}
}

func voidOf(series, number, day int) impl.Paper {
	return impl.Paper{Series: series, Number: number, Day: day, Void: true}
}

func oneSeries(width int, papers ...impl.Paper) impl.Register {
	return impl.Register{Series: []impl.Series{seriesOf("p", width)}, Papers: papers}
}

// The last series has no papers, and Days fall between two series.
func handRegister() impl.Register {
	return impl.Register{
		Series: []impl.Series{seriesOf("in", 3), seriesOf("c", 1), seriesOf("in-", 8), seriesOf("9_.A", 2)},
		Papers: []impl.Paper{
			paperOf(0, 1, 5), paperOf(1, 1, 9), voidOf(0, 2, 5), paperOf(2, 1, 0), voidOf(1, 2, 9), paperOf(0, 3, 7),
		},
	}
}

func copyRegister(r impl.Register) impl.Register {
	return impl.Register{Series: slices.Clone(r.Series), Papers: slices.Clone(r.Papers)}
}

func sameRegister(a, b impl.Register) bool {
	return slices.Equal(a.Series, b.Series) && slices.Equal(a.Papers, b.Papers)
}

func isZeroRegister(r impl.Register) bool { return len(r.Series) == 0 && len(r.Papers) == 0 }

// So many papers of one series, all of one day; every third one is void.
func papersOf(series, count, day int) []impl.Paper {
	papers := make([]impl.Paper, count)
	for i := range papers {
		papers[i] = impl.Paper{Series: series, Number: i + 1, Day: day, Void: i%3 == 2}
	}
	return papers
}

// The papers of each series are picked out and held against what they must be, series by series.
func wantRegisterOk(r impl.Register) bool {
	if len(r.Series) > impl.MaxSeries || len(r.Papers) > impl.MaxPapers {
		return false
	}
	prefixes := map[string]int{}
	seen := 0
	for at, s := range r.Series {
		prefixes[s.Prefix]++
		if !accountName.MatchString(s.Prefix) || s.Width < 1 || s.Width > impl.MaxWidth || prefixes[s.Prefix] > 1 {
			return false
		}
		own := slices.DeleteFunc(slices.Clone(r.Papers), func(p impl.Paper) bool { return p.Series != at })
		seen += len(own)
		if len(own) >= power10(s.Width) {
			return false
		}
		for i, p := range own {
			if p.Number != i+1 || !isDay(p.Day) || i > 0 && p.Day < own[i-1].Day {
				return false
			}
		}
	}
	return seen == len(r.Papers)
}

// checkRegister asks every function of a register for its answer to one that is not right, too.
func checkRegister(t *testing.T, want bool, r impl.Register) {
	t.Helper()
	if got := impl.RegisterOk(r); got != want || wantRegisterOk(r) != want {
		t.Errorf("RegisterOk(%d series, %d papers) = %v; want %v: %v", len(r.Series), len(r.Papers), got, want, firstOf(r))
	}
	if want {
		return
	}
	for _, series := range []int{-1, 0, 1, len(r.Series)} {
		for _, day := range []int{-1, 0, 9, impl.MaxDay, impl.MaxDay + 1} {
			if got, told := impl.Issue(r, series, day); !isZeroRegister(got) || told != impl.IssueBad {
				t.Errorf("Issue(%v, %d, %d) = %v, %d; want none, IssueBad", firstOf(r), series, day, firstOf(got), told)
			}
		}
	}
	for _, at := range []int{-1, 0, 1, len(r.Papers) - 1, len(r.Papers)} {
		if got, ok := impl.Void(r, at); !isZeroRegister(got) || ok {
			t.Errorf("Void(%v, %d) = %v, %v; want none, false", firstOf(r), at, firstOf(got), ok)
		}
		if got := impl.ShowPaper(r, at); got != "" {
			t.Errorf("ShowPaper(%v, %d) = %q; want nothing", firstOf(r), at, got)
		}
	}
	for _, text := range []string{"", "in-001", "c-1", "p-1", "p-01", "-", "-1", "-01"} {
		if got := impl.FindPaper(r, text); got != -1 {
			t.Errorf("FindPaper(%v, %q) = %d; want -1", firstOf(r), text, got)
		}
	}
}

// What is told of a register: no more of it than can be read.
func firstOf(r impl.Register) impl.Register {
	return impl.Register{Series: r.Series[:min(25, len(r.Series))], Papers: r.Papers[:min(12, len(r.Papers))]}
}

func registerWith(change func(r *impl.Register)) impl.Register {
	r := handRegister()
	change(&r)
	return r
}

func TestRegisterByHand(t *testing.T) {
	checkRegister(t, true, impl.Register{})
	checkRegister(t, true, impl.Register{Series: []impl.Series{}, Papers: []impl.Paper{}})
	checkRegister(t, true, oneSeries(1))
	checkRegister(t, true, oneSeries(1, paperOf(0, 1, 0)))
	checkRegister(t, true, handRegister())
	for n := range len(handRegister().Papers) {
		checkRegister(t, true, registerWith(func(r *impl.Register) { r.Papers = r.Papers[:n] }))
		checkRegister(t, true, registerWith(func(r *impl.Register) { r.Papers[n].Void = !r.Papers[n].Void }))
	}
	checkRegister(t, false, impl.Register{Series: []impl.Series{{}}})
	checkRegister(t, false, impl.Register{Papers: []impl.Paper{{}}})
	checkRegister(t, false, impl.Register{Papers: []impl.Paper{paperOf(0, 1, 0)}})
	checkRegister(t, false, oneSeries(1, impl.Paper{}))
}

func manySeries(count int) []impl.Series {
	list := make([]impl.Series, count)
	for i := range list {
		list[i] = seriesOf("s"+strconv.Itoa(i), 1+i%impl.MaxWidth)
	}
	return list
}

func TestHowManySeriesThereMayBe(t *testing.T) {
	for count := range impl.MaxSeries + 1 {
		checkRegister(t, true, impl.Register{Series: manySeries(count)})
	}
	last := impl.Register{Series: manySeries(impl.MaxSeries), Papers: []impl.Paper{paperOf(impl.MaxSeries-1, 1, 3)}}
	checkRegister(t, true, last)
	for _, count := range []int{impl.MaxSeries + 1, impl.MaxSeries + 2, 1000} {
		checkRegister(t, false, impl.Register{Series: manySeries(count)})
		checkRegister(t, false, impl.Register{Series: manySeries(count), Papers: []impl.Paper{paperOf(0, 1, 3)}})
	}
}

func TestPrefixesOfSeries(t *testing.T) {
	for _, prefix := range []string{"a", "Z", "0", "-", "_", ".", "--", "in-00", strings.Repeat("n", impl.MaxName)} {
		checkRegister(t, true, impl.Register{Series: []impl.Series{seriesOf(prefix, 2)}})
	}
	for at := range handRegister().Series {
		for _, prefix := range noNames {
			checkRegister(t, false, registerWith(func(r *impl.Register) { r.Series[at].Prefix = prefix }))
		}
		for other := range at {
			checkRegister(t, false, registerWith(func(r *impl.Register) { r.Series[at].Prefix = r.Series[other].Prefix }))
		}
		checkRegister(t, true, registerWith(func(r *impl.Register) { r.Series[at].Prefix = "IN" }))
	}
	// Other Widths make no other series.
	checkRegister(t, false, impl.Register{Series: []impl.Series{seriesOf("a", 1), seriesOf("b", 1), seriesOf("a", 2)}})
	full := manySeries(impl.MaxSeries)
	full[impl.MaxSeries-1].Prefix = full[0].Prefix
	checkRegister(t, false, impl.Register{Series: full})
}

func TestWidthsOfSeries(t *testing.T) {
	for width := 1; width <= impl.MaxWidth; width++ {
		checkRegister(t, true, oneSeries(width))
		checkRegister(t, true, oneSeries(width, papersOf(0, 9, 5)...))
	}
	for at := range handRegister().Series {
		for _, width := range noWidths {
			checkRegister(t, false, oneSeries(width))
			checkRegister(t, false, registerWith(func(r *impl.Register) { r.Series[at].Width = width }))
		}
		checkRegister(t, true, registerWith(func(r *impl.Register) { r.Series[at].Width = 1 }))
		checkRegister(t, true, registerWith(func(r *impl.Register) { r.Series[at].Width = impl.MaxWidth }))
	}
}

func TestDigitsOfNumbers(t *testing.T) {
	for width := 1; width <= 2; width++ {
		most := power10(width) - 1
		checkRegister(t, true, oneSeries(width, papersOf(0, most, 5)...))
		checkRegister(t, false, oneSeries(width, papersOf(0, most+1, 5)...))
		checkRegister(t, true, oneSeries(width+1, papersOf(0, most+1, 5)...))
	}
	for width := 3; width <= impl.MaxWidth; width++ {
		checkRegister(t, true, oneSeries(width, papersOf(0, impl.MaxPapers, 5)...))
	}
	// It is its own Width that counts.
	two := impl.Register{Series: []impl.Series{seriesOf("a", 2), seriesOf("b", 1)}, Papers: append(papersOf(0, 10, 5), papersOf(1, 9, 2)...)}
	checkRegister(t, true, two)
	two.Series[0].Width, two.Series[1].Width = 1, 2
	checkRegister(t, false, two)
}

func TestHowManyPapersThereMayBe(t *testing.T) {
	for _, count := range []int{1, impl.MaxPapers - 1, impl.MaxPapers} {
		checkRegister(t, true, oneSeries(3, papersOf(0, count, 7)...))
	}
	for _, count := range []int{impl.MaxPapers + 1, impl.MaxPapers + 2, 999, 100000} {
		checkRegister(t, false, oneSeries(impl.MaxWidth, papersOf(0, count, 7)...))
	}
	half := append(papersOf(0, impl.MaxPapers/2, 7), papersOf(1, impl.MaxPapers/2, 3)...)
	two := impl.Register{Series: manySeries(6)[2:], Papers: half}
	checkRegister(t, true, two)
	two.Papers = append(two.Papers, paperOf(2, 1, 0))
	checkRegister(t, false, two)
	checkRegister(t, false, impl.Register{Series: manySeries(1), Papers: make([]impl.Paper, 100000)})
}

func TestPapersOfSeriesThatThereAreNot(t *testing.T) {
	for at := range handRegister().Papers {
		for _, series := range append([]int{len(handRegister().Series), len(handRegister().Series) + 1}, farPlaces...) {
			checkRegister(t, false, registerWith(func(r *impl.Register) { r.Papers[at].Series = series }))
		}
	}
	for _, series := range append([]int{0, 1}, farPlaces...) {
		checkRegister(t, false, impl.Register{Papers: []impl.Paper{paperOf(series, 1, 5)}})
		checkRegister(t, series == 0, oneSeries(3, paperOf(series, 1, 5)))
		checkRegister(t, false, oneSeries(3, paperOf(0, 1, 5), paperOf(series, 1, 5)))
	}
}

func TestNumbersOfPapers(t *testing.T) {
	for _, number := range []int{math.MinInt, -1, 0, 2, 3, 10, 1000, math.MaxInt} {
		checkRegister(t, false, oneSeries(8, paperOf(0, number, 5)))
		checkRegister(t, false, oneSeries(8, voidOf(0, number, 5)))
		checkRegister(t, number == 2, oneSeries(8, paperOf(0, 1, 5), paperOf(0, number, 5)))
		checkRegister(t, number == 2, oneSeries(8, voidOf(0, 1, 5), paperOf(0, number, 5)))
		checkRegister(t, number == 3, oneSeries(8, paperOf(0, 1, 5), voidOf(0, 2, 5), paperOf(0, number, 5)))
	}
	checkRegister(t, false, oneSeries(8, paperOf(0, 1, 5), paperOf(0, 1, 5)))
	checkRegister(t, false, oneSeries(8, voidOf(0, 1, 5), paperOf(0, 1, 5)))
	checkRegister(t, false, oneSeries(8, paperOf(0, 2, 5), paperOf(0, 1, 5)))
	checkRegister(t, false, oneSeries(8, paperOf(0, 1, 5), paperOf(0, 3, 5), paperOf(0, 2, 5)))
	for at := range handRegister().Papers {
		for _, off := range []int{-1, 1, 2, 10} {
			checkRegister(t, false, registerWith(func(r *impl.Register) { r.Papers[at].Number += off }))
		}
	}
	// Series are counted on their own: one number for all papers is none.
	two := manySeries(2)
	checkRegister(t, true, impl.Register{Series: two, Papers: []impl.Paper{paperOf(0, 1, 5), paperOf(1, 1, 5), paperOf(1, 2, 5), paperOf(0, 2, 5)}})
	checkRegister(t, false, impl.Register{Series: two, Papers: []impl.Paper{paperOf(0, 1, 5), paperOf(1, 2, 5)}})
	// Without one paper, its series' later ones have a gap ahead; the last one of its series may go.
	for at, last := range []bool{false, false, false, true, true, true} {
		checkRegister(t, last, registerWith(func(r *impl.Register) { r.Papers = slices.Delete(r.Papers, at, at+1) }))
	}
}

func TestDaysOfPapers(t *testing.T) {
	for _, day := range []int{0, 1, impl.MaxDay - 1, impl.MaxDay} {
		checkRegister(t, true, oneSeries(2, paperOf(0, 1, day)))
		checkRegister(t, true, oneSeries(2, paperOf(0, 1, day), paperOf(0, 2, day), voidOf(0, 3, day)))
		checkRegister(t, true, oneSeries(2, paperOf(0, 1, 0), paperOf(0, 2, day), paperOf(0, 3, impl.MaxDay)))
	}
	for _, day := range noDays {
		checkRegister(t, false, oneSeries(2, paperOf(0, 1, day)))
		checkRegister(t, false, oneSeries(2, paperOf(0, 1, 5), paperOf(0, 2, day)))
		checkRegister(t, false, oneSeries(2, paperOf(0, 1, day), paperOf(0, 2, day)))
		for at := range handRegister().Papers {
			checkRegister(t, false, registerWith(func(r *impl.Register) { r.Papers[at].Day = day }))
		}
	}
	two := manySeries(2)
	for a := range 4 {
		for b := range 4 {
			checkRegister(t, a <= b, oneSeries(2, paperOf(0, 1, a), paperOf(0, 2, b)))
			checkRegister(t, a <= b, oneSeries(2, voidOf(0, 1, a), voidOf(0, 2, b)))
			checkRegister(t, true, impl.Register{Series: two, Papers: []impl.Paper{paperOf(0, 1, a), paperOf(1, 1, b)}})
			checkRegister(t, a <= b, impl.Register{Series: two, Papers: []impl.Paper{paperOf(0, 1, a), paperOf(1, 1, 2), paperOf(0, 2, b)}})
		}
	}
}

func wantIssue(r impl.Register, series, day int) (impl.Register, int) {
	if !wantRegisterOk(r) {
		return impl.Register{}, impl.IssueBad
	}
	if series < 0 || series >= len(r.Series) {
		return r, impl.IssueSeries
	}
	p := impl.Paper{Series: series, Number: 1, Day: day}
	for _, other := range slices.Backward(r.Papers) {
		if other.Series != series {
			continue
		}
		if day < other.Day {
			return r, impl.IssueDay
		}
		p.Number = other.Number + 1
		break
	}
	if !isDay(day) {
		return r, impl.IssueDay
	}
	behind := copyRegister(r)
	behind.Papers = append(behind.Papers, p)
	if !wantRegisterOk(behind) {
		return r, impl.IssueFull
	}
	return behind, impl.IssueOk
}

func checkIssue(t *testing.T, r impl.Register, series, day, want int) impl.Register {
	t.Helper()
	wanted, wantTold := wantIssue(r, series, day)
	got, told := impl.Issue(r, series, day)
	if told != want || wantTold != want || !sameRegister(got, wanted) {
		t.Errorf("Issue(%d papers, %d, %d) = %d papers, %d; want %d papers, %d; of %v", len(r.Papers), series, day, len(got.Papers), told, len(wanted.Papers), want, firstOf(r))
	}
	return got
}

func TestIssueByHand(t *testing.T) {
	if impl.IssueOk != 0 || impl.IssueBad != 1 || impl.IssueSeries != 2 || impl.IssueDay != 3 || impl.IssueFull != 4 {
		t.Error("what Issue tells is not 0 to 4")
	}
	r := checkIssue(t, handRegister(), 0, 7, impl.IssueOk)
	if got := r.Papers[6]; got != paperOf(0, 4, 7) {
		t.Errorf("the fourth of its series is %v", got)
	}
	r = checkIssue(t, r, 1, 9, impl.IssueOk)
	if got := r.Papers[7]; got != paperOf(1, 3, 9) { // behind one that is void
		t.Errorf("the third of its series is %v", got)
	}
	r = checkIssue(t, r, 3, 0, impl.IssueOk)
	if got := r.Papers[8]; got != paperOf(3, 1, 0) {
		t.Errorf("the first of its series is %v", got)
	}
	r = checkIssue(t, r, 3, impl.MaxDay, impl.IssueOk)
	if got := r.Papers[9]; got != paperOf(3, 2, impl.MaxDay) || len(r.Papers) != 10 {
		t.Errorf("the second of its series is %v", got)
	}
}

func TestIssueOfSeries(t *testing.T) {
	for series := range handRegister().Series {
		checkIssue(t, handRegister(), series, 10, impl.IssueOk)
	}
	for _, series := range append([]int{len(handRegister().Series), len(handRegister().Series) + 1}, farPlaces...) {
		checkIssue(t, handRegister(), series, 10, impl.IssueSeries)
		for _, day := range noDays {
			checkIssue(t, handRegister(), series, day, impl.IssueSeries)
		}
		checkIssue(t, oneSeries(3, papersOf(0, impl.MaxPapers, 5)...), series, 4, impl.IssueSeries)
	}
	for _, series := range append([]int{0, 1}, farPlaces...) {
		checkIssue(t, impl.Register{}, series, 10, impl.IssueSeries)
	}
	checkIssue(t, impl.Register{Series: manySeries(impl.MaxSeries)}, impl.MaxSeries-1, 10, impl.IssueOk)
}

func TestIssueOfDays(t *testing.T) {
	lasts := []int{7, 9, 0, 0} // of each series; the last one has no papers
	for series, last := range lasts {
		for day := range 12 {
			if day < last {
				checkIssue(t, handRegister(), series, day, impl.IssueDay)
			} else {
				checkIssue(t, handRegister(), series, day, impl.IssueOk)
			}
		}
		checkIssue(t, handRegister(), series, impl.MaxDay, impl.IssueOk)
		for _, day := range noDays {
			checkIssue(t, handRegister(), series, day, impl.IssueDay)
		}
	}
	// A paper that is void holds its day as any other one.
	checkIssue(t, oneSeries(1, voidOf(0, 1, 9)), 0, 8, impl.IssueDay)
	checkIssue(t, oneSeries(1, voidOf(0, 1, 9)), 0, 9, impl.IssueOk)
	late := oneSeries(2, paperOf(0, 1, impl.MaxDay))
	checkIssue(t, late, 0, impl.MaxDay-1, impl.IssueDay)
	checkIssue(t, late, 0, impl.MaxDay, impl.IssueOk)
	checkIssue(t, late, 0, impl.MaxDay+1, impl.IssueDay)
}

func TestIssueUntilItsDigitsAreFull(t *testing.T) {
	for width := 1; width <= impl.MaxWidth; width++ {
		r := impl.Register{Series: []impl.Series{seriesOf("a", width), seriesOf("b", 3)}}
		most := min(power10(width)-1, impl.MaxPapers)
		for range most {
			r = checkIssue(t, r, 0, 5, impl.IssueOk)
		}
		if len(r.Papers) != most || r.Papers[most-1] != paperOf(0, most, 5) {
			t.Errorf("the last of Width %d: %v", width, firstOf(r))
		}
		checkIssue(t, r, 0, 5, impl.IssueFull)
		checkIssue(t, r, 0, 4, impl.IssueDay)
		checkIssue(t, r, 0, impl.MaxDay+1, impl.IssueDay)
		checkIssue(t, r, 2, 5, impl.IssueSeries)
		r, _ = impl.Void(r, most-1)
		checkIssue(t, r, 0, 5, impl.IssueFull)
		if most < impl.MaxPapers {
			checkIssue(t, r, 1, 0, impl.IssueOk)
		} else {
			checkIssue(t, r, 1, 0, impl.IssueFull)
		}
	}
}

func TestIssueUntilTheRegisterIsFull(t *testing.T) {
	r := impl.Register{Series: manySeries(impl.MaxSeries)[2:]}
	for i := range impl.MaxPapers {
		r = checkIssue(t, r, i%4, i, impl.IssueOk)
	}
	checkRegister(t, true, r)
	for series := range r.Series {
		checkIssue(t, r, series, impl.MaxDay, impl.IssueFull)
		checkIssue(t, r, series, -1, impl.IssueDay)
	}
	checkIssue(t, r, 1, 300, impl.IssueDay)
	checkIssue(t, r, len(r.Series), 300, impl.IssueSeries)
}

func checkVoid(t *testing.T, r impl.Register, at int, want bool) impl.Register {
	t.Helper()
	wanted := copyRegister(r)
	if want {
		wanted.Papers[at].Void = true
	}
	got, ok := impl.Void(r, at)
	if ok != want || !sameRegister(got, wanted) {
		t.Errorf("Void(%v, %d) = %v, %v; want %v", firstOf(r), at, firstOf(got), ok, want)
	}
	return got
}

func TestVoidByHand(t *testing.T) {
	for at, free := range []bool{true, true, false, true, false, true} {
		r := checkVoid(t, handRegister(), at, free)
		checkVoid(t, r, at, false)
		checkRegister(t, true, r)
	}
	for _, at := range append([]int{6, 7}, farPlaces...) {
		checkVoid(t, handRegister(), at, false)
	}
	for _, at := range append([]int{0, 1}, farPlaces...) {
		checkVoid(t, impl.Register{}, at, false)
		checkVoid(t, oneSeries(1), at, false)
	}
	full := oneSeries(3, papersOf(0, impl.MaxPapers, 5)...)
	checkVoid(t, full, 0, true)
	checkVoid(t, full, impl.MaxPapers-1, true)
	checkVoid(t, full, impl.MaxPapers, false)
}

// The number of a paper that is void stays used, and so does its day.
func TestIssueBehindWhatIsVoid(t *testing.T) {
	r := oneSeries(2)
	for n := 1; n <= 99; n++ {
		r = checkIssue(t, r, 0, n, impl.IssueOk)
		r = checkVoid(t, r, n-1, true)
		if r.Papers[n-1] != voidOf(0, n, n) {
			t.Errorf("the paper %d is %v", n, r.Papers[n-1])
		}
		checkIssue(t, r, 0, n-1, impl.IssueDay)
	}
	checkIssue(t, r, 0, 100, impl.IssueFull)
}

// P27: of each series the Numbers are 1 to how many there are, and each paper's text finds it.
func checkNumbers(t *testing.T, r impl.Register) {
	t.Helper()
	counts := make([]int, len(r.Series))
	for at, p := range r.Papers {
		counts[p.Series]++
		if p.Number != counts[p.Series] {
			t.Errorf("paper %d is number %d of series %d; want %d", at, p.Number, p.Series, counts[p.Series])
		}
		text := impl.ShowPaper(r, at)
		if got := impl.FindPaper(r, text); text == "" || got != at {
			t.Errorf("the text of paper %d, %q, finds %d", at, text, got)
		}
	}
}

func TestSomeRegistersAsTheyFill(t *testing.T) {
	chance := rand.New(rand.NewSource(111))
	told := [5]int{}
	voided := 0
	for range 60 {
		r := impl.Register{Series: manySeries(1 + chance.Intn(impl.MaxSeries))}
		chance.Shuffle(len(r.Series), func(i, k int) { r.Series[i], r.Series[k] = r.Series[k], r.Series[i] })
		for i := range 150 {
			if at := chance.Intn(len(r.Papers)+3) - 1; chance.Intn(4) == 0 {
				want := at >= 0 && at < len(r.Papers) && !r.Papers[at].Void
				r = checkVoid(t, r, at, want)
				if want {
					voided++
				}
				continue
			}
			series, day := chance.Intn(min(5, len(r.Series))+1)-chance.Intn(2), i-chance.Intn(9)
			_, want := wantIssue(r, series, day)
			r = checkIssue(t, r, series, day, want)
			told[want]++
		}
		checkRegister(t, true, r)
		checkNumbers(t, r)
	}
	if told[impl.IssueOk] < 1000 || told[impl.IssueSeries] < 100 || told[impl.IssueDay] < 100 || told[impl.IssueFull] < 100 || voided < 500 {
		t.Errorf("told %v, voided %d", told, voided)
	}
}

func spoilRegister(chance *rand.Rand, r *impl.Register) {
	s, p := &r.Series[chance.Intn(len(r.Series))], &r.Papers[chance.Intn(len(r.Papers))]
	switch chance.Intn(7) {
	case 0:
		s.Prefix = r.Series[chance.Intn(len(r.Series))].Prefix
	case 1:
		s.Width = chance.Intn(10)
	case 2:
		p.Number += chance.Intn(3) - 1
	case 3:
		p.Day += chance.Intn(5) - 2
	case 4:
		p.Series = chance.Intn(len(r.Series)+2) - 1
	case 5:
		p.Void = !p.Void
	case 6:
		*p = r.Papers[chance.Intn(len(r.Papers))]
	}
}

func TestSomeSpoiltRegisters(t *testing.T) {
	chance := rand.New(rand.NewSource(112))
	right, wrong := 0, 0
	for range 3000 {
		r := impl.Register{Series: manySeries(1 + chance.Intn(4))}
		for i := range 1 + chance.Intn(25) {
			r, _ = impl.Issue(r, chance.Intn(len(r.Series)), i-chance.Intn(2))
		}
		if len(r.Papers) == 0 {
			continue
		}
		for range chance.Intn(3) {
			spoilRegister(chance, &r)
		}
		want := wantRegisterOk(r)
		checkRegister(t, want, r)
		if want {
			checkNumbers(t, r)
			right++
		} else {
			wrong++
		}
	}
	if right < 500 || wrong < 500 {
		t.Errorf("%d right, %d wrong", right, wrong)
	}
}

// Behind the lists stands more, which is neither read nor written nor handed out.
func TestRegistersLeaveTheirLists(t *testing.T) {
	series := append(handRegister().Series, seriesOf("", -1), seriesOf("in", 3))
	papers := append(handRegister().Papers, paperOf(77, 77, 77), paperOf(78, 78, 78))
	keptSeries, keptPapers := slices.Clone(series), slices.Clone(papers)
	r := impl.Register{Series: series[:4], Papers: papers[:6]}
	checkRegister(t, true, r)
	answers := []impl.Register{}
	for _, series := range []int{0, 1, 2, 3, 4, -1} {
		for _, day := range []int{-1, 4, 9, 50000} {
			got, _ := impl.Issue(r, series, day)
			again, _ := impl.Issue(r, series, day)
			answers = append(answers, got, again)
		}
	}
	for at := -1; at <= 7; at++ {
		got, _ := impl.Void(r, at)
		again, _ := impl.Void(r, at)
		answers = append(answers, got, again)
		impl.ShowPaper(r, at)
	}
	impl.FindPaper(r, "in-003")
	kept := make([]impl.Register, len(answers))
	for i, got := range answers {
		kept[i] = copyRegister(got)
	}
	for i, got := range answers {
		if !sameRegister(got, kept[i]) {
			t.Fatal("two answers share their memory")
		}
		for k := range got.Series {
			got.Series[k] = seriesOf("spoilt", 99)
		}
		for k := range got.Papers {
			got.Papers[k] = paperOf(99, 99, 99)
		}
		_ = append(got.Series, seriesOf("behind", 98))
		_ = append(got.Papers, paperOf(98, 98, 98))
	}
	if !slices.Equal(series, keptSeries) || !slices.Equal(papers, keptPapers) {
		t.Error("what was given is written into")
	}
}
