package tests

import (
	"math"
	"math/rand"
	"regexp"
	"slices"
	"strconv"
	"strings"
	"testing"

	"loop.example/g00040/impl"
)

var accountName = regexp.MustCompile(`\A[A-Za-z0-9._-]{1,20}\z`)

// What is written of a part: a sum or difference ('s'), a product or quotient ('p') or a factor ('f'), and how many are open in it at most.
type written struct {
	text string
	kind byte
	deep int
}

func (w written) bracketed(kinds string) written {
	if !strings.ContainsRune(kinds, rune(w.kind)) {
		return w
	}
	return written{text: "(" + w.text + ")", kind: 'f', deep: w.deep + 1}
}

func between(left written, sign string, right written, kind byte) written {
	return written{text: left.text + sign + right.text, kind: kind, deep: max(left.deep, right.deep)}
}

// wantWritten writes the terms from the first on; false when one takes more than there are, or not just one is left.
func wantWritten(terms []impl.Term) (written, bool) {
	parts := []written{}
	for _, t := range terms {
		last := len(parts) - 1
		num := written{text: strconv.Itoa(t.Num), kind: 'f'}
		switch t.Kind {
		case impl.TermNum:
			parts = append(parts, num)
			continue
		case impl.TermRow:
			parts = append(parts, written{text: t.Name, kind: 'f'})
			continue
		case impl.TermAccount:
			parts = append(parts, written{text: "@" + t.Name, kind: 'f'})
			continue
		}
		if last < 0 {
			return written{}, false
		}
		switch t.Kind {
		case impl.TermNeg:
			inner := parts[last].bracketed("sp")
			parts[last] = written{text: "-" + inner.text, kind: 'f', deep: inner.deep + 1}
			continue
		case impl.TermMul:
			parts[last] = between(parts[last].bracketed("s"), " * ", num, 'p')
			continue
		case impl.TermDiv:
			parts[last] = between(parts[last].bracketed("s"), " / ", num, 'p')
			continue
		}
		if last < 1 {
			return written{}, false
		}
		sign := map[int]string{impl.TermAdd: " + ", impl.TermSub: " - "}[t.Kind]
		parts = append(parts[:last-1], between(parts[last-1], sign, parts[last].bracketed("s"), 's'))
	}
	if len(parts) != 1 {
		return written{}, false
	}
	return parts[0], true
}

func wantTermOk(t impl.Term, above []string) bool {
	switch t.Kind {
	case impl.TermNum, impl.TermMul:
		return t.Name == "" && t.Num >= 0 && t.Num <= impl.MaxFactor
	case impl.TermDiv:
		return t.Name == "" && t.Num >= 1 && t.Num <= impl.MaxFactor
	case impl.TermRow:
		return slices.Contains(above, t.Name) && t.Num == 0
	case impl.TermAccount:
		return accountName.MatchString(t.Name) && t.Num == 0
	}
	return slices.Contains([]impl.Term{negTerm, addTerm, subTerm}, t)
}

// wantShowReport answers the text of the rows, and whether they are right.
func wantShowReport(rows []impl.Row) (string, bool) {
	text, above := "", []string{}
	for _, r := range rows {
		for _, t := range r.Terms {
			if !wantTermOk(t, above) {
				return "", false
			}
		}
		whole, ok := wantWritten(r.Terms)
		if !ok || whole.deep > impl.MaxNest || len(r.Terms) > impl.MaxTerms || !rowForm.MatchString(r.Name) || slices.Contains(above, r.Name) {
			return "", false
		}
		text += r.Name + " = " + whole.text + "\n"
		above = append(above, r.Name)
	}
	if len(rows) > impl.MaxRows {
		return "", false
	}
	return text, true
}

// checkThereReport asks P23.
func checkThereReport(t *testing.T, rows []impl.Row) {
	t.Helper()
	text := impl.ShowReport(rows)
	if len(text) > impl.MaxReport {
		refuseReport(t, text, 1)
	} else {
		checkParse(t, text, rows...)
	}
}

func takeRows(t *testing.T, rows ...impl.Row) {
	t.Helper()
	want, ok := wantShowReport(rows)
	if !ok {
		t.Fatalf("%v are not right", rows)
	}
	if !impl.ReportOk(rows) {
		t.Errorf("ReportOk(%v) = false", rows)
	}
	if got := impl.ShowReport(rows); got != want {
		t.Errorf("ShowReport(%v) = %q; want %q", rows, got, want)
	}
	checkThereReport(t, rows)
}

func refuseRows(t *testing.T, rows ...impl.Row) {
	t.Helper()
	if impl.ReportOk(rows) {
		t.Errorf("ReportOk(%v) = true", rows)
	}
	if got := impl.ShowReport(rows); got != "" {
		t.Errorf("ShowReport(%v) = %q; want nothing", rows, got)
	}
	if got, ok := impl.EvalReport(rows, handChart(), make([]int, len(handChart()))); ok || len(got) != 0 {
		t.Errorf("EvalReport(%v) = %v, %v; want nothing and false", rows, got, ok)
	}
}

func rowsAsWanted(t *testing.T, rows ...impl.Row) bool {
	t.Helper()
	_, ok := wantShowReport(rows)
	if ok {
		takeRows(t, rows...)
	} else {
		refuseRows(t, rows...)
	}
	return ok
}

// Terms that are a number alone: one that is right, for what stands around it to be looked at.
func oneTerm() []impl.Term { return termsOf(numTerm(1)) }

func severalRows(count int) []impl.Row {
	rows := make([]impl.Row, count)
	for i := range rows {
		rows[i] = rowOf("r"+strconv.Itoa(i), numTerm(i))
	}
	return rows
}

func TestHowManyRowsAreRight(t *testing.T) {
	takeRows(t)
	takeRows(t, []impl.Row{}...)
	takeRows(t, handRows()...)
	for _, count := range []int{1, 2, impl.MaxRows - 1, impl.MaxRows} {
		takeRows(t, severalRows(count)...)
	}
	for _, count := range []int{impl.MaxRows + 1, impl.MaxRows + 2, 500} {
		refuseRows(t, severalRows(count)...)
	}
	refuseRows(t, impl.Row{})
	refuseRows(t, make([]impl.Row, impl.MaxRows)...)
}

func TestNamesOfRightRows(t *testing.T) {
	for _, name := range []string{"a", "Z", "a1", "a_", "a.", "x20.y_Z", strings.Repeat("n", impl.MaxName)} {
		takeRows(t, rowOf(name, oneTerm()...))
		takeRows(t, rowOf("b", oneTerm()...), rowOf(name, rowTerm("b")), rowOf("c", rowTerm(name)))
	}
	wrong := []string{"", "1", "1a", "_a", ".a", "-a", "a-b", "a-", "-", "@a", "a ", " a", "a=", "a\n", "é", "a\x00", "\xff", strings.Repeat("n", impl.MaxName+1), strings.Repeat("n", 100000)}
	for _, name := range append(wrong, noNames...) {
		refuseRows(t, rowOf(name, oneTerm()...))
		refuseRows(t, rowOf("b", oneTerm()...), rowOf(name, rowTerm("b")))
		refuseRows(t, rowOf(name, oneTerm()...), rowOf("b", oneTerm()...))
	}
	for b := range 256 {
		rowsAsWanted(t, rowOf(string([]byte{byte(b)}), oneTerm()...))
		rowsAsWanted(t, rowOf("n"+string([]byte{byte(b)}), oneTerm()...))
		rowsAsWanted(t, rowOf("n", accountTerm(string([]byte{byte(b)}))))
		rowsAsWanted(t, rowOf("n", accountTerm("n"+string([]byte{byte(b)}))))
	}
	refuseRows(t, rowOf("a", oneTerm()...), rowOf("a", oneTerm()...))
	refuseRows(t, rowOf("a", oneTerm()...), rowOf("b", oneTerm()...), rowOf("a", rowTerm("b")))
	takeRows(t, rowOf("a", oneTerm()...), rowOf("A", oneTerm()...), rowOf("a.", oneTerm()...))
}

func TestHowManyTermsAreRight(t *testing.T) {
	refuseRows(t, rowOf("a"))
	refuseRows(t, impl.Row{Name: "a", Terms: []impl.Term{}})
	refuseRows(t, rowOf("b", oneTerm()...), rowOf("a"))
	for count := 1; count <= impl.MaxTerms+5; count++ {
		products := append(oneTerm(), slices.Repeat(termsOf(mulTerm(2)), count-1)...)
		sums := slices.Concat(oneTerm(), slices.Repeat(termsOf(numTerm(2), addTerm), (count-1)/2), slices.Repeat(termsOf(negTerm), (count-1)%2))
		if len(products) != count || len(sums) != count {
			t.Fatal("not as many terms as asked for")
		}
		for _, terms := range [][]impl.Term{products, sums} {
			if count <= impl.MaxTerms {
				takeRows(t, rowOf("a", terms...))
				takeRows(t, rowOf("a", terms...), rowOf("b", terms...))
			} else {
				refuseRows(t, rowOf("a", terms...))
				refuseRows(t, rowOf("b", oneTerm()...), rowOf("a", terms...))
			}
		}
	}
	refuseRows(t, rowOf("a", slices.Repeat(oneTerm(), 100000)...))
	refuseRows(t, rowOf("a", append(oneTerm(), slices.Repeat(termsOf(negTerm), 1000000)...)...))
}

// Every order of terms of each kind, up to five of them: those that take more than there are, leave none, one or more.
func TestOrdersOfTerms(t *testing.T) {
	kinds := termsOf(numTerm(3), rowTerm("x"), accountTerm("cash"), negTerm, addTerm, subTerm, mulTerm(2), divTerm(4))
	lists := [][]impl.Term{{}}
	right := 0
	for range 5 {
		next := [][]impl.Term{}
		for _, terms := range lists {
			for _, term := range kinds {
				next = append(next, append(slices.Clone(terms), term))
			}
		}
		lists = next
		for _, terms := range lists {
			if rowsAsWanted(t, rowOf("x", oneTerm()...), rowOf("a", terms...)) {
				right++
			}
		}
	}
	if right < 500 {
		t.Errorf("%d orders were right", right)
	}
	refuseRows(t, rowOf("a", numTerm(1), numTerm(2)))
	refuseRows(t, rowOf("a", numTerm(1), addTerm))
	refuseRows(t, rowOf("a", negTerm))
	refuseRows(t, rowOf("a", negTerm, numTerm(1)))
	refuseRows(t, rowOf("a", numTerm(1), numTerm(2), addTerm, subTerm))
	refuseRows(t, rowOf("a", numTerm(1), addTerm, numTerm(2)))
}

// A term of each kind with each Num and Name, where it stands as one of its kind may.
func TestWhatATermMayHave(t *testing.T) {
	nums := []int{math.MinInt, -impl.MaxFactor, -1, 0, 1, 2, impl.MaxFactor - 1, impl.MaxFactor, impl.MaxFactor + 1, impl.MaxMoney, math.MaxInt}
	names := []string{"", "x", "z", "X", "a", "cash", "a-b", "1", "-", " ", "x ", "@x", "é", strings.Repeat("n", impl.MaxName), strings.Repeat("n", impl.MaxName+1)}
	x, z := rowOf("x", oneTerm()...), rowOf("z", oneTerm()...)
	right := map[int]int{}
	for kind := -1; kind <= 10; kind++ {
		for _, num := range nums {
			for _, name := range names {
				term := impl.Term{Kind: kind, Num: num, Name: name}
				for _, terms := range [][]impl.Term{{term}, {numTerm(1), term}, {numTerm(1), numTerm(2), term}, {term, negTerm}} {
					if rowsAsWanted(t, x, rowOf("a", terms...), z) {
						right[kind]++
					}
				}
			}
		}
	}
	// Of a single kind two orders are right, of an operator one; x is the only row above, nine of the names are names.
	want := map[int]int{
		impl.TermNum: 2 * 5, impl.TermRow: 2, impl.TermAccount: 2 * 9, impl.TermNeg: 1,
		impl.TermAdd: 1, impl.TermSub: 1, impl.TermMul: 5, impl.TermDiv: 4,
	}
	for kind := -1; kind <= 10; kind++ {
		if right[kind] != want[kind] {
			t.Errorf("of kind %d are %d right; want %d", kind, right[kind], want[kind])
		}
	}
	for _, kind := range []int{math.MinInt, -impl.TermNum, 0, 9, 1 << 32, 1<<32 + impl.TermNum, math.MaxInt} {
		refuseRows(t, rowOf("a", impl.Term{Kind: kind}))
		refuseRows(t, rowOf("a", numTerm(1), impl.Term{Kind: kind}))
		refuseRows(t, rowOf("a", numTerm(1), numTerm(2), impl.Term{Kind: kind}))
	}
}

func TestRowsThatAreMeant(t *testing.T) {
	takeRows(t, rowOf("a", oneTerm()...), rowOf("b", rowTerm("a")), rowOf("c", rowTerm("a"), rowTerm("b"), addTerm))
	refuseRows(t, rowOf("a", rowTerm("a")))
	refuseRows(t, rowOf("a", rowTerm("b")), rowOf("b", oneTerm()...))
	refuseRows(t, rowOf("a", oneTerm()...), rowOf("b", rowTerm("c")), rowOf("c", oneTerm()...))
	refuseRows(t, rowOf("a", oneTerm()...), rowOf("b", rowTerm("b")))
	refuseRows(t, rowOf("a", oneTerm()...), rowOf("b", rowTerm("")))
	refuseRows(t, rowOf("a", oneTerm()...), rowOf("b", rowTerm("A")))
	takeRows(t, rowOf("a", accountTerm("a")), rowOf("b", accountTerm("nowhere")))
}

// Terms that are one deeper with each step, and by how much.
type deepening struct {
	first []impl.Term
	ahead []impl.Term // what the step puts ahead of all
	step  []impl.Term
	by    int
}

func (d deepening) terms(steps int) []impl.Term {
	return slices.Concat(slices.Repeat(d.ahead, steps), d.first, slices.Repeat(d.step, steps))
}

func TestHowDeepRightRowsAre(t *testing.T) {
	one, sum := numTerm(1), termsOf(numTerm(1), numTerm(2), addTerm)
	ways := []deepening{
		{first: termsOf(one), step: termsOf(negTerm), by: 1},
		{first: sum, ahead: termsOf(one), step: termsOf(subTerm), by: 1},
		{first: sum, ahead: termsOf(one), step: termsOf(addTerm), by: 1},
		{first: sum, step: termsOf(mulTerm(2), one, addTerm), by: 1},
		{first: sum, step: termsOf(divTerm(2), one, subTerm), by: 1},
		{first: termsOf(one, one, subTerm), step: termsOf(negTerm, one, subTerm), by: 2},
		{first: termsOf(one, mulTerm(2)), step: termsOf(negTerm, mulTerm(3)), by: 2},
		{first: termsOf(one, divTerm(2)), step: termsOf(negTerm, divTerm(3)), by: 2},
		{first: sum, ahead: termsOf(one), step: termsOf(negTerm, addTerm, mulTerm(2), one, addTerm), by: 3},
		{first: termsOf(one), step: termsOf(one, subTerm)},
		{first: termsOf(one), step: termsOf(mulTerm(2))},
		{first: termsOf(one), step: termsOf(one, mulTerm(2), addTerm)},
		{first: termsOf(one), step: termsOf(one, negTerm, addTerm)},
	}
	for i, d := range ways {
		for steps := range 25 {
			r := rowOf("a", d.terms(steps)...)
			shown, ok := wantWritten(r.Terms)
			if !ok || i < 8 && shown.deep != d.by*steps {
				t.Fatalf("way %d is %d deep at %d steps: %v", i, shown.deep, steps, r)
			}
			if rowsAsWanted(t, r) != (shown.deep <= impl.MaxNest) {
				t.Errorf("way %d at %d steps", i, steps)
			}
			rowsAsWanted(t, rowOf("b", oneTerm()...), r)
			rowsAsWanted(t, r, rowOf("b", oneTerm()...))
			rowsAsWanted(t, rowOf("a", append(slices.Clone(r.Terms), negTerm)...))
			rowsAsWanted(t, rowOf("a", slices.Concat(oneTerm(), r.Terms, termsOf(subTerm))...))
		}
	}
}

func TestDepthAtTheLimit(t *testing.T) {
	minus := func(count int) []impl.Term { return append(oneTerm(), slices.Repeat(termsOf(negTerm), count)...) }
	takeRows(t, rowOf("a", minus(impl.MaxNest)...))
	refuseRows(t, rowOf("a", minus(impl.MaxNest+1)...))
	takeRows(t, rowOf("a", slices.Concat(minus(impl.MaxNest), minus(impl.MaxNest), termsOf(addTerm))...))
	refuseRows(t, rowOf("a", slices.Concat(minus(impl.MaxNest), minus(1), termsOf(addTerm, negTerm))...))
	refuseRows(t, rowOf("a", slices.Concat(oneTerm(), minus(impl.MaxNest), oneTerm(), termsOf(addTerm, addTerm))...))
	takeRows(t, rowOf("a", slices.Concat(oneTerm(), minus(impl.MaxNest-1), oneTerm(), termsOf(addTerm, addTerm))...))
	takeRows(t, rowOf("a", slices.Concat(minus(impl.MaxNest), oneTerm(), termsOf(addTerm), oneTerm(), termsOf(subTerm))...))
	// Brackets that must not stand are not open: a sum on the left, a product in a product.
	takeRows(t, rowOf("a", slices.Concat(minus(impl.MaxNest), slices.Repeat(termsOf(mulTerm(2), divTerm(3), numTerm(1), addTerm), 1), slices.Repeat(termsOf(numTerm(1), subTerm), 50))...))
	takeRows(t, rowOf("a", minus(impl.MaxNest)...), rowOf("b", append(oneTerm(), slices.Repeat(termsOf(negTerm), impl.MaxNest)...)...))
	refuseRows(t, rowOf("a", minus(impl.MaxNest)...), rowOf("b", minus(impl.MaxNest+1)...))
}

func someNum(chance *rand.Rand) int {
	return []int{0, 1, 2, 10, chance.Intn(100), chance.Intn(impl.MaxFactor + 1), impl.MaxFactor}[chance.Intn(7)]
}

// Right terms, of at most size; how deep they are hangs on chance.
func someTerms(chance *rand.Rand, size int, singles []impl.Term) []impl.Term {
	if size < 2 {
		if chance.Intn(3) == 0 {
			return termsOf(numTerm(someNum(chance)))
		}
		return termsOf(singles[chance.Intn(len(singles))])
	}
	switch chance.Intn(8) {
	case 0:
		return append(someTerms(chance, size-1, singles), negTerm)
	case 1:
		return append(someTerms(chance, size-1, singles), mulTerm(someNum(chance)))
	case 2:
		return append(someTerms(chance, size-1, singles), divTerm(1+chance.Intn(20)))
	}
	left := 1 + chance.Intn(size-1)
	sides := slices.Concat(someTerms(chance, left-1, singles), someTerms(chance, size-left, singles))
	return append(sides, []impl.Term{addTerm, subTerm}[chance.Intn(2)])
}

func someRows(chance *rand.Rand, chart []impl.Account, size int) []impl.Row {
	rows := []impl.Row{}
	singles := []impl.Term{}
	for _, a := range chart {
		singles = append(singles, accountTerm(a.Code))
	}
	for i := range 1 + chance.Intn(6) {
		r := rowOf("r"+strconv.Itoa(i), someTerms(chance, chance.Intn(size), singles)...)
		rows = append(rows, r)
		singles = append(singles, rowTerm(r.Name))
	}
	return rows
}

func spoilRows(chance *rand.Rand, rows []impl.Row) {
	r := &rows[chance.Intn(len(rows))]
	at := chance.Intn(len(r.Terms))
	switch chance.Intn(6) {
	case 0:
		r.Name = []string{"r0", "a-b", "", "0"}[chance.Intn(4)]
	case 1:
		r.Terms = slices.Delete(r.Terms, at, at+1)
	case 2:
		r.Terms = slices.Insert(r.Terms, at, negTerm)
	case 3:
		r.Terms[at].Kind = chance.Intn(10)
	case 4:
		r.Terms[at].Num += chance.Intn(3) - 1
	case 5:
		r.Terms[at].Name = []string{"", "r0", "r5", "cash"}[chance.Intn(4)]
	}
}

func TestSomeRows(t *testing.T) {
	chance := rand.New(rand.NewSource(92))
	right, wrong := 0, 0
	for range 6000 {
		rows := someRows(chance, handChart(), []int{4, 12, 40, 120}[chance.Intn(4)])
		if chance.Intn(2) == 0 {
			spoilRows(chance, rows)
		}
		if rowsAsWanted(t, rows...) {
			right++
		} else {
			wrong++
		}
	}
	if right < 1000 || wrong < 1000 {
		t.Errorf("%d right, %d wrong", right, wrong)
	}
}

func roomyRows() []impl.Row {
	rows := handRows()
	for i, r := range rows {
		rows[i].Terms = append(r.Terms, impl.Term{Kind: 77}, impl.Term{Num: -7})[:len(r.Terms)]
	}
	return append(rows, impl.Row{Name: "behind"}, rowOf("", numTerm(-1)))[:len(rows)]
}

// What lies behind the lengths is held against each other too.
func sameRoomyRows(a, b []impl.Row) bool {
	for i := range a {
		if a[i].Name != b[i].Name || !slices.Equal(a[i].Terms[:len(a[i].Terms)+2], b[i].Terms[:len(b[i].Terms)+2]) {
			return false
		}
	}
	return sameRows(a[:len(a)+2], b[:len(b)+2])
}

func TestReportsLeaveTheirRows(t *testing.T) {
	rows := roomyRows()
	if !impl.ReportOk(rows) || impl.ShowReport(rows) != impl.ShowReport(handRows()) {
		t.Error("what lies behind the lengths is read")
	}
	if _, ok := impl.EvalReport(rows, handChart(), make([]int, len(handChart()))); !ok {
		t.Error("EvalReport refuses rows with something behind their lengths")
	}
	if !sameRoomyRows(rows, roomyRows()) {
		t.Error("the rows were written into")
	}
	parsed, _ := impl.ParseReport(impl.ShowReport(rows))
	for i := range parsed {
		clear(parsed[i].Terms)
	}
	if !sameRoomyRows(rows, roomyRows()) {
		t.Error("the rows were handed out")
	}
}
