package tests

import (
	"math/rand"
	"regexp"
	"slices"
	"strconv"
	"strings"
	"testing"

	"loop.example/g00040/impl"
)

var (
	negTerm = impl.Term{Kind: impl.TermNeg}
	addTerm = impl.Term{Kind: impl.TermAdd}
	subTerm = impl.Term{Kind: impl.TermSub}
)

func numTerm(n int) impl.Term               { return impl.Term{Kind: impl.TermNum, Num: n} }
func rowTerm(name string) impl.Term         { return impl.Term{Kind: impl.TermRow, Name: name} }
func accountTerm(name string) impl.Term     { return impl.Term{Kind: impl.TermAccount, Name: name} }
func mulTerm(n int) impl.Term               { return impl.Term{Kind: impl.TermMul, Num: n} }
func divTerm(n int) impl.Term               { return impl.Term{Kind: impl.TermDiv, Num: n} }
func termsOf(list ...impl.Term) []impl.Term { return list }

func rowOf(name string, terms ...impl.Term) impl.Row { return impl.Row{Name: name, Terms: terms} }

func sameRow(a, b impl.Row) bool { return a.Name == b.Name && slices.Equal(a.Terms, b.Terms) }

func sameRows(a, b []impl.Row) bool { return slices.EqualFunc(a, b, sameRow) }

var reportToken = regexp.MustCompile(`\A *([A-Za-z][A-Za-z0-9._]*|[0-9]+|@[A-Za-z0-9._-]*|[-+*/()=])`)

// tokensOf cuts a line into its parts; none when something stands in it that is no part.
func tokensOf(line string) []string {
	tokens := []string{}
	for strings.Trim(line, " ") != "" {
		found := reportToken.FindStringSubmatch(line)
		if found == nil {
			return nil
		}
		tokens = append(tokens, found[1])
		line = line[len(found[0]):]
	}
	return tokens
}

// A yard shunts operators aside until what they take is done; "neg" is the minus sign of a factor.
type yard struct {
	aside []string
	terms []impl.Term
	wrong bool
}

func (y *yard) openNow() int {
	count := 0
	for _, op := range y.aside {
		if op == "(" || op == "neg" {
			count++
		}
	}
	return count
}

// back does what stands aside as long as it is one of these.
func (y *yard) back(which ...string) {
	for len(y.aside) > 0 && slices.Contains(which, y.aside[len(y.aside)-1]) {
		kind := map[string]int{"neg": impl.TermNeg, "+": impl.TermAdd, "-": impl.TermSub}[y.aside[len(y.aside)-1]]
		y.terms = append(y.terms, impl.Term{Kind: kind})
		y.aside = y.aside[:len(y.aside)-1]
	}
}

func (y *yard) put(op string) {
	y.aside = append(y.aside, op)
	y.wrong = y.wrong || y.openNow() > impl.MaxNest
}

func (y *yard) single(token string, above []string) {
	switch b := token[0]; {
	case b == '@':
		y.terms = append(y.terms, accountTerm(token[1:]))
		y.wrong = y.wrong || len(token) < 2 || len(token) > 1+impl.MaxName
	case b >= '0' && b <= '9':
		n, ok := wantNumber(token, 0)
		y.terms = append(y.terms, numTerm(n))
		y.wrong = y.wrong || !ok
	default:
		y.terms = append(y.terms, rowTerm(token))
		y.wrong = y.wrong || !slices.Contains(above, token)
	}
	y.back("neg")
}

func (y *yard) closeOne() {
	y.back("+", "-")
	if len(y.aside) == 0 {
		y.wrong = true
		return
	}
	y.aside = y.aside[:len(y.aside)-1]
	y.back("neg")
}

func wantNumber(digits string, least int) (int, bool) {
	n, err := strconv.Atoi(digits)
	return n, err == nil && strconv.Itoa(n) == digits && n >= least && n <= impl.MaxFactor
}

// wantTerms reads an expression with a yard, going to and fro between wanting what is taken and wanting an operator.
func wantTerms(tokens []string, above []string) ([]impl.Term, bool) {
	y := &yard{}
	wanting := true
	for i := 0; i < len(tokens) && !y.wrong; i++ {
		token := tokens[i]
		switch {
		case wanting && token == "-":
			y.put("neg")
		case wanting && token == "(":
			y.put("(")
		case wanting && !strings.Contains("+*/)=", token):
			y.single(token, above)
			wanting = false
		case !wanting && token == ")":
			y.closeOne()
		case !wanting && (token == "+" || token == "-"):
			y.back("+", "-")
			y.put(token)
			wanting = true
		case !wanting && (token == "*" || token == "/") && i+1 < len(tokens):
			i++
			kind := map[string]int{"*": impl.TermMul, "/": impl.TermDiv}[token]
			n, ok := wantNumber(tokens[i], kind-impl.TermMul)
			y.terms = append(y.terms, impl.Term{Kind: kind, Num: n})
			y.wrong = !ok
		default:
			return nil, false
		}
	}
	y.back("+", "-")
	return y.terms, !y.wrong && !wanting && len(y.aside) == 0 && len(y.terms) <= impl.MaxTerms
}

var rowForm = regexp.MustCompile(`\A[A-Za-z][A-Za-z0-9._]{0,19}\z`)

func wantParse(text string) ([]impl.Row, int) {
	if len(text) > impl.MaxReport {
		return nil, 1
	}
	rows, above := []impl.Row{}, []string{}
	for i, line := range strings.Split(text, "\n") {
		if strings.Trim(line, " ") == "" || line[0] == '#' {
			continue
		}
		tokens := tokensOf(line)
		if len(tokens) < 3 || tokens[1] != "=" || !rowForm.MatchString(tokens[0]) || slices.Contains(above, tokens[0]) || len(rows) == impl.MaxRows {
			return nil, i + 1
		}
		terms, ok := wantTerms(tokens[2:], above)
		if !ok {
			return nil, i + 1
		}
		rows = append(rows, impl.Row{Name: tokens[0], Terms: terms})
		above = append(above, tokens[0])
	}
	return rows, 0
}

func checkParse(t *testing.T, text string, want ...impl.Row) {
	t.Helper()
	got, line := impl.ParseReport(text)
	if !sameRows(got, want) || line != 0 {
		t.Errorf("ParseReport(%q) = %v, %d; want %v, 0", text, got, line, want)
	}
}

// The row that a line is, alone in its text, with rows named x and y above.
func checkExpression(t *testing.T, expression string, want ...impl.Term) {
	t.Helper()
	checkParse(t, "x=1\ny=2\na = "+expression, rowOf("x", numTerm(1)), rowOf("y", numTerm(2)), rowOf("a", want...))
}

func refuseReport(t *testing.T, text string, want int) {
	t.Helper()
	got, line := impl.ParseReport(text)
	if len(got) != 0 || line != want {
		t.Errorf("ParseReport(%.200q) of %d bytes = %v, %d; want nothing, %d", text, len(text), got, line, want)
	}
}

func refuseExpression(t *testing.T, expression string) {
	t.Helper()
	refuseReport(t, "x=1\ny=2\na = "+expression+"\n", 3)
	refuseReport(t, "x=1\ny=2\na = "+expression, 3)
}

func parseAsWanted(t *testing.T, text string) bool {
	t.Helper()
	want, wantLine := wantParse(text)
	got, line := impl.ParseReport(text)
	if !sameRows(got, want) || line != wantLine {
		t.Errorf("ParseReport(%q) = %v, %d; want %v, %d", text, got, line, want, wantLine)
	}
	if line == 0 && !impl.ReportOk(got) {
		t.Errorf("ParseReport(%q) = %v, which are not ReportOk", text, got)
	}
	return line == 0
}

const handReport = `# what the year was like
sold = @sales
spent=@9.9 - @-

  own.part = (sold - spent) * 1 / 3
#
rest_2 = sold - spent - own.part + -2
`

func handRows() []impl.Row {
	return []impl.Row{
		rowOf("sold", accountTerm("sales")),
		rowOf("spent", accountTerm("9.9"), accountTerm("-"), subTerm),
		rowOf("own.part", rowTerm("sold"), rowTerm("spent"), subTerm, mulTerm(1), divTerm(3)),
		rowOf("rest_2", rowTerm("sold"), rowTerm("spent"), subTerm, rowTerm("own.part"), subTerm, numTerm(2), negTerm, addTerm),
	}
}

func TestReportByHand(t *testing.T) {
	checkParse(t, handReport, handRows()...)
	parseAsWanted(t, handReport)
	checkParse(t, "a=1", rowOf("a", numTerm(1)))
	checkParse(t, "Z = @Z\n", rowOf("Z", accountTerm("Z")))
}

func TestEndOfAReport(t *testing.T) {
	checkParse(t, "")
	checkParse(t, "\n")
	checkParse(t, "a = 1", rowOf("a", numTerm(1)))
	checkParse(t, "a = 1\n", rowOf("a", numTerm(1)))
	checkParse(t, "a = 1\n\n", rowOf("a", numTerm(1)))
	checkParse(t, "a = 1\nb = a", rowOf("a", numTerm(1)), rowOf("b", rowTerm("a")))
	checkParse(t, "a = 1\n ", rowOf("a", numTerm(1)))
	checkParse(t, "a = 1\n#", rowOf("a", numTerm(1)))
	refuseReport(t, "a = 1\nb", 2)
	refuseReport(t, "a = 1\nb\n", 2)
	refuseReport(t, "a = 1\r\n", 1)
	refuseReport(t, "a = 1\n\r\n", 2)
	refuseReport(t, "a = 1\x00\n", 1)
	refuseReport(t, "a =\n1\n", 1)
	refuseReport(t, "a\n= 1\n", 1)
	refuseReport(t, "a = (1\n)\n", 1)
	refuseReport(t, "a = 1 +\n1\n", 1)
	for n := range len(handReport) + 1 {
		parseAsWanted(t, handReport[:n])
		parseAsWanted(t, handReport[n:])
	}
}

func TestLinesThatSayNothing(t *testing.T) {
	a := rowOf("a", numTerm(1))
	for _, line := range []string{"", " ", "      ", strings.Repeat(" ", 3000), "#", "##", "# a = 2", "#a = 2", "#\t\x00\xff é\r", "#)))", "# ", strings.Repeat("#", 3000)} {
		checkParse(t, line)
		checkParse(t, line+"\n")
		checkParse(t, line+"\na = 1\n", a)
		checkParse(t, "a = 1\n"+line, a)
		checkParse(t, "a = 1\n"+line+"\n", a)
		checkParse(t, "a = 1\n"+line+"\nb = a", a, rowOf("b", rowTerm("a")))
		refuseReport(t, "a = 1\n"+line+"\nb", 3)
	}
	for _, line := range []string{" #", "  # a", "\t", " \t", "\r", "\v", "\f", "\x00", "\u00a0", "\u3000", "-", "=", "//", ";", "a = 1 # one", "a = 1#", "a # = 1", "a = # 1"} {
		refuseReport(t, line, 1)
		refuseReport(t, line+"\n", 1)
		refuseReport(t, "b = 1\n\n"+line+"\n", 3)
		refuseReport(t, "#\n"+line+"\nb = 1\n", 2)
	}
}

// Between any two parts, and at both ends, any number of blanks means the same.
func TestBlanksBetweenParts(t *testing.T) {
	parts := []string{"rest", "=", "-", "(", "x", "+", "-", "@a-1", "*", "12", "/", "7", ")", "/", "10000000", "-", "y", "*", "0", "+", "5"}
	want := termsOf(rowTerm("x"), accountTerm("a-1"), negTerm, mulTerm(12), divTerm(7), addTerm, negTerm, divTerm(10000000),
		rowTerm("y"), mulTerm(0), subTerm, numTerm(5), addTerm)
	above := "x=1\ny=2\n"
	rows := []impl.Row{rowOf("x", numTerm(1)), rowOf("y", numTerm(2)), rowOf("rest", want...)}
	for _, between := range []string{"", " ", "  ", "       "} {
		checkParse(t, above+strings.Join(parts, between), rows...)
		checkParse(t, above+between+strings.Join(parts, between)+between+"\n", rows...)
	}
	for at := range len(parts) + 1 {
		text := strings.Join(parts[:at], "") + "   " + strings.Join(parts[at:], "")
		checkParse(t, above+text, rows...)
		for _, other := range []string{"\t", "\r", "\v", "\u00a0", "\x00", "&", ","} {
			refuseReport(t, above+strings.Replace(text, "   ", other, 1)+"\n", 3)
		}
	}
}

func TestBlanksWithinParts(t *testing.T) {
	refuseReport(t, "x y = 1\n", 1)
	refuseReport(t, "x 1 = 1\n", 1)
	refuseReport(t, "x . = 1\n", 1)
	for _, wrong := range []string{"1 2", "1 0", "0 0", "1 .", "x y", "x x", "x 1", "1 x", "@ x", "@  x", "@", "@ ", "@x y", "@x @y", "@x 1", "x @x", "1 @x", "2 * 1 0", "2 / 1 0", "x . y", "@x . y", "@x _"} {
		refuseExpression(t, wrong)
	}
	// A blank ends the account's name, and what stands behind it is an operator then.
	checkExpression(t, "@x-y", accountTerm("x-y"))
	checkExpression(t, "@x -y", accountTerm("x"), rowTerm("y"), subTerm)
	refuseExpression(t, "@x- y")
}

func TestNamesOfRows(t *testing.T) {
	for _, name := range []string{"a", "Z", "abc", "a1", "a_", "a.", "a._.", "x20.y_Z", strings.Repeat("n", impl.MaxName), "q" + strings.Repeat("9", impl.MaxName-1)} {
		checkParse(t, name+" = 1\nb = "+name, rowOf(name, numTerm(1)), rowOf("b", rowTerm(name)))
	}
	for _, name := range []string{"", "1", "1a", "0", "_", "_a", ".", ".a", "-", "-a", "a-b", "a-", "@a", "@", "a,", "a$", "é", "aé", "a\x00", "\xff", "(a)", "a=b", "a b", "a\tb",
		strings.Repeat("n", impl.MaxName+1), strings.Repeat("n", 300)} {
		refuseReport(t, name+" = 1\n", 1)
		refuseReport(t, "q = 1\n"+name+" = 1\nc = 2\n", 2)
	}
	for b := range 256 {
		parseAsWanted(t, string([]byte{byte(b)})+" = 1\n")
		parseAsWanted(t, "n"+string([]byte{byte(b)})+" = 1\n")
		parseAsWanted(t, "n"+string([]byte{byte(b)})+"n = 1\n")
		parseAsWanted(t, "n=1\nm = "+string([]byte{byte(b)})+"n\n")
		parseAsWanted(t, "n=1\nm = n"+string([]byte{byte(b)})+"n\n")
		parseAsWanted(t, "m = @"+string([]byte{byte(b)})+"\n")
		parseAsWanted(t, "m = @n"+string([]byte{byte(b)})+"n\n")
	}
}

// A row's name has no `-`, so one ends there; it begins with a letter, so no number goes on as one.
func TestWhereNamesEnd(t *testing.T) {
	checkExpression(t, "x-y", rowTerm("x"), rowTerm("y"), subTerm)
	checkExpression(t, "x-1", rowTerm("x"), numTerm(1), subTerm)
	checkExpression(t, "x--y", rowTerm("x"), rowTerm("y"), negTerm, subTerm)
	checkExpression(t, "1-x", numTerm(1), rowTerm("x"), subTerm)
	checkExpression(t, "@1-x", accountTerm("1-x"))
	checkExpression(t, "@-", accountTerm("-"))
	checkExpression(t, "@--1+@.", accountTerm("--1"), accountTerm("."), addTerm)
	refuseExpression(t, "@_-@x")
}

func TestNamesOfAccounts(t *testing.T) {
	for _, name := range []string{"a", "1", "0", "01", "-", "_", ".", "-5", "a-b", "9.9", strings.Repeat("n", impl.MaxName), strings.Repeat("-", impl.MaxName)} {
		checkParse(t, "a = @"+name, rowOf("a", accountTerm(name)))
		checkParse(t, "a = @"+name+" - @"+name+"\n", rowOf("a", accountTerm(name), accountTerm(name), subTerm))
	}
	for _, name := range []string{"", " a", "@a", "(a)", ",", "é", "\x00", strings.Repeat("n", impl.MaxName+1), strings.Repeat("1", 300), strings.Repeat("n", impl.MaxName) + "-"} {
		refuseExpression(t, "@"+name)
		refuseExpression(t, "1 + @"+name)
	}
}

func TestNamesThatStoodAbove(t *testing.T) {
	refuseReport(t, "a = 1\na = 2\n", 2)
	refuseReport(t, "a = 1\na = 1\n", 2)
	refuseReport(t, "a = 1\nb = 2\n\na = 3\n", 4)
	refuseReport(t, "a = 1\na = a\n", 2)
	checkParse(t, "a = 1\nA = 2\na. = 3", rowOf("a", numTerm(1)), rowOf("A", numTerm(2)), rowOf("a.", numTerm(3)))
	checkParse(t, "#a = 1\na = 2", rowOf("a", numTerm(2)))
	checkParse(t, "a = @a", rowOf("a", accountTerm("a")))
}

func TestNamesThatMeanNoRow(t *testing.T) {
	refuseReport(t, "a = a\n", 1)
	refuseReport(t, "a = 1 + a\n", 1)
	refuseReport(t, "a = b\nb = 1\n", 1)
	refuseReport(t, "a = 1\nb = 2 - c\nc = 3\n", 2)
	refuseReport(t, "a = 1\nb = A\n", 2)
	refuseReport(t, "ab = 1\nb = a\n", 2)
	refuseReport(t, "a = 1\nb = ab\n", 2)
	refuseReport(t, "#a = 1\nb = a\n", 2)
	refuseReport(t, "a = 1\nb = "+strings.Repeat("a", impl.MaxName+1)+"\n", 2)
	checkParse(t, "a = 1\nb = a\nc = b + a", rowOf("a", numTerm(1)), rowOf("b", rowTerm("a")), rowOf("c", rowTerm("b"), rowTerm("a"), addTerm))
}

func TestNumbersInReports(t *testing.T) {
	for _, n := range []int{0, 1, 9, 10, 100, 1234567, impl.MaxFactor - 1, impl.MaxFactor} {
		digits := strconv.Itoa(n)
		checkExpression(t, digits, numTerm(n))
		checkExpression(t, "-"+digits, numTerm(n), negTerm)
		checkExpression(t, "x * "+digits, rowTerm("x"), mulTerm(n))
		if n > 0 {
			checkExpression(t, "x / "+digits, rowTerm("x"), divTerm(n))
		}
	}
	refuseExpression(t, "1 / 0")
	refuseExpression(t, "1 / 0 * 2")
	refuseExpression(t, "0 / 0")
	long := strings.Repeat("9", 30)
	for _, wrong := range []string{"00", "01", "007", "00000000000000000000", "10000001", "10000010", "99999999", "100000000001", "9223372036854775808", "18446744073709551616", "18446744073709551617",
		long, "1" + strings.Repeat("0", 1000), "1.", "1.0", ".5", "1e3", "0x1", "1_0", "1,0", "+1", "١"} {
		refuseExpression(t, wrong)
		refuseExpression(t, "x + "+wrong)
		refuseExpression(t, "x * "+wrong)
		refuseExpression(t, "x / "+wrong)
	}
}

func TestWhatIsMultipliedBy(t *testing.T) {
	for _, op := range []string{"*", "/"} {
		for _, wrong := range []string{"x", "@x", "-2", "(2)", "", "*2", "+2", "- 2", ")"} {
			refuseExpression(t, "2 "+op+" "+wrong)
			refuseExpression(t, "x"+op+wrong)
		}
		refuseExpression(t, op+" 2")
		refuseExpression(t, "("+op+" 2)")
		refuseExpression(t, "x + "+op+" 2")
	}
	refuseExpression(t, "2 x")
	refuseExpression(t, "2 (x)")
	refuseExpression(t, "(x) 2")
	refuseExpression(t, "(x)(y)")
	refuseExpression(t, "x % 2")
	refuseExpression(t, "x ^ 2")
}

func TestHowOperatorsBind(t *testing.T) {
	x, y, one, two := rowTerm("x"), rowTerm("y"), numTerm(1), numTerm(2)
	checkExpression(t, "x + y - 1", x, y, addTerm, one, subTerm)
	checkExpression(t, "x - y + 1", x, y, subTerm, one, addTerm)
	checkExpression(t, "x - (y + 1)", x, y, one, addTerm, subTerm)
	checkExpression(t, "x - y - 1 - 2", x, y, subTerm, one, subTerm, two, subTerm)
	checkExpression(t, "x - (y - (1 - 2))", x, y, one, two, subTerm, subTerm, subTerm)
	checkExpression(t, "x + y * 3", x, y, mulTerm(3), addTerm)
	checkExpression(t, "x * 3 + y", x, mulTerm(3), y, addTerm)
	checkExpression(t, "x - y / 3", x, y, divTerm(3), subTerm)
	checkExpression(t, "(x - y) / 3", x, y, subTerm, divTerm(3))
	checkExpression(t, "x * 2 / 3 * 4", x, mulTerm(2), divTerm(3), mulTerm(4))
	checkExpression(t, "x / 2 / 3", x, divTerm(2), divTerm(3))
	checkExpression(t, "(x / 2) / 3", x, divTerm(2), divTerm(3))
	checkExpression(t, "x * 2 - y / 3 * 5 + 1", x, mulTerm(2), y, divTerm(3), mulTerm(5), subTerm, one, addTerm)
	checkExpression(t, "1 + (2)", one, two, addTerm)
	checkExpression(t, "(1 + (x)) * 2", one, x, addTerm, mulTerm(2))
	checkExpression(t, "((x))", x)
	checkExpression(t, "(x + y) - (1 + 2)", x, y, addTerm, one, two, addTerm, subTerm)
	checkExpression(t, "((x + y) * 3 + 1) / 4", x, y, addTerm, mulTerm(3), one, addTerm, divTerm(4))
}

func TestMinusSigns(t *testing.T) {
	x, one := rowTerm("x"), numTerm(1)
	checkExpression(t, "-1", one, negTerm)
	checkExpression(t, "- 1", one, negTerm)
	checkExpression(t, "-0", numTerm(0), negTerm)
	checkExpression(t, "--1", one, negTerm, negTerm)
	checkExpression(t, "- - -x", x, negTerm, negTerm, negTerm)
	checkExpression(t, "-x * 2", x, negTerm, mulTerm(2))
	checkExpression(t, "-(x * 2)", x, mulTerm(2), negTerm)
	checkExpression(t, "-x / 2 / 3", x, negTerm, divTerm(2), divTerm(3))
	checkExpression(t, "-x + 1", x, negTerm, one, addTerm)
	checkExpression(t, "-(x + 1)", x, one, addTerm, negTerm)
	checkExpression(t, "1 - -x", one, x, negTerm, subTerm)
	checkExpression(t, "1--x", one, x, negTerm, subTerm)
	checkExpression(t, "1---x", one, x, negTerm, negTerm, subTerm)
	checkExpression(t, "1 + -x * 2", one, x, negTerm, mulTerm(2), addTerm)
	checkExpression(t, "-@-", accountTerm("-"), negTerm)
	checkExpression(t, "-(-(-1))", one, negTerm, negTerm, negTerm)
	for _, wrong := range []string{"-", "--", "1 -", "1 --", "-+1", "+1", "++1", "1 ++ 1", "1 + + 1", "1 - + 1", "-*2", "-)", "(-)", "- - ", "x -", "1 * -", "-/2"} {
		refuseExpression(t, wrong)
	}
}

func TestBracketsInReports(t *testing.T) {
	for _, wrong := range []string{"(", ")", "()", "( )", ")(", "(1", "1)", "((1)", "(1))", "(1)(2)", "(1 + )", "(1 +) 2", "1 + (", "1 + ()", "-(", "-()", "(1 + 2", "1 + 2)", "(1, 2)", "[1]", "{1}", "(a = 1)", "((1) + 2", "(1 + 2))", "x(1)", "@(x)"} {
		refuseExpression(t, wrong)
	}
	refuseReport(t, "(a) = 1\n", 1)
	refuseReport(t, "(a = 1)\n", 1)
	refuseReport(t, "a = 1 = 1\n", 1)
	refuseReport(t, "a == 1\n", 1)
	refuseReport(t, "a = = 1\n", 1)
	refuseReport(t, "a =\n", 1)
	refuseReport(t, "a\n", 1)
	refuseReport(t, "= 1\n", 1)
	refuseReport(t, "a 1\n", 1)
	refuseReport(t, "a : 1\n", 1)
	refuseReport(t, "1 = a\n", 1)
}

// Expressions of that many terms, of all that a term may be.
func longExpressions(count int) []string {
	sum := strings.Repeat("1+", (count-1)/2) + "1"
	if count%2 == 0 {
		sum = "-" + sum
	}
	bracketed := strings.ReplaceAll(sum, "1+", "(1)+")
	return []string{
		sum,
		bracketed,
		strings.ReplaceAll(sum, "1+", "@a -"),
		"1" + strings.Repeat("*1", count-1),
		"x" + strings.Repeat("/ 2", count-1),
		"(-x" + strings.Repeat("/ 2", count-3) + ") * 4",
		"--1" + strings.Repeat("*1", count-5) + "+y",
	}
}

func TestHowManyTerms(t *testing.T) {
	for _, count := range []int{7, 8, impl.MaxTerms - 1, impl.MaxTerms} {
		for _, long := range longExpressions(count) {
			rows, line := impl.ParseReport("x=1\ny=1\na = " + long + "\nb = " + long)
			if line != 0 || len(rows) != 4 || len(rows[2].Terms) != count || len(rows[3].Terms) != count {
				t.Errorf("ParseReport of %q = %v, %d", long, rows, line)
			}
			parseAsWanted(t, "x=1\ny=1\na = "+long)
		}
	}
	for _, count := range []int{impl.MaxTerms + 1, impl.MaxTerms + 2, 300, 1000} {
		for _, long := range longExpressions(count) {
			if len(long) < 3900 {
				refuseExpression(t, long)
			}
		}
	}
	refuseExpression(t, "1"+strings.Repeat("+1", 1900))
	refuseExpression(t, "1"+strings.Repeat("*1", 1900))
}

// An expression with these open within one another, from the outermost on: brackets and minus signs.
func nested(signs string, inner string) string {
	behind := ""
	for _, sign := range signs {
		if sign == '(' {
			behind += ")"
		}
	}
	return signs + inner + behind
}

func TestHowDeepMayBe(t *testing.T) {
	signs := []string{strings.Repeat("(", 20), strings.Repeat("-", 20), strings.Repeat("-(", 10), strings.Repeat("(-", 10), strings.Repeat("((--", 5), strings.Repeat("--(", 7), strings.Repeat("(", 12) + "-", strings.Repeat("-", 12) + "("}
	for _, s := range signs {
		for count := range len(s) + 1 {
			for _, inner := range []string{"1", "x", "@a", "1 + 1", "1 - 1 - 1 - 1", "x * 2"} {
				if !strings.HasSuffix(s[:count], "(") && len(inner) > 2 {
					continue
				}
				text := nested(s[:count], inner)
				if count > impl.MaxNest {
					refuseExpression(t, text)
					refuseExpression(t, "1 + "+text)
					refuseExpression(t, text+" - 1")
				} else if !parseAsWanted(t, "x=1\na="+text+"\nb = 1 - "+text+" * 2 - "+text+"\nc = "+text) {
					t.Errorf("%q is refused", text)
				}
			}
		}
	}
	deep := nested(strings.Repeat("(", impl.MaxNest), "1")
	checkExpression(t, deep+"+"+deep, numTerm(1), numTerm(1), addTerm)
	refuseExpression(t, "("+deep+")")
	refuseExpression(t, "-"+deep)
	refuseExpression(t, "(1 + "+deep+")")
	refuseExpression(t, strings.Repeat("(", 3000))
	refuseExpression(t, strings.Repeat("-", 3000)+"1")
	refuseExpression(t, nested(strings.Repeat("(", 1500), "1"))
	// What is closed is not open any more, of a minus sign with its factor.
	checkExpression(t, nested(strings.Repeat("(", impl.MaxNest-1), "-1*2")+"-1", numTerm(1), negTerm, mulTerm(2), numTerm(1), subTerm)
	checkExpression(t, nested(strings.Repeat("(", impl.MaxNest-1), "-1+(2)+-3"), numTerm(1), negTerm, numTerm(2), addTerm, numTerm(3), negTerm, addTerm)
}

func manyRows(count int) string {
	text := ""
	for i := range count {
		text += "r" + strconv.Itoa(i) + " = " + strconv.Itoa(i) + "\n"
	}
	return text
}

func TestHowManyRows(t *testing.T) {
	full := manyRows(impl.MaxRows)
	rows, line := impl.ParseReport(full)
	if len(rows) != impl.MaxRows || line != 0 {
		t.Errorf("ParseReport of MaxRows rows = %d rows, %d", len(rows), line)
	}
	for _, behind := range []string{"", "\n", "#", "\n\n#\n   \n"} {
		if rows, line := impl.ParseReport(full + behind); len(rows) != impl.MaxRows || line != 0 {
			t.Errorf("ParseReport of MaxRows rows and %q = %d rows, %d", behind, len(rows), line)
		}
	}
	refuseReport(t, full+"b = 1", impl.MaxRows+1)
	refuseReport(t, full+"b = 1\n", impl.MaxRows+1)
	refuseReport(t, full+"\n#\nb = 1\n", impl.MaxRows+3)
	refuseReport(t, full+"b = 1\nc = 1\n", impl.MaxRows+1)
	refuseReport(t, "#\n"+manyRows(impl.MaxRows+1), impl.MaxRows+2)
	refuseReport(t, "\n"+manyRows(impl.MaxRows+20)+"wrong", impl.MaxRows+2)
	refuseReport(t, full+"wrong", impl.MaxRows+1)
	refuseReport(t, "wrong\n"+full+"b = 1\n", 1)
	for count := range impl.MaxRows + 3 {
		parseAsWanted(t, manyRows(count))
	}
}

func TestHowLongMayBe(t *testing.T) {
	for _, text := range []string{"a = 1\n#", "a = 1\n", "a = 1", "", "#", "a = 1\n\n  "} {
		for _, fill := range []string{" ", "\n"} {
			want := wantRows(text)
			exact := text + strings.Repeat(fill, impl.MaxReport-len(text))
			checkParse(t, exact, want...)
			refuseReport(t, exact+" ", 1)
			refuseReport(t, exact+"\n", 1)
			refuseReport(t, exact+strings.Repeat(fill, 100000), 1)
		}
	}
	// The length is told ahead of any line, whichever one may not be.
	refuseReport(t, "a = 1\nwrong\n"+strings.Repeat(" ", impl.MaxReport), 1)
	refuseReport(t, "a = 1\nwrong\n"+strings.Repeat(" ", impl.MaxReport-12), 2)
	refuseReport(t, "a = 1\n"+strings.Repeat("#", impl.MaxReport-6)+"\nwrong", 1)
	refuseReport(t, strings.Repeat("-", impl.MaxReport+1), 1)
	refuseReport(t, "\n"+strings.Repeat("(", impl.MaxReport-1), 2)
}

func wantRows(text string) []impl.Row {
	rows, _ := wantParse(text)
	return rows
}

func TestOfTwoWrongRowsTheFirst(t *testing.T) {
	wrong := []string{"wrong", "q = ", "q = q", "sold = 1", "q = 1 / 0", "q = 01", "q = (1", " #", "q = @", "q-q = 1", "q = 10000001", nested(strings.Repeat("(", 13), "1")}
	lines := strings.Split(strings.TrimSuffix(handReport, "\n"), "\n")
	for i := 2; i <= len(lines); i++ {
		for k := i; k <= len(lines); k++ {
			first, second := wrong[(i+k)%len(wrong)], wrong[(i*k)%len(wrong)]
			text := slices.Concat(lines[:i], []string{first}, lines[i:k], []string{second}, lines[k:])
			refuseReport(t, strings.Join(text, "\n"), i+1)
		}
	}
	// A row that is refused above is not what a later one means, but the first line is told.
	refuseReport(t, "a = (\nb = a\n", 1)
	refuseReport(t, "b = a\na = (\n", 1)
	refuseReport(t, "a = 1\na = 2\na = 3\n", 2)
}

func TestReportsSpoiltInOneByte(t *testing.T) {
	spoil := " \nsS1@-+*/()=#_.,\t\r\x00\xff"
	for at := range len(handReport) {
		for i := range len(spoil) {
			parseAsWanted(t, handReport[:at]+spoil[i:i+1]+handReport[at+1:])
			parseAsWanted(t, handReport[:at]+spoil[i:i+1]+handReport[at:])
		}
		parseAsWanted(t, handReport[:at]+handReport[at+1:])
	}
	for b := range 256 {
		for at := range len("a = @b + 1 * 2") + 1 {
			line := "a = @b + 1 * 2"
			parseAsWanted(t, line[:at]+string([]byte{byte(b)})+line[at:])
		}
	}
}

func TestReportsOfFewBytes(t *testing.T) {
	for _, signs := range []string{"a1-@ +", "a1*/=(", "1)(-\n0", "a =1\n"} {
		for _, text := range textsOf(signs, 5) {
			parseAsWanted(t, "a=1\nb="+text)
			parseAsWanted(t, text)
		}
	}
}

// An expression as the language has it, with blanks and needless brackets here and there.
func someExpression(chance *rand.Rand, size int) string {
	pad := strings.Repeat(" ", max(0, chance.Intn(5)-3))
	if size < 2 {
		return pad + []string{"1", "0", "x", "@x", "@a-b ", "10000000"}[chance.Intn(6)] + pad
	}
	switch chance.Intn(7) {
	case 0:
		return "-" + pad + "(" + someExpression(chance, size-2) + ")"
	case 1:
		return "-" + pad + someExpression(chance, size-1)
	case 2:
		return "(" + someExpression(chance, size-1) + pad + ")" + pad
	case 3:
		return "(" + someExpression(chance, size-1) + ")" + []string{"*", "/", " * "}[chance.Intn(3)] + pad + "12"
	case 4:
		return someExpression(chance, size-1) + []string{"*", "/", " / "}[chance.Intn(3)] + pad + "7"
	}
	left := chance.Intn(size)
	return someExpression(chance, left) + []string{"+", "-", " - "}[chance.Intn(3)] + someExpression(chance, size-left-1)
}

func TestSomeReports(t *testing.T) {
	chance := rand.New(rand.NewSource(91))
	spoil := " \nx1@-+*/()=#_.,0"
	right := 0
	for range 20000 {
		text := "x = 1\n a=" + someExpression(chance, chance.Intn(25)) + "\nb=" + someExpression(chance, chance.Intn(10))
		for chance.Intn(2) == 0 {
			at, i := chance.Intn(len(text)), chance.Intn(len(spoil))
			text = text[:at] + spoil[i:i+1] + text[at+chance.Intn(2):]
		}
		if parseAsWanted(t, text) {
			right++
		}
	}
	if right < 6000 || right > 18000 {
		t.Errorf("%d of the texts were right", right)
	}
}

// Each list of terms is written over, and behind its end, ahead of looking at the next one.
func TestRowsParsedAreNewEachTime(t *testing.T) {
	first, _ := impl.ParseReport(handReport)
	second, _ := impl.ParseReport(handReport)
	for i, want := range handRows() {
		if !sameRow(first[i], want) {
			t.Errorf("row %d shares its memory with one above: %v", i, first[i])
		}
		_ = append(first[i].Terms, impl.Term{Kind: 99}, impl.Term{Kind: 98})
		clear(first[i].Terms)
	}
	clear(first)
	if !sameRows(second, handRows()) {
		t.Error("two answers share their memory")
	}
	checkParse(t, handReport, handRows()...)
}
