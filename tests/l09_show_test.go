package tests

import (
	"strings"
	"testing"

	"loop.example/g00040/impl"
)

func checkShow(t *testing.T, want string, terms ...impl.Term) {
	t.Helper()
	rows := []impl.Row{rowOf("x", numTerm(1)), rowOf("y", numTerm(2)), rowOf("a", terms...)}
	if got := impl.ShowReport(rows); got != "x = 1\ny = 2\na = "+want+"\n" {
		t.Errorf("ShowReport(%v) = %q; want the expression %q", rows, got, want)
	}
	takeRows(t, rows...)
}

func TestShowByHand(t *testing.T) {
	want := "sold = @sales\nspent = @9.9 - @-\nown.part = (sold - spent) * 1 / 3\nrest_2 = sold - spent - own.part + -2\n"
	if got := impl.ShowReport(handRows()); got != want {
		t.Errorf("ShowReport = %q; want %q", got, want)
	}
	if got := impl.ShowReport(nil); got != "" {
		t.Errorf("ShowReport of no rows = %q", got)
	}
	checkShow(t, "0", numTerm(0))
	checkShow(t, "10000000", numTerm(impl.MaxFactor))
	checkShow(t, "y", rowTerm("y"))
	checkShow(t, "@a-b", accountTerm("a-b"))
}

// x and y stand for what an operator has on its sides.
func TestShowEachOperatorWithinEach(t *testing.T) {
	x, y, one := rowTerm("x"), rowTerm("y"), numTerm(1)
	add, sub, mul, div, neg := addTerm, subTerm, mulTerm(3), divTerm(4), negTerm
	// On the left.
	checkShow(t, "x + y + 1", x, y, add, one, add)
	checkShow(t, "x - y + 1", x, y, sub, one, add)
	checkShow(t, "x + y - 1", x, y, add, one, sub)
	checkShow(t, "x - y - 1", x, y, sub, one, sub)
	checkShow(t, "x * 3 + 1", x, mul, one, add)
	checkShow(t, "x / 4 + 1", x, div, one, add)
	checkShow(t, "x * 3 - 1", x, mul, one, sub)
	checkShow(t, "x / 4 - 1", x, div, one, sub)
	checkShow(t, "-x + 1", x, neg, one, add)
	checkShow(t, "-x - 1", x, neg, one, sub)
	checkShow(t, "(x + y) * 3", x, y, add, mul)
	checkShow(t, "(x - y) * 3", x, y, sub, mul)
	checkShow(t, "(x + y) / 4", x, y, add, div)
	checkShow(t, "(x - y) / 4", x, y, sub, div)
	checkShow(t, "x * 3 * 3", x, mul, mul)
	checkShow(t, "x / 4 * 3", x, div, mul)
	checkShow(t, "x * 3 / 4", x, mul, div)
	checkShow(t, "x / 4 / 4", x, div, div)
	checkShow(t, "-x * 3", x, neg, mul)
	checkShow(t, "-x / 4", x, neg, div)
	// On the right.
	checkShow(t, "1 + (x + y)", one, x, y, add, add)
	checkShow(t, "1 + (x - y)", one, x, y, sub, add)
	checkShow(t, "1 - (x + y)", one, x, y, add, sub)
	checkShow(t, "1 - (x - y)", one, x, y, sub, sub)
	checkShow(t, "1 + x * 3", one, x, mul, add)
	checkShow(t, "1 + x / 4", one, x, div, add)
	checkShow(t, "1 - x * 3", one, x, mul, sub)
	checkShow(t, "1 - x / 4", one, x, div, sub)
	checkShow(t, "1 + -x", one, x, neg, add)
	checkShow(t, "1 - -x", one, x, neg, sub)
	// Behind a minus sign.
	checkShow(t, "-(x + y)", x, y, add, neg)
	checkShow(t, "-(x - y)", x, y, sub, neg)
	checkShow(t, "-(x * 3)", x, mul, neg)
	checkShow(t, "-(x / 4)", x, div, neg)
	checkShow(t, "--x", x, neg, neg)
	checkShow(t, "---x", x, neg, neg, neg)
}

func TestShowMinusAheadOfEachFactor(t *testing.T) {
	checkShow(t, "-7", numTerm(7), negTerm)
	checkShow(t, "-0", numTerm(0), negTerm)
	checkShow(t, "-y", rowTerm("y"), negTerm)
	checkShow(t, "-@-", accountTerm("-"), negTerm)
	checkShow(t, "-@1 - -@1", accountTerm("1"), negTerm, accountTerm("1"), negTerm, subTerm)
	checkShow(t, "-(-x + y)", rowTerm("x"), negTerm, rowTerm("y"), addTerm, negTerm)
	checkShow(t, "-(-x * 2)", rowTerm("x"), negTerm, mulTerm(2), negTerm)
	checkShow(t, "-(-(-x / 2) * 2)", rowTerm("x"), negTerm, divTerm(2), negTerm, mulTerm(2), negTerm)
}

func TestShowDeeperOnes(t *testing.T) {
	x, y, one := rowTerm("x"), rowTerm("y"), numTerm(1)
	checkShow(t, "1 - (x - (y - 1))", one, x, y, one, subTerm, subTerm, subTerm)
	checkShow(t, "1 - (x + y - 1)", one, x, y, addTerm, one, subTerm, subTerm)
	checkShow(t, "x + y - (1 + x)", x, y, addTerm, one, x, addTerm, subTerm)
	checkShow(t, "(x + y) * 2 - (1 + x) / 3", x, y, addTerm, mulTerm(2), one, x, addTerm, divTerm(3), subTerm)
	checkShow(t, "((x + y) * 2 + 1) / 3", x, y, addTerm, mulTerm(2), one, addTerm, divTerm(3))
	checkShow(t, "1 + -(x + y) * 2", one, x, y, addTerm, negTerm, mulTerm(2), addTerm)
	checkShow(t, "(1 - (x + y)) / 2", one, x, y, addTerm, subTerm, divTerm(2))
	checkShow(t, "x * 0", x, mulTerm(0))
	checkShow(t, "x * 10000000 / 10000000", x, mulTerm(impl.MaxFactor), divTerm(impl.MaxFactor))
}

// A bracket that stands is one that must: left out, it is read as other terms, or not at all.
func TestNoNeedlessBrackets(t *testing.T) {
	kinds := termsOf(negTerm, addTerm, subTerm, mulTerm(2), divTerm(3))
	for _, first := range kinds {
		for _, second := range kinds {
			for _, third := range kinds {
				for _, turned := range []bool{false, true} {
					terms := nestedTerms(turned, first, second, third)
					text := impl.ShowReport([]impl.Row{rowOf("a", terms...)})
					checkBracketsNeeded(t, text, terms)
				}
			}
		}
	}
}

// Each operator is put around the one ahead of it, which stands on its left or, turned, on its right.
func nestedTerms(turned bool, operators ...impl.Term) []impl.Term {
	terms := oneTerm()
	for i, op := range operators {
		if op == addTerm || op == subTerm {
			other := numTerm(i + 2)
			if turned {
				terms = append(termsOf(other), terms...)
			} else {
				terms = append(terms, other)
			}
		}
		terms = append(terms, op)
	}
	return terms
}

func checkBracketsNeeded(t *testing.T, text string, terms []impl.Term) {
	t.Helper()
	for open := range len(text) {
		for end := open + 1; end < len(text); end++ {
			if text[open] != '(' || text[end] != ')' {
				continue
			}
			without := text[:open] + text[open+1:end] + text[end+1:]
			rows, line := impl.ParseReport(without)
			if line == 0 && sameRow(rows[0], rowOf("a", terms...)) {
				t.Errorf("%q means the same as %q", without, text)
			}
		}
	}
	if strings.Contains(text, "  ") || strings.HasSuffix(text, " \n") {
		t.Errorf("%q has needless blanks", text)
	}
}

func TestShowOfWrongRows(t *testing.T) {
	refuseRows(t, rowOf("a", numTerm(-1)))
	refuseRows(t, rowOf("x", numTerm(1)), rowOf("a", numTerm(1), numTerm(2)))
	refuseRows(t, append(handRows(), rowOf("sold", numTerm(1)))...)
	refuseRows(t, append(handRows(), rowOf("more", rowTerm("more")))...)
	refuseRows(t, append([]impl.Row{rowOf("-", numTerm(1))}, handRows()...)...)
}

// Right rows whose text is too long to be read again are shown all the same.
func TestShowOfLongRows(t *testing.T) {
	rows := severalRows(impl.MaxRows)
	for i := range rows {
		long := accountTerm(strings.Repeat("n", impl.MaxName))
		for len(rows[i].Terms) < impl.MaxTerms-1 {
			rows[i].Terms = append(rows[i].Terms, long, addTerm)
		}
	}
	takeRows(t, rows...)
	if text := impl.ShowReport(rows); len(text) < 60*99*20 {
		t.Errorf("ShowReport has %d bytes", len(text))
	}
	// With just MaxReport bytes it is read, with one more it is not.
	for more := -1; more <= 1; more++ {
		rows := severalRows(20)
		for i := range rows {
			rows[i].Terms = longSum(180)
		}
		size := len(impl.ShowReport(rows))
		rows[0].Terms = longSum(180 + impl.MaxReport + more - size)
		if text := impl.ShowReport(rows); len(text) != impl.MaxReport+more {
			t.Fatalf("ShowReport has %d bytes", len(text))
		}
		takeRows(t, rows...)
	}
}

// A sum whose text has just so many bytes.
func longSum(bytes int) []impl.Term {
	if bytes <= 1+impl.MaxName {
		return termsOf(accountTerm(strings.Repeat("n", bytes-1)))
	}
	return append(longSum(bytes-5), accountTerm("n"), addTerm)
}
