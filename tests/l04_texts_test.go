package tests

import (
	"math/rand"
	"regexp"
	"slices"
	"strconv"
	"strings"
	"testing"

	"loop.example/g00040/impl"
)

var accountForm = regexp.MustCompile(`\A((?:  )*)([A-Za-z0-9._-]{1,20}) ([ALEIX])\n\z`)

// wantReadChart cuts the lines with a form and keeps, of each depth, the last account that stood there.
func wantReadChart(text string) ([]impl.Account, int) {
	if text == "" {
		return nil, 1
	}
	chart := []impl.Account{}
	lastAt := []int{}
	for i, line := range strings.SplitAfter(text, "\n") {
		if line == "" {
			break
		}
		fields := accountForm.FindStringSubmatch(line)
		if fields == nil || len(fields[1]) > 2*min(len(lastAt), impl.MaxDepth) || i >= impl.MaxAccounts {
			return nil, i + 1
		}
		depth := len(fields[1]) / 2
		a := impl.Account{Code: fields[2], Parent: -1, Kind: 1 + strings.Index("ALEIX", fields[3])}
		if depth > 0 {
			a.Parent = lastAt[depth-1]
		}
		if depth > 0 && chart[a.Parent].Kind != a.Kind || slices.ContainsFunc(chart, func(b impl.Account) bool { return b.Code == a.Code }) {
			return nil, i + 1
		}
		lastAt = append(lastAt[:depth], i)
		chart = append(chart, a)
	}
	return chart, 0
}

func checkReadChart(t *testing.T, text string, want []impl.Account) {
	t.Helper()
	got, line := impl.ReadChart(text)
	if !slices.Equal(got, want) || line != 0 {
		t.Errorf("ReadChart(%q) = %v, %d; want %v, 0", text, got, line, want)
	}
}

func refuseChartText(t *testing.T, text string, want int) {
	t.Helper()
	got, line := impl.ReadChart(text)
	if len(got) != 0 || line != want {
		t.Errorf("ReadChart(%q) = %v, %d; want nothing, %d", text, got, line, want)
	}
}

func readAsWanted(t *testing.T, text string) {
	t.Helper()
	want, wantLine := wantReadChart(text)
	got, line := impl.ReadChart(text)
	if !slices.Equal(got, want) || line != wantLine {
		t.Errorf("ReadChart(%q) = %v, %d; want %v, %d", text, got, line, want, wantLine)
	}
	if line == 0 && impl.ShowChart(got) != text {
		t.Errorf("ShowChart of ReadChart(%q) = %q", text, impl.ShowChart(got))
	}
}

// checkThere asks P10.
func checkThere(t *testing.T, chart []impl.Account) {
	t.Helper()
	checkReadChart(t, impl.ShowChart(chart), chart)
	readAsWanted(t, impl.ShowChart(chart))
}

func TestChartTextByHand(t *testing.T) {
	if got := impl.ShowChart(handChart()); got != handText {
		t.Errorf("ShowChart = %q; want %q", got, handText)
	}
	checkReadChart(t, handText, handChart())
	checkReadChart(t, "a A\n", []impl.Account{{Code: "a", Parent: -1, Kind: impl.Asset}})
	checkReadChart(t, "X X\n", []impl.Account{{Code: "X", Parent: -1, Kind: impl.Expense}})
	checkReadChart(t, "- L\n  . L\n", []impl.Account{{Code: "-", Parent: -1, Kind: impl.Liability}, {Code: ".", Parent: 0, Kind: impl.Liability}})
}

func TestReadChartOfShowChart(t *testing.T) {
	for count := 1; count <= impl.MaxAccounts; count++ {
		checkThere(t, wideChart(count))
	}
	for count := 1; count <= impl.MaxDepth+1; count++ {
		checkThere(t, deepChart(count))
	}
	chance := rand.New(rand.NewSource(6))
	for range 150 {
		checkThere(t, someChart(chance, 1+chance.Intn(impl.MaxAccounts)))
	}
}

func TestLetterOfEachKind(t *testing.T) {
	for kind, letter := range map[int]string{impl.Asset: "A", impl.Liability: "L", impl.Equity: "E", impl.Income: "I", impl.Expense: "X"} {
		chart := []impl.Account{{Code: "c", Parent: -1, Kind: kind}}
		if got := impl.ShowChart(chart); got != "c "+letter+"\n" {
			t.Errorf("ShowChart of kind %d = %q", kind, got)
		}
		checkReadChart(t, "c "+letter+"\n", chart)
	}
	for b := range 256 {
		readAsWanted(t, "c "+string([]byte{byte(b)})+"\n")
	}
}

func TestLinesThatAreNone(t *testing.T) {
	wrong := []string{
		"", " ", "  ", "a", "a ", "A", " A", "  A", "aA", "a  A", "a\tA", "\ta A", "\t\ta A", " \ta A", "\t a A",
		"a Q", "a a", "a l", "a x", "a B", "a AA", "a AL", "a ALEIX", "a A ", "a A  ", "a A A", "a AX", "a A\r", "a A\t", "a A#", "a 1", "a \xff", "a \xc3\x89",
		" a A", "   a A", "a b A", "a, A", "a\x00 A", "\x00a A", "\xff A", "é A",
		strings.Repeat("n", impl.MaxName+1) + " A",
	}
	for _, line := range wrong {
		refuseChartText(t, line+"\n", 1)
		refuseChartText(t, line+"\nb A\n", 1)
		refuseChartText(t, "z A\n"+line+"\n", 2)
		refuseChartText(t, "z A\n  y A\n  "+line+"\nx A\n", 3)
		refuseChartText(t, handText+line+"\n", 14)
	}
	readAsWanted(t, strings.Repeat("n", impl.MaxName)+" A\n")
	checkReadChart(t, "A A\n", []impl.Account{{Code: "A", Parent: -1, Kind: impl.Asset}})
}

func TestEndOfTheText(t *testing.T) {
	refuseChartText(t, "", 1)
	refuseChartText(t, "\n", 1)
	refuseChartText(t, "\n\n", 1)
	refuseChartText(t, "a A", 1)
	refuseChartText(t, "a A\r\n", 1)
	refuseChartText(t, "a A\nb A", 2)
	refuseChartText(t, "a A\n\n", 2)
	refuseChartText(t, "a A\n ", 2)
	refuseChartText(t, "a A\n\nb A\n", 2)
	refuseChartText(t, "\na A\n", 1)
	refuseChartText(t, strings.TrimSuffix(handText, "\n"), 13)
	refuseChartText(t, handText+"\n", 14)
	// Every beginning that ends with a line end is a chart's text, and no other one is.
	for n := range len(handText) + 1 {
		lines := strings.Count(handText[:n], "\n")
		if n > 0 && handText[n-1] == '\n' {
			checkReadChart(t, handText[:n], handChart()[:lines])
		} else {
			refuseChartText(t, handText[:n], lines+1)
		}
	}
}

func TestDepthOfALine(t *testing.T) {
	for depth := 1; depth <= impl.MaxDepth+2; depth++ {
		refuseChartText(t, strings.Repeat("  ", depth)+"a A\n", 1)
		refuseChartText(t, strings.Repeat("  ", depth)+"a A\nb A\n", 1)
	}
	refuseChartText(t, "a A\n    b A\n", 2)
	refuseChartText(t, "a A\n  b A\n      c A\n", 3)
	refuseChartText(t, "a A\n  b A\n    c A\nd A\n    e A\n", 5)
	refuseChartText(t, "a A\n"+strings.Repeat("  ", 100000)+"b A\n", 2)
	for ahead := range impl.MaxDepth + 1 {
		text := impl.ShowChart(deepChart(ahead + 1))
		for depth := range impl.MaxDepth + 5 {
			line := strings.Repeat("  ", depth) + "next A\n"
			if depth > ahead+1 || depth > impl.MaxDepth {
				refuseChartText(t, text+line, ahead+2)
				continue
			}
			checkReadChart(t, text+line, append(deepChart(ahead+1), impl.Account{Code: "next", Parent: depth - 1, Kind: impl.Asset}))
		}
	}
}

func TestBlanksAheadOfALine(t *testing.T) {
	for at := range strings.Count(handText, "\n") {
		lines := strings.SplitAfter(handText, "\n")
		lines[at] = " " + lines[at]
		refuseChartText(t, strings.Join(lines, ""), at+1)
		lines[at] = lines[at][1:]
		if strings.HasPrefix(lines[at], " ") {
			lines[at] = lines[at][1:]
			refuseChartText(t, strings.Join(lines, ""), at+1)
		}
	}
}

func TestCodeThatStoodAhead(t *testing.T) {
	refuseChartText(t, "a A\na A\n", 2)
	refuseChartText(t, "a A\n  a A\n", 2)
	refuseChartText(t, "a A\n  b A\nc L\n  b L\n", 4)
	refuseChartText(t, "a A\n  b A\nc L\n  d L\na L\n", 5)
	refuseChartText(t, handText+"cash A\n", 14)
	readAsWanted(t, "a A\nA A\n  a. A\n")
}

func TestKindOfWhatALineIsPartOf(t *testing.T) {
	for above, a := range "ALEIX" {
		for kind, b := range "ALEIX" {
			text := "a " + string(a) + "\n  b " + string(a) + "\n  c " + string(b) + "\n    d " + string(b) + "\n"
			if kind == above {
				readAsWanted(t, text)
				continue
			}
			refuseChartText(t, text, 3)
			refuseChartText(t, "a "+string(a)+"\n  b "+string(b)+"\n", 2)
			readAsWanted(t, "a "+string(a)+"\nb "+string(b)+"\n  c "+string(b)+"\n")
			// It is the kind of what it is part of that counts, not that of the line ahead.
			refuseChartText(t, "a "+string(a)+"\nb "+string(b)+"\n  c "+string(a)+"\n", 3)
		}
	}
}

func TestHowManyLinesThereMayBe(t *testing.T) {
	line := func(i int) string { return "n" + strconv.Itoa(i) + " I\n" }
	text := ""
	for i := range impl.MaxAccounts {
		text += line(i)
		readAsWanted(t, text)
	}
	got, bad := impl.ReadChart(text)
	if len(got) != impl.MaxAccounts || bad != 0 {
		t.Errorf("ReadChart of %d lines = %d accounts, %d", impl.MaxAccounts, len(got), bad)
	}
	refuseChartText(t, text+line(impl.MaxAccounts), impl.MaxAccounts+1)
	refuseChartText(t, text+line(impl.MaxAccounts)+line(impl.MaxAccounts+1), impl.MaxAccounts+1)
	refuseChartText(t, text+"n", impl.MaxAccounts+1)
	refuseChartText(t, text+"\n", impl.MaxAccounts+1)
	refuseChartText(t, text+line(0), impl.MaxAccounts+1)
	refuseChartText(t, line(5)+text, 7)
	refuseChartText(t, text[:len(text)-1], impl.MaxAccounts)
	refuseChartText(t, text+strings.Repeat("n I\n", 50000), impl.MaxAccounts+1)
}

func TestOfTwoWrongLinesTheFirst(t *testing.T) {
	wrong := []string{"\n", " n A\n", "n\n", "n Q\n", "n, A\n", "1 A\n", "        n A\n", strings.Repeat("  ", impl.MaxDepth+1) + "n A\n"}
	lines := slices.Collect(strings.Lines(handText))
	for i := 1; i <= len(lines); i++ {
		for k := i; k <= len(lines); k++ {
			first, second := wrong[(i+k)%len(wrong)], wrong[(i*k)%len(wrong)]
			text := strings.Join(lines[:i], "") + first + strings.Join(lines[i:k], "") + second + strings.Join(lines[k:], "")
			refuseChartText(t, text, i+1)
		}
	}
	refuseChartText(t, "a A\nb Q\nb A", 2)
	refuseChartText(t, "a A\nb A\n  c L\n\n", 3)
	refuseChartText(t, "  a A\na A\na A\n", 1)
}

// One byte of a right text is turned, put in or left out; what then may not stand is told as the other reader tells it.
func TestTextsSpoiltInOneByte(t *testing.T) {
	spoil := " \nA1LXaq,\r\x00é"
	for at := range len(handText) {
		for i := range len(spoil) {
			readAsWanted(t, handText[:at]+spoil[i:i+1]+handText[at+1:])
			readAsWanted(t, handText[:at]+spoil[i:i+1]+handText[at:])
		}
		readAsWanted(t, handText[:at]+handText[at+1:])
		readAsWanted(t, handText[:at]+"  "+handText[at:])
	}
}

func TestTextsOfManyLines(t *testing.T) {
	chance := rand.New(rand.NewSource(7))
	right := 0
	for range 6000 {
		text := ""
		for i := range 1 + chance.Intn(5) {
			text += strings.Repeat(" ", 2*chance.Intn(1+min(i, 3))) + string(rune('a'+chance.Intn(12))) + " " + "AAAL"[chance.Intn(4):][:1] + "\n"
		}
		readAsWanted(t, text)
		if _, line := impl.ReadChart(text); line == 0 {
			right++
		}
	}
	if right < 600 || right > 5400 {
		t.Errorf("%d of the texts were right", right)
	}
}

func TestTextsOfShortLines(t *testing.T) {
	bytes := []string{" ", "\n", "A", "a", "-", "L"}
	texts := []string{""}
	for range 5 {
		next := []string{}
		for _, text := range texts {
			for _, b := range bytes {
				next = append(next, text+b)
			}
		}
		texts = next
		for _, text := range texts {
			readAsWanted(t, text)
			readAsWanted(t, "k A\n"+text)
		}
	}
}

func TestChartsReadAreNewEachTime(t *testing.T) {
	first, _ := impl.ReadChart(handText)
	second, _ := impl.ReadChart(handText)
	for i := range first {
		first[i] = impl.Account{}
	}
	if !slices.Equal(second, handChart()) {
		t.Error("two answers share their memory")
	}
	checkReadChart(t, handText, handChart())
}
