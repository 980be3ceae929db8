package tests

import (
	"fmt"
	"math"
	"math/rand"
	"regexp"
	"slices"
	"strconv"
	"strings"
	"testing"

	"loop.example/g00040/impl"
)

const handFlowText = "over 0.00: clerk\nover 100.00: head, clerk\nover 2500.50: board.1, head, audit-2, X_9\n"

var flowForm = regexp.MustCompile(`\Aover (0|[1-9][0-9]{0,9})\.([0-9]{2}): ([A-Za-z0-9._-]{1,20}(?:, [A-Za-z0-9._-]{1,20}){0,7})\n\z`)

func stepOf(over int, roles ...string) impl.Step { return impl.Step{Over: over, Roles: roles} }

func handFlow() []impl.Step {
	return []impl.Step{
		stepOf(0, "clerk"),
		stepOf(10000, "head", "clerk"),
		stepOf(250050, "board.1", "head", "audit-2", "X_9"),
	}
}

func sameStep(a, b impl.Step) bool { return a.Over == b.Over && slices.Equal(a.Roles, b.Roles) }

func sameFlow(a, b []impl.Step) bool { return slices.EqualFunc(a, b, sameStep) }

func copyFlow(flow []impl.Step) []impl.Step {
	other := slices.Clone(flow)
	for i, s := range flow {
		other[i].Roles = slices.Clone(s.Roles)
	}
	return other
}

func hasTwice(list []string) bool {
	sorted := slices.Sorted(slices.Values(list))
	return len(slices.Compact(sorted)) < len(list)
}

// wantParseFlow holds each line against a form.
func wantParseFlow(text string) ([]impl.Step, int) {
	if len(text) > impl.MaxFlow {
		return nil, 1
	}
	flow := []impl.Step{}
	last := -1
	for i, line := range strings.SplitAfter(text, "\n") {
		if line == "" {
			break
		}
		fields := flowForm.FindStringSubmatch(line)
		if fields == nil || i >= impl.MaxSteps {
			return nil, i + 1
		}
		over, _ := strconv.Atoi(fields[1] + fields[2])
		s := stepOf(over, strings.Split(fields[3], ", ")...)
		if over > impl.MaxMoney || over <= last || hasTwice(s.Roles) {
			return nil, i + 1
		}
		last = over
		flow = append(flow, s)
	}
	return flow, 0
}

// The text is made as it comes, and is kept when reading it tells the same steps.
func wantShowFlow(flow []impl.Step) string {
	if len(flow) > 100 || slices.ContainsFunc(flow, func(s impl.Step) bool { return s.Over < 0 || len(s.Roles) > 100 }) {
		return ""
	}
	text := ""
	for _, s := range flow {
		text += fmt.Sprintf("over %d.%02d: %s\n", s.Over/100, s.Over%100, strings.Join(s.Roles, ", "))
	}
	if told, line := wantParseFlow(text); line != 0 || !sameFlow(told, flow) {
		return ""
	}
	return text
}

func checkParseFlow(t *testing.T, text string, want ...impl.Step) {
	t.Helper()
	got, line := impl.ParseFlow(text)
	if !sameFlow(got, want) || line != 0 {
		t.Errorf("ParseFlow(%q) = %v, %d; want %v, 0", text, got, line, want)
	}
	if back := impl.ShowFlow(got); back != text {
		t.Errorf("ShowFlow of ParseFlow(%q) = %q", text, back)
	}
}

func refuseFlowText(t *testing.T, text string, want int) {
	t.Helper()
	got, line := impl.ParseFlow(text)
	if len(got) != 0 || line != want {
		t.Errorf("ParseFlow(%q) = %v, %d; want nothing, %d", text[:min(300, len(text))], got, line, want)
	}
}

func flowTextAsWanted(t *testing.T, text string) bool {
	t.Helper()
	want, wrong := wantParseFlow(text)
	if wrong != 0 {
		refuseFlowText(t, text, wrong)
		return false
	}
	checkParseFlow(t, text, want...)
	return true
}

// checkFlow asks P28 too.
func checkFlow(t *testing.T, flow ...impl.Step) string {
	t.Helper()
	want, text := wantShowFlow(flow), impl.ShowFlow(flow)
	if text == "" || text != want {
		t.Errorf("ShowFlow(%v) = %q; want %q", flow, text, want)
	}
	checkParseFlow(t, text, flow...)
	return text
}

func refuseFlow(t *testing.T, flow ...impl.Step) {
	t.Helper()
	if got := impl.ShowFlow(flow); got != "" || wantShowFlow(flow) != "" {
		t.Errorf("ShowFlow(%d steps) = %q; want nothing: %v", len(flow), got, flow[:min(30, len(flow))])
	}
	for _, amount := range []int{-1, 0, 1, 10001, impl.MaxMoney} {
		if got := impl.Needed(flow, amount); len(got) != 0 {
			t.Errorf("Needed(%v, %d) = %v; want nothing", flow[:min(30, len(flow))], amount, got)
		}
		people := []impl.Person{{Name: "ann"}, {Name: "bob", Roles: []string{"clerk", "a"}, Limit: impl.MaxMoney}}
		if state, at := impl.Approve(flow, people, 0, amount, nil); len(flow) > 0 && (state != impl.Refused || at != -1) {
			t.Errorf("Approve(%v, .., %d) = %d, %d; want Refused, -1", flow[:min(30, len(flow))], amount, state, at)
		}
	}
}

func flowWith(change func(flow []impl.Step)) []impl.Step {
	flow := handFlow()
	change(flow)
	return flow
}

func TestFlowByHand(t *testing.T) {
	checkParseFlow(t, handFlowText, handFlow()...)
	if got := checkFlow(t, handFlow()...); got != handFlowText {
		t.Errorf("ShowFlow = %q", got)
	}
	checkParseFlow(t, "")
	checkParseFlow(t, "over 0.00: a\n", stepOf(0, "a"))
	checkParseFlow(t, "over 0.01: a\n", stepOf(1, "a"))
	checkParseFlow(t, "over 0.10: over\n", stepOf(10, "over"))
	checkParseFlow(t, "over 7.00: 7.00\n", stepOf(700, "7.00"))
	if impl.ShowFlow(nil) != "" || impl.ShowFlow([]impl.Step{}) != "" {
		t.Error("ShowFlow of no steps is not empty")
	}
}

func manySteps(count int) []impl.Step {
	flow := make([]impl.Step, count)
	for i := range flow {
		flow[i] = stepOf(100*i+i%2, "a", "r"+strconv.Itoa(i))
	}
	return flow
}

func TestHowManyStepsThereMayBe(t *testing.T) {
	text := ""
	for count := 1; count <= impl.MaxSteps; count++ {
		text = checkFlow(t, manySteps(count)...)
		flowTextAsWanted(t, text)
	}
	for _, more := range []string{"over 5000.00: a\n", "over 5000.00: a\nover 6000.00: b\n", "over 5000.00: a", "\n", "x", "x\n", "over 0.00: a\n", "over 5000.00: a\n\n"} {
		refuseFlowText(t, text+more, impl.MaxSteps+1)
		refuseFlowText(t, "\n"+text+more, 1)
	}
	for _, count := range []int{impl.MaxSteps + 1, impl.MaxSteps + 2, 90, 100000} {
		refuseFlow(t, manySteps(count)...)
	}
	refuseFlow(t, make([]impl.Step, 100000)...)
}

func rolesUpTo(count int) []string {
	roles := make([]string, count)
	for i := range roles {
		roles[i] = "r" + strconv.Itoa(i)
	}
	return roles
}

func TestHowManyRolesAStepMayHave(t *testing.T) {
	for count := range impl.MaxRoles + 3 {
		roles := rolesUpTo(count)
		text := "over 5.00: " + strings.Join(roles, ", ") + "\n"
		if count == 0 || count > impl.MaxRoles {
			refuseFlowText(t, text, 1)
			refuseFlowText(t, handFlowText[:17]+text+"over 6.00: a\n", 2)
			refuseFlow(t, stepOf(500, roles...))
			refuseFlow(t, stepOf(0, "a"), stepOf(500, roles...), stepOf(600, "b"))
			continue
		}
		checkParseFlow(t, text, stepOf(500, roles...))
		checkFlow(t, stepOf(500, roles...))
		checkFlow(t, stepOf(0, "a"), stepOf(500, roles...), stepOf(600, roles...))
	}
	refuseFlow(t, impl.Step{})
	refuseFlow(t, stepOf(5))
	refuseFlow(t, impl.Step{Over: 5, Roles: []string{}})
	refuseFlow(t, stepOf(5, rolesUpTo(100000)...))
	refuseFlow(t, stepOf(5, slices.Repeat([]string{"a"}, 1000)...))
}

func TestNamesOfRoles(t *testing.T) {
	for _, role := range []string{"a", "Z", "0", "-", "_", ".", "--", "over", "0.00", strings.Repeat("n", impl.MaxName)} {
		checkFlow(t, stepOf(500, role))
		checkFlow(t, stepOf(500, "first", role), stepOf(501, role, "last"))
	}
	tricks := []string{"a, b", "a,b", ", ", ",", ": ", "a: b", "a\nover 600.00: b", "a\n", "\n", " a", "a ", "\xff", "a\xc3", "\u2028", "a\r"}
	for _, role := range append(tricks, noNames...) {
		flowTextAsWanted(t, "over 5.00: "+role+"\n")
		refuseFlow(t, stepOf(500, role))
		refuseFlow(t, stepOf(500, "first", role))
		refuseFlow(t, stepOf(500, role, "last"))
		for at, s := range handFlow() {
			for k := range s.Roles {
				refuseFlow(t, flowWith(func(flow []impl.Step) { flow[at].Roles[k] = role })...)
			}
		}
	}
	// What would read as two roles, or as two steps, is no role, though its text is a flow's.
	checkParseFlow(t, "over 5.00: a, b\n", stepOf(500, "a", "b"))
	checkParseFlow(t, "over 5.00: a\nover 600.00: b\n", stepOf(500, "a"), stepOf(60000, "b"))
}

func TestRolesTwiceInALine(t *testing.T) {
	for _, roles := range [][]string{{"a", "a"}, {"a", "b", "a"}, {"a", "b", "b"}, {"a", "b", "c", "d", "e", "f", "g", "a"}} {
		refuseFlowText(t, "over 5.00: "+strings.Join(roles, ", ")+"\n", 1)
		refuseFlowText(t, handFlowText+"over 5000.00: "+strings.Join(roles, ", ")+"\n", 4)
		refuseFlow(t, stepOf(500, roles...))
		refuseFlow(t, stepOf(0, "a"), stepOf(500, roles...))
	}
	checkFlow(t, stepOf(500, "a", "A", "aa", "a.", "a-"))
	checkFlow(t, stepOf(500, "a", "b"), stepOf(501, "a", "b"), stepOf(502, "b", "a"), stepOf(503, "a"))
	checkParseFlow(t, "over 5.00: a\nover 6.00: a\n", stepOf(500, "a"), stepOf(600, "a"))
}

func TestOversOfLines(t *testing.T) {
	for text, over := range map[string]int{
		"0.00": 0, "0.01": 1, "0.10": 10, "0.99": 99, "1.00": 100, "9.09": 909, "10.00": 1000, "120.30": 12030,
		"999999999.99": impl.MaxMoney - 1, "1000000000.00": impl.MaxMoney,
	} {
		checkParseFlow(t, "over "+text+": a\n", stepOf(over, "a"))
		checkFlow(t, stepOf(over, "a"))
	}
	wrong := []string{
		"", "0", "5", "0.0", "5.0", "5.", ".", ".5", ".50", "5.000", "0.000", "5.001", "00.00", "05.00", "0005.00", "-0.00", "-0", "-5.00", "-0.01", "--5.00", "+5.00", "5,00", "5.0.0", "5..00", "5:00",
		"5.00.", "5.00 ", " 5.00", "5 .00", "1 000.00", "1,000.00", "1e3.00", "0x5.00", "5.0o", "a", "5.-1", "5.+1", "5.00-", "\xd9\xa5.00", "５.00", "1000000000.01", "1000000001.00", "9999999999.99", "10000000000.00",
		strings.Repeat("9", 18) + ".00", strings.Repeat("9", 19) + ".00", strings.Repeat("9", 20) + ".00", "184467440737095516.16", "184467440737095521.16", strings.Repeat("9", 1000) + ".00", "0." + strings.Repeat("0", 1000),
	}
	for _, text := range wrong {
		refuseFlowText(t, "over "+text+": a\n", 1)
		refuseFlowText(t, "over 0.00: b\nover "+text+": a\n", 2)
		refuseFlowText(t, "over 0.00: b\nover "+text+": a\nover 1000000000.00: a\n", 2)
	}
	for _, over := range append([]int{-1, -2, -100, -impl.MaxMoney}, noAmounts...) {
		refuseFlow(t, stepOf(over, "a"))
		refuseFlow(t, stepOf(over, "a"), stepOf(500, "b"))
		refuseFlow(t, stepOf(500, "a"), stepOf(over, "b"))
		for at := range handFlow() {
			refuseFlow(t, flowWith(func(flow []impl.Step) { flow[at].Over = over })...)
		}
	}
}

func TestOversThatDoNotRise(t *testing.T) {
	overs := []int{0, 1, 99, 100, 101, 250050, impl.MaxMoney - 1, impl.MaxMoney}
	for _, a := range overs {
		for _, b := range overs {
			text := "over " + impl.ShowMoney(a, 2) + ": a\nover " + impl.ShowMoney(b, 2) + ": b\n"
			if a < b {
				checkParseFlow(t, text, stepOf(a, "a"), stepOf(b, "b"))
				checkFlow(t, stepOf(a, "a"), stepOf(b, "b"))
				continue
			}
			refuseFlowText(t, text, 2)
			refuseFlowText(t, text+"over 1.00: c\n", 2)
			refuseFlow(t, stepOf(a, "a"), stepOf(b, "b"))
		}
	}
	// It is the line ahead that counts, not the one ahead of that.
	refuseFlowText(t, "over 1.00: a\nover 9.00: a\nover 5.00: a\n", 3)
	refuseFlow(t, stepOf(100, "a"), stepOf(900, "a"), stepOf(500, "a"))
	refuseFlow(t, stepOf(100, "a"), stepOf(900, "a"), stepOf(900, "a"))
}

func TestLinesThatAreNoSteps(t *testing.T) {
	wrong := []string{
		"", " ", "over", "over ", "over 5.00", "over 5.00:", "over 5.00: ", "over 5.00:a", "over 5.00 a", "over 5.00 : a", "over 5.00:  a", "over 5.00:\ta", "over 5.00; a", "over 5.00. a", "over 5.00, a", "over: a", "over : a",
		"over  5.00: a", " over 5.00: a", "over\t5.00: a", "over5.00: a", "Over 5.00: a", "OVER 5.00: a", "ove 5.00: a", "under 5.00: a", "5.00: a", "over 5.00: a ", "over 5.00: a\r", "over 5.00: a\t", "#", "# a",
		"over 5.00: a,b", "over 5.00: a , b", "over 5.00: a,  b", "over 5.00: a  b", "over 5.00: a b", "over 5.00: a; b", "over 5.00: a. b", "over 5.00: a,\tb", "over 5.00: a,", "over 5.00: a, ", "over 5.00: , a", "over 5.00: ,", "over 5.00: , ", "over 5.00: a, , b", "over 5.00: a,, b", "over 5.00: a, b,", "over 5.00: a, b, ",
		"over 5.00: a: b", "over 5.00: : a", "over 5.00: over 6.00: a", "over over 5.00: a", "over 5.00: a\x00", "\x00over 5.00: a", "over 5.00: é", "over 5.00: \xff", "\xef\xbb\xbfover 5.00: a", "over 5.00\uff1a a",
	}
	for _, line := range wrong {
		refuseFlowText(t, line+"\n", 1)
		refuseFlowText(t, line+"\nover 9.00: b\n", 1)
		refuseFlowText(t, "over 0.00: z\n"+line+"\n", 2)
		refuseFlowText(t, "over 0.00: z\nover 0.01: z\n"+line+"\nover 9.00: b\n", 3)
	}
}

func TestEndOfTheFlow(t *testing.T) {
	refuseFlowText(t, "\n", 1)
	refuseFlowText(t, "\n\n", 1)
	refuseFlowText(t, "over 5.00: a", 1)
	refuseFlowText(t, "over 5.00: a\r\n", 1)
	refuseFlowText(t, "over 5.00: a\n\n", 2)
	refuseFlowText(t, "over 5.00: a\n ", 2)
	refuseFlowText(t, "over 5.00: a\nover 6.00: a", 2)
	refuseFlowText(t, "over 5.00: a\n\nover 6.00: a\n", 2)
	refuseFlowText(t, "\nover 5.00: a\n", 1)
	refuseFlowText(t, "over 5.00: a\x85over 6.00: a\n", 1)
	refuseFlowText(t, "over 5.00: a\u2028over 6.00: a\n", 1)
	// Every beginning that ends with a line end is a flow's text, and no other one is.
	for n := range len(handFlowText) + 1 {
		lines := strings.Count(handFlowText[:n], "\n")
		if n == 0 || handFlowText[n-1] == '\n' {
			checkParseFlow(t, handFlowText[:n], handFlow()[:lines]...)
		} else {
			refuseFlowText(t, handFlowText[:n], lines+1)
		}
	}
}

// A text of steps that has just that many bytes: MaxSteps lines, of which the last ones have as many names as are missing.
func flowOfBytes(bytes int) []impl.Step {
	long := strings.Repeat("n", impl.MaxName-1)
	flow := manySteps(impl.MaxSteps)
	for i := range flow {
		flow[i] = stepOf(10000+i, "a")
	}
	missing := bytes - len(wantShowFlow(flow))
	for i := 0; missing > 0; i++ {
		s := &flow[i%impl.MaxSteps]
		role := long + string(rune('a'+i/impl.MaxSteps))
		if missing < 2*(len(role)+2) {
			// The rest goes into two names, neither of them shorter than one byte.
			first := min(missing/2, len(role)+2)
			s.Roles = append(s.Roles, strings.Repeat("x", first-2))
			flow[(i+1)%impl.MaxSteps].Roles = append(flow[(i+1)%impl.MaxSteps].Roles, strings.Repeat("y", missing-first-2))
			break
		}
		s.Roles = append(s.Roles, role)
		missing -= len(role) + 2
	}
	return flow
}

func flowText(flow []impl.Step) string {
	text := ""
	for _, s := range flow {
		text += "over " + impl.ShowMoney(s.Over, 2) + ": " + strings.Join(s.Roles, ", ") + "\n"
	}
	return text
}

func TestHowLongAFlowMayBe(t *testing.T) {
	for _, bytes := range []int{1000, impl.MaxFlow - 2, impl.MaxFlow - 1, impl.MaxFlow} {
		flow := flowOfBytes(bytes)
		if got := checkFlow(t, flow...); len(got) != bytes {
			t.Errorf("a flow of %d bytes has %d", bytes, len(got))
		}
	}
	for _, bytes := range []int{impl.MaxFlow + 1, impl.MaxFlow + 2, 2500, 3000} {
		flow := flowOfBytes(bytes)
		text := flowText(flow)
		if len(text) != bytes || hasTwice(strings.Split(text, "\n")) {
			t.Errorf("a flow of %d bytes has %d", bytes, len(text))
		}
		refuseFlowText(t, text, 1)
		refuseFlow(t, flow...)
	}
	// Where a text is too long, it is line 1, whichever line is wrong.
	full := flowText(flowOfBytes(impl.MaxFlow))
	refuseFlowText(t, full+"\n", 1)
	refuseFlowText(t, full+"x", 1)
	refuseFlowText(t, full+full, 1)
	refuseFlowText(t, strings.Repeat("over 5.00: a\n", 200), 1)
	refuseFlowText(t, strings.Repeat("x", 1000000), 1)
	refuseFlowText(t, strings.Replace(full, "over 100.03", "ever 100.03", 1), 4)
	refuseFlowText(t, full[:impl.MaxFlow-1]+" ", impl.MaxSteps)
	refuseFlowText(t, full[:impl.MaxFlow-1], impl.MaxSteps)
	refuseFlowText(t, "over 5.00: a\n"+strings.Repeat("x", impl.MaxFlow-13), 2)
	refuseFlowText(t, "over 5.00: a\n"+strings.Repeat("x", impl.MaxFlow-12), 1)
	longest := []impl.Step{}
	for i := range impl.MaxSteps {
		s := stepOf(impl.MaxMoney-impl.MaxSteps+i, rolesUpTo(impl.MaxRoles)...)
		for k := range s.Roles {
			s.Roles[k] = strings.Repeat("n", impl.MaxName-2) + s.Roles[k]
		}
		longest = append(longest, s)
	}
	refuseFlow(t, longest...)
	for count := range longest {
		if text := flowText(longest[:count]); len(text) > impl.MaxFlow {
			refuseFlow(t, longest[:count]...)
		} else if count > 0 {
			checkFlow(t, longest[:count]...)
		}
	}
}

func TestOfTwoWrongLinesOfAFlowTheFirst(t *testing.T) {
	wrong := []string{"\n", "x\n", "over 0.00: a\n", "over 5: a\n", "over 999.00: a, a\n", "over 999.00:\n", "\xe2\n", "\xf0\x9f\n"}
	lines := slices.Collect(strings.Lines(flowText(manySteps(10))))
	for i := 1; i <= len(lines); i++ {
		for k := i; k <= len(lines); k++ {
			first, second := wrong[(i+k)%len(wrong)], wrong[(i*k)%len(wrong)]
			text := strings.Join(lines[:i], "") + first + strings.Join(lines[i:k], "") + second + strings.Join(lines[k:], "")
			refuseFlowText(t, text, i+1)
			refuseFlowText(t, strings.TrimSuffix(text, "\n"), i+1)
		}
	}
}

// The beginning of a rune ahead of a line end swallows no line end.
func TestFlowsWithBytesThatAreNoLetters(t *testing.T) {
	for b := range 256 {
		one := string([]byte{byte(b)})
		for _, text := range []string{
			"over 5.00: a" + one + "\n", "over 5.00: a" + one + "\nover 6.00: b\n", "over 5.00: " + one + "\n", "over 5.00:" + one + "a\n", "over 5.00" + one + " a\n", "over 5" + one + "00: a\n",
			"over" + one + "5.00: a\n", one + "over 5.00: a\n", "over 5.00: a" + one + "b\n", "over 5.00: a" + one + " b\n", "over 5.00: a," + one + "b\n", "over 5.00: a\n" + one, "over 5.00: a\n" + one + "\n", "over 5.00: a" + one + "over 6.00: b\n",
		} {
			flowTextAsWanted(t, text)
			flowTextAsWanted(t, "over 0.00: z\n"+text)
		}
	}
	for _, broken := range []string{"\xe2\x82", "\xf0\x9f\x98", "\xc3", "\xed\xa0\x80", "\xc0\x8a", "\xfe\xff"} {
		refuseFlowText(t, "over 5.00: a\nover 6.00: b"+broken+"\nover 7.00: c\n", 2)
		refuseFlowText(t, "over 5.00: a\n"+broken, 2)
		refuseFlowText(t, "over 5.00: a\nover 6.00: b\n"+broken+"\n", 3)
	}
}

// One byte of a right text is turned, put in or left out; what then may not be is told as the other reader tells it.
func TestFlowsSpoiltInOneByte(t *testing.T) {
	spoil := " \n0159aor.,:-\x00é\r"
	right := 0
	for at := range len(handFlowText) {
		for i := range len(spoil) {
			for _, text := range []string{handFlowText[:at] + spoil[i:i+1] + handFlowText[at+1:], handFlowText[:at] + spoil[i:i+1] + handFlowText[at:]} {
				if flowTextAsWanted(t, text) {
					right++
				}
			}
		}
		flowTextAsWanted(t, handFlowText[:at]+handFlowText[at+1:])
	}
	if right < 100 {
		t.Errorf("%d of the texts were right", right)
	}
}

func someFlow(chance *rand.Rand, count int) []impl.Step {
	roles := []string{"clerk", "head", "board", "a", "A", "x.y", "9", "-", "n_n"}
	flow := []impl.Step{}
	over := chance.Intn(3)
	for range count {
		chance.Shuffle(len(roles), func(i, k int) { roles[i], roles[k] = roles[k], roles[i] })
		flow = append(flow, stepOf(over, slices.Clone(roles[:1+chance.Intn(4)])...))
		over += 1 + chance.Intn(3)*chance.Intn(100)
	}
	return flow
}

func spoilFlow(chance *rand.Rand, flow []impl.Step) {
	s := &flow[chance.Intn(len(flow))]
	switch chance.Intn(5) {
	case 0:
		s.Over += chance.Intn(5) - 2
	case 1:
		s.Over = flow[chance.Intn(len(flow))].Over
	case 2:
		s.Roles[0] = s.Roles[len(s.Roles)-1]
	case 3:
		s.Roles = append(s.Roles, noNames[chance.Intn(len(noNames))])
	case 4:
		s.Roles = append(s.Roles, "more", "and", "more.")
	}
}

func TestSomeFlows(t *testing.T) {
	chance := rand.New(rand.NewSource(113))
	right, wrong := 0, 0
	for range 4000 {
		flow := someFlow(chance, 1+chance.Intn(impl.MaxSteps))
		checkFlow(t, flow...)
		for range chance.Intn(3) {
			spoilFlow(chance, flow)
		}
		if wantShowFlow(flow) != "" {
			checkFlow(t, flow...)
			right++
		} else {
			refuseFlow(t, flow...)
			wrong++
		}
	}
	if right < 500 || wrong < 500 {
		t.Errorf("%d right, %d wrong", right, wrong)
	}
}

// Each role is kept where no one ahead of it, in all the steps below the amount, is the same.
func wantNeeded(flow []impl.Step, amount int) []string {
	all := []string{}
	if wantShowFlow(flow) == "" || amount < -impl.MaxMoney || amount > impl.MaxMoney {
		return all
	}
	for _, s := range flow {
		if amount-s.Over > 0 {
			all = append(all, s.Roles...)
		}
	}
	needed := []string{}
	for i, role := range all {
		if slices.Index(all, role) == i {
			needed = append(needed, role)
		}
	}
	return needed
}

func checkNeeded(t *testing.T, flow []impl.Step, amount int, want ...string) {
	t.Helper()
	if got := impl.Needed(flow, amount); !slices.Equal(got, want) || !slices.Equal(wantNeeded(flow, amount), want) {
		t.Errorf("Needed(%v, %d) = %v; want %v", flow, amount, got, want)
	}
}

func TestNeededByHand(t *testing.T) {
	flow := handFlow()
	checkNeeded(t, flow, 1, "clerk")
	checkNeeded(t, flow, 9999, "clerk")
	checkNeeded(t, flow, 10000, "clerk")
	checkNeeded(t, flow, 10001, "clerk", "head")
	checkNeeded(t, flow, 250050, "clerk", "head")
	checkNeeded(t, flow, 250051, "clerk", "head", "board.1", "audit-2", "X_9")
	checkNeeded(t, flow, impl.MaxMoney, "clerk", "head", "board.1", "audit-2", "X_9")
	for _, amount := range append([]int{0, -1, -10001, -impl.MaxMoney}, noAmounts...) {
		checkNeeded(t, flow, amount)
		checkNeeded(t, nil, amount)
	}
	for _, amount := range []int{1, 5, impl.MaxMoney} {
		checkNeeded(t, nil, amount)
		checkNeeded(t, []impl.Step{}, amount)
	}
}

func TestNeededAtItsOvers(t *testing.T) {
	flow := []impl.Step{stepOf(5, "a"), stepOf(6, "b"), stepOf(impl.MaxMoney-1, "c"), stepOf(impl.MaxMoney, "d")}
	checkNeeded(t, flow, 0)
	checkNeeded(t, flow, 4)
	checkNeeded(t, flow, 5)
	checkNeeded(t, flow, 6, "a")
	checkNeeded(t, flow, 7, "a", "b")
	checkNeeded(t, flow, impl.MaxMoney-1, "a", "b")
	checkNeeded(t, flow, impl.MaxMoney, "a", "b", "c")
	checkNeeded(t, flow, impl.MaxMoney+1)
	checkNeeded(t, flow, -impl.MaxMoney)
	checkNeeded(t, flow, -impl.MaxMoney-1)
	checkNeeded(t, []impl.Step{stepOf(0, "a")}, 0)
	checkNeeded(t, []impl.Step{stepOf(0, "a")}, -1)
	checkNeeded(t, []impl.Step{stepOf(0, "a")}, 1, "a")
}

// A role of several steps stands where it comes first.
func TestNeededRolesOfSeveralSteps(t *testing.T) {
	flow := []impl.Step{stepOf(0, "b", "a"), stepOf(10, "a", "c", "b"), stepOf(20, "d", "c"), stepOf(30, "a", "b", "c", "d"), stepOf(40, "A", "e", "a")}
	checkNeeded(t, flow, 10, "b", "a")
	checkNeeded(t, flow, 11, "b", "a", "c")
	checkNeeded(t, flow, 21, "b", "a", "c", "d")
	checkNeeded(t, flow, 31, "b", "a", "c", "d")
	checkNeeded(t, flow, 41, "b", "a", "c", "d", "A", "e")
	most := []impl.Step{}
	want := []string{}
	for i := range impl.MaxSteps {
		roles := []string{}
		for k := range impl.MaxRoles {
			roles = append(roles, string(rune('a'+i))+string(rune('a'+k)))
		}
		want = append(want, roles...)
		most = append(most, stepOf(i, roles...))
	}
	checkFlow(t, most...)
	checkNeeded(t, most, impl.MaxMoney, want...)
	checkNeeded(t, most, impl.MaxSteps-1, want[:len(want)-impl.MaxRoles]...)
}

func TestSomeNeeded(t *testing.T) {
	chance := rand.New(rand.NewSource(114))
	for range 3000 {
		flow := someFlow(chance, 1+chance.Intn(8))
		if chance.Intn(4) == 0 {
			spoilFlow(chance, flow)
		}
		for _, s := range flow {
			amount := s.Over + chance.Intn(3) - 1
			checkNeeded(t, flow, amount, wantNeeded(flow, amount)...)
		}
	}
}

// What is answered may be written into: no other list of it, no other answer and no argument changes.
func TestFlowsShareNoMemory(t *testing.T) {
	first, _ := impl.ParseFlow(handFlowText)
	second, _ := impl.ParseFlow(handFlowText)
	for i, s := range first {
		_ = append(s.Roles, "behind")
		for k := range s.Roles {
			s.Roles[k] = "spoilt"
		}
		if !sameFlow(first[i+1:], handFlow()[i+1:]) || !sameFlow(second, handFlow()) {
			t.Fatal("lists of ParseFlow's answers share their memory")
		}
		first[i] = impl.Step{}
	}
	_ = append(first, stepOf(99, "behind"))
	checkParseFlow(t, handFlowText, handFlow()...)

	wide := []string{"clerk", "head", "a b", ""}
	whole := []impl.Step{stepOf(0, wide[:2]...), stepOf(5, "head"), stepOf(3), stepOf(math.MinInt, "")}
	kept, keptWide := copyFlow(whole), slices.Clone(wide)
	if got := impl.ShowFlow(whole[:2]); got != "over 0.00: clerk, head\nover 0.05: head\n" {
		t.Errorf("ShowFlow = %q", got)
	}
	one, other := impl.Needed(whole[:2], 9), impl.Needed(whole[:2], 9)
	one[0], one[1] = "spoilt", "spoilt"
	_ = append(one, "behind")
	if !slices.Equal(other, []string{"clerk", "head"}) || !sameFlow(whole, kept) || !slices.Equal(wide, keptWide) {
		t.Error("Needed's answer shares its memory")
	}
	if impl.ShowFlow(whole) != "" || len(impl.Needed(whole, 9)) != 0 {
		t.Error("steps that are none are taken")
	}
}
