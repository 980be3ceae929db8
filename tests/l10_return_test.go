package tests

import (
	"math"
	"math/rand"
	"slices"
	"strings"
	"testing"

	"loop.example/g00040/impl"
)

func soldOf(day int, parts ...impl.TaxPart) impl.Filed {
	return impl.Filed{Day: day, Out: true, Parts: parts}
}

func boughtOf(day int, parts ...impl.TaxPart) impl.Filed { return impl.Filed{Day: day, Parts: parts} }

func plainPart(code string, base, tax int) impl.TaxPart {
	return partOf(code, impl.TaxPlain, base, tax)
}

func reversePart(code string, base, tax int) impl.TaxPart {
	return partOf(code, impl.TaxReverse, base, tax)
}

func taxLine(code string, sold, bought, due int) impl.TaxLine {
	return impl.TaxLine{Code: code, Sold: sold, Bought: bought, Due: due}
}

func wantFiledOk(list []impl.Filed) bool {
	for _, f := range list {
		for _, p := range f.Parts {
			if !amount(p.Base) || !amount(p.Tax) {
				return false
			}
		}
		if len(f.Parts) > impl.MaxTaxCodes {
			return false
		}
	}
	return len(list) <= impl.MaxFiled
}

// Each code is looked for in the whole list again; the least that is greater than the last one comes next.
func wantReturn(list []impl.Filed, from, to int) []impl.TaxLine {
	lines := []impl.TaxLine{}
	if !wantFiledOk(list) {
		return lines
	}
	for {
		var next *impl.TaxLine
		for _, f := range list {
			if f.Day < from || f.Day > to {
				continue
			}
			for _, p := range f.Parts {
				if behind := len(lines) == 0 || p.Code > lines[len(lines)-1].Code; behind && (next == nil || p.Code < next.Code) {
					next = &impl.TaxLine{Code: p.Code}
				}
			}
		}
		if next == nil {
			return lines
		}
		lines = append(lines, wantLineOf(list, from, to, next.Code))
	}
}

func wantLineOf(list []impl.Filed, from, to int, code string) impl.TaxLine {
	n := impl.TaxLine{Code: code}
	for _, f := range list {
		for _, p := range f.Parts {
			switch {
			case p.Code != code || f.Day < from || f.Day > to:
			case f.Out && p.Kind == impl.TaxReverse:
				n.Sold += p.Base
			case p.Kind == impl.TaxReverse:
				n.Bought += p.Base
			case f.Out:
				n.Sold, n.Due = n.Sold+p.Base, n.Due+p.Tax
			default:
				n.Bought, n.Due = n.Bought+p.Base, n.Due-p.Tax
			}
		}
	}
	return n
}

func checkReturn(t *testing.T, list []impl.Filed, from, to int, want ...impl.TaxLine) {
	t.Helper()
	if got := impl.TaxReturn(list, from, to); !slices.Equal(got, want) {
		t.Errorf("TaxReturn(%d filed, %d, %d) = %v; want %v; the first ones: %v", len(list), from, to, got, want, list[:min(3, len(list))])
	}
}

func addReturns(a, b []impl.TaxLine) []impl.TaxLine {
	all := slices.Clone(a)
	for _, n := range b {
		at := slices.IndexFunc(all, func(m impl.TaxLine) bool { return m.Code == n.Code })
		if at < 0 {
			all = append(all, n)
			continue
		}
		all[at].Sold, all[at].Bought, all[at].Due = all[at].Sold+n.Sold, all[at].Bought+n.Bought, all[at].Due+n.Due
	}
	slices.SortFunc(all, func(m, n impl.TaxLine) int { return strings.Compare(m.Code, n.Code) })
	return all
}

// P26: the returns of two spans side by side add up, Code by Code, to that of both.
func checkReturnPromise(t *testing.T, list []impl.Filed, from, to int) {
	t.Helper()
	whole := impl.TaxReturn(list, from, to)
	for mid := from - 1; mid <= to; mid++ {
		got := addReturns(impl.TaxReturn(list, from, mid), impl.TaxReturn(list, mid+1, to))
		if !slices.Equal(got, whole) {
			t.Errorf("TaxReturn(%v) of %d to %d and of %d to %d are together %v; not %v", list, from, mid, mid+1, to, got, whole)
		}
	}
}

func returnAsWanted(t *testing.T, list []impl.Filed, from, to int) int {
	t.Helper()
	want := wantReturn(list, from, to)
	checkReturn(t, list, from, to, want...)
	return len(want)
}

func handFiled() []impl.Filed {
	return []impl.Filed{
		soldOf(3, plainPart("vat", 1000, 200), partOf("beer", impl.TaxOver, 1200, 120)),
		boughtOf(3, plainPart("vat", 300, 60)),
		boughtOf(5, reversePart("abroad", 700, 140), plainPart("vat", 10, 2)),
		soldOf(8, reversePart("abroad", 50, 10), partOf("in", impl.TaxWithin, 800, 200)),
		boughtOf(8),
		soldOf(5, plainPart("vat", -100, -20)),
		boughtOf(9, plainPart("Vat", 1, 1), plainPart("vat", 5, 1), plainPart("", 7, 3)),
	}
}

func TestReturnByHand(t *testing.T) {
	list := handFiled()
	all := []impl.TaxLine{
		taxLine("", 0, 7, -3),
		taxLine("Vat", 0, 1, -1),
		taxLine("abroad", 50, 700, 0),
		taxLine("beer", 1200, 0, 120),
		taxLine("in", 800, 0, 200),
		taxLine("vat", 900, 315, 117),
	}
	checkReturn(t, list, 3, 9, all...)
	checkReturn(t, list, 0, 10, all...)
	checkReturn(t, list, math.MinInt, math.MaxInt, all...)
	checkReturn(t, list, 3, 3, taxLine("beer", 1200, 0, 120), taxLine("vat", 1000, 300, 140))
	checkReturn(t, list, 5, 5, taxLine("abroad", 0, 700, 0), taxLine("vat", -100, 10, -22))
	checkReturn(t, list, 8, 8, taxLine("abroad", 50, 0, 0), taxLine("in", 800, 0, 200))
	checkReturn(t, list, 4, 8, taxLine("abroad", 50, 700, 0), taxLine("in", 800, 0, 200), taxLine("vat", -100, 10, -22))
	checkReturnPromise(t, list, 0, 12)
}

func TestReturnOfNothing(t *testing.T) {
	checkReturn(t, nil, 0, 9)
	checkReturn(t, []impl.Filed{}, 0, 9)
	checkReturn(t, []impl.Filed{soldOf(5), boughtOf(5), {}}, 0, 9)
	checkReturn(t, make([]impl.Filed, impl.MaxFiled), 0, 9)
	checkReturn(t, handFiled(), 10, 20)
	checkReturn(t, handFiled(), -5, 2)
	checkReturn(t, handFiled(), 4, 4)
	for from := -2; from <= 12; from++ {
		for to := -2; to < from; to++ {
			checkReturn(t, handFiled(), from, to)
		}
	}
	checkReturn(t, handFiled(), math.MaxInt, math.MinInt)
}

func TestReturnByTheDay(t *testing.T) {
	for _, day := range append([]int{0, 5, impl.MaxDay}, noDays...) {
		list := []impl.Filed{soldOf(day, plainPart("a", 10, 2)), boughtOf(day, plainPart("a", 5, 1))}
		line := taxLine("a", 10, 5, 1)
		checkReturn(t, list, day, day, line)
		checkReturn(t, list, math.MinInt, day, line)
		checkReturn(t, list, day, math.MaxInt, line)
		checkReturn(t, list, math.MinInt, math.MaxInt, line)
		if day > math.MinInt {
			checkReturn(t, list, day-1, day, line)
			checkReturn(t, list, math.MinInt, day-1)
		}
		if day < math.MaxInt {
			checkReturn(t, list, day, day+1, line)
			checkReturn(t, list, day+1, math.MaxInt)
		}
	}
	for from := -1; from <= 11; from++ {
		for to := -1; to <= 11; to++ {
			returnAsWanted(t, handFiled(), from, to)
		}
	}
}

// Its Base counts on both sides, its Tax on neither; every other kind is as good as a plain one, also one that is none.
func TestReturnOfKinds(t *testing.T) {
	for _, kind := range append([]int{impl.TaxPlain, impl.TaxOver, impl.TaxWithin, impl.TaxReverse}, noTaxKinds...) {
		due := 20
		if kind == impl.TaxReverse {
			due = 0
		}
		part := partOf("a", kind, 100, 20)
		checkReturn(t, []impl.Filed{soldOf(5, part)}, 5, 5, taxLine("a", 100, 0, due))
		checkReturn(t, []impl.Filed{boughtOf(5, part)}, 5, 5, taxLine("a", 0, 100, -due))
		checkReturn(t, []impl.Filed{boughtOf(5, part), soldOf(5, part)}, 5, 5, taxLine("a", 100, 100, 0))
		checkReturn(t, []impl.Filed{soldOf(5, part, plainPart("a", 1, 3), part)}, 5, 5, taxLine("a", 201, 0, 2*due+3))
		checkReturn(t, []impl.Filed{boughtOf(5, part, part), soldOf(5, plainPart("a", 1, 3))}, 5, 5, taxLine("a", 1, 200, 3-2*due))
	}
	checkReturn(t, []impl.Filed{boughtOf(5, reversePart("a", 100, 20), plainPart("a", 10, 2))}, 5, 5, taxLine("a", 0, 110, -2))
}

// Codes are told in the order of their bytes, whether or not they are names.
func TestReturnInOrder(t *testing.T) {
	codes := []string{"", "\x00", " ", "-", "10", "9", "A", "B", "Z", "_", "a", "a b", "a-", "a.", "aa", "b", "\x7f", "é", "\xff", "\xff\x00"}
	for turn := range codes {
		list, want := []impl.Filed{}, []impl.TaxLine{}
		for i := range codes {
			code := codes[(i*7+turn)%len(codes)]
			list = append(list, soldOf(i, plainPart(code, len(code)+1, 1)))
		}
		for _, code := range codes {
			want = append(want, taxLine(code, len(code)+1, 0, 1))
		}
		checkReturn(t, list, 0, 99, want...)
	}
	for _, code := range noNames {
		checkReturn(t, []impl.Filed{soldOf(1, plainPart(code, 3, 1))}, 0, 2, taxLine(code, 3, 0, 1))
	}
	long := strings.Repeat("x", 100000)
	checkReturn(t, []impl.Filed{soldOf(1, plainPart(long+"b", 3, 1), plainPart(long, 4, 2))}, 0, 2, taxLine(long, 4, 0, 2), taxLine(long+"b", 3, 0, 1))
}

// A Code stands in a part, so it is told, whatever its sums are.
func TestReturnOfSumsOf0(t *testing.T) {
	checkReturn(t, []impl.Filed{soldOf(5, plainPart("a", 0, 0))}, 5, 5, taxLine("a", 0, 0, 0))
	checkReturn(t, []impl.Filed{boughtOf(5, plainPart("", 0, 0))}, 5, 5, taxLine("", 0, 0, 0))
	checkReturn(t, []impl.Filed{boughtOf(5, reversePart("a", 0, 9))}, 5, 5, taxLine("a", 0, 0, 0))
	checkReturn(t, []impl.Filed{soldOf(5, plainPart("a", 7, 3), plainPart("a", -7, -3))}, 5, 5, taxLine("a", 0, 0, 0))
	checkReturn(t, []impl.Filed{boughtOf(5, plainPart("b", 1, 1)), soldOf(6, plainPart("a", 7, 3)), soldOf(7, plainPart("a", -7, -3))}, 5, 7, taxLine("a", 0, 0, 0), taxLine("b", 0, 1, -1))
	checkReturn(t, []impl.Filed{{Parts: []impl.TaxPart{{}}}}, 0, 0, impl.TaxLine{})
}

func TestHowManyMayBeFiled(t *testing.T) {
	for _, sign := range []int{1, -1} {
		most := sign * impl.MaxMoney
		parts := slices.Repeat([]impl.TaxPart{plainPart("a", most, most)}, impl.MaxTaxCodes)
		all := impl.MaxFiled * impl.MaxTaxCodes * most
		sold := slices.Repeat([]impl.Filed{soldOf(5, parts...)}, impl.MaxFiled)
		bought := slices.Repeat([]impl.Filed{boughtOf(5, parts...)}, impl.MaxFiled)
		checkReturn(t, sold, 0, 9, taxLine("a", all, 0, all))
		checkReturn(t, bought, 0, 9, taxLine("a", 0, all, -all))
		checkReturn(t, sold[1:], 0, 9, taxLine("a", all/200*199, 0, all/200*199))
		checkReturn(t, append(slices.Clone(sold), soldOf(5)), 0, 9)
		checkReturn(t, append(slices.Clone(sold), boughtOf(50)), 0, 9)
		checkReturn(t, append(slices.Clone(sold), bought...), 0, 9)
	}
	checkReturn(t, slices.Repeat(handFiled(), 100000), 0, 9)
	different := []impl.Filed{}
	for i := range impl.MaxFiled {
		different = append(different, impl.Filed{Day: i, Out: i%2 == 0})
		for k := range impl.MaxTaxCodes {
			different[i].Parts = append(different[i].Parts, plainPart(strings.Repeat("x", i*impl.MaxTaxCodes+k), i, k))
		}
	}
	if got := returnAsWanted(t, different, 0, impl.MaxFiled-1); got != impl.MaxFiled*impl.MaxTaxCodes {
		t.Errorf("%d codes told", got)
	}
}

// What is wrong counts wherever it stands, also in a Filed whose Day lies outside.
func refuseFiled(t *testing.T, wrong impl.Filed) {
	t.Helper()
	for _, day := range []int{5, 4, 1, 0, -7, 20} {
		wrong.Day = day
		for _, out := range []bool{true, false} {
			wrong.Out = out
			checkReturn(t, []impl.Filed{wrong}, 1, 5)
			checkReturn(t, append(handFiled(), wrong), 1, 5)
			checkReturn(t, append([]impl.Filed{wrong}, handFiled()...), 1, 5)
			checkReturn(t, append([]impl.Filed{wrong}, handFiled()...), 6, 5)
		}
	}
}

func TestReturnOfWrongParts(t *testing.T) {
	for count := range impl.MaxTaxCodes + 1 {
		list := []impl.Filed{soldOf(5, slices.Repeat([]impl.TaxPart{plainPart("a", 10, 2)}, count)...)}
		if got := returnAsWanted(t, list, 1, 9); got != min(1, count) {
			t.Errorf("%d parts: %d lines", count, got)
		}
	}
	for _, count := range []int{impl.MaxTaxCodes + 1, impl.MaxTaxCodes + 2, 100000} {
		refuseFiled(t, impl.Filed{Parts: slices.Repeat([]impl.TaxPart{plainPart("a", 10, 2)}, count)})
		refuseFiled(t, impl.Filed{Parts: make([]impl.TaxPart, count)})
	}
	for _, no := range noAmounts {
		for kind := range 6 {
			refuseFiled(t, impl.Filed{Parts: []impl.TaxPart{partOf("a", kind, no, 2)}})
			refuseFiled(t, impl.Filed{Parts: []impl.TaxPart{partOf("a", kind, 10, no)}})
		}
		refuseFiled(t, impl.Filed{Parts: []impl.TaxPart{plainPart("a", no, no)}})
		last := slices.Repeat([]impl.TaxPart{plainPart("a", 10, 2)}, impl.MaxTaxCodes)
		last[impl.MaxTaxCodes-1].Tax = no
		refuseFiled(t, impl.Filed{Parts: last})
		last[impl.MaxTaxCodes-1] = plainPart("b", no, 0)
		refuseFiled(t, impl.Filed{Parts: last})
	}
	for _, a := range []int{impl.MaxMoney, -impl.MaxMoney} {
		checkReturn(t, []impl.Filed{soldOf(5, plainPart("a", a, -a))}, 5, 5, taxLine("a", a, 0, -a))
		checkReturn(t, []impl.Filed{boughtOf(5, plainPart("a", a, -a))}, 5, 5, taxLine("a", 0, a, a))
	}
}

func someFiled(chance *rand.Rand) []impl.Filed {
	list := []impl.Filed{}
	for range chance.Intn(12) {
		f := impl.Filed{Day: chance.Intn(12) - 1, Out: chance.Intn(2) == 0}
		for range chance.Intn(impl.MaxTaxCodes + 1) {
			code := []string{"a", "aa", "A", "b", "", "z.z"}[chance.Intn(6)]
			f.Parts = append(f.Parts, partOf(code, chance.Intn(6), someCost(chance), someCost(chance)))
		}
		list = append(list, f)
	}
	return list
}

func TestSomeReturns(t *testing.T) {
	chance := rand.New(rand.NewSource(103))
	told, empty := 0, 0
	for range 4000 {
		list := someFiled(chance)
		from, to := chance.Intn(10), chance.Intn(12)
		if chance.Intn(8) == 0 && len(list) > 0 {
			f := &list[chance.Intn(len(list))]
			f.Parts = append(f.Parts, plainPart("a", impl.MaxMoney+chance.Intn(2), 1))
		}
		if returnAsWanted(t, list, from, to) > 0 {
			told++
		} else {
			empty++
		}
		checkReturnPromise(t, list, from, to)
	}
	if told < 500 || empty < 200 {
		t.Errorf("%d returns with lines, %d without", told, empty)
	}
}

// What bills tell is what a return takes: the taxes that are due are what the bills have above Net.
func TestReturnOfBills(t *testing.T) {
	chance := rand.New(rand.NewSource(104))
	names := []string{"v", "low", "v0", "o", "oo", "w", "ww", "w0", "r", "rr"}
	for range 500 {
		list, due := []impl.Filed{}, 0
		for range 1 + chance.Intn(20) {
			chance.Shuffle(len(names), func(i, k int) { names[i], names[k] = names[k], names[i] })
			bill, ok := impl.TaxOf(handTaxes(), names[:chance.Intn(impl.MaxTaxCodes+1)], nil, chance.Intn(2000001)-1000000, taxDay)
			if !ok {
				t.Fatal("a bill is refused")
			}
			list = append(list, impl.Filed{Day: taxDay, Out: chance.Intn(2) == 0, Parts: bill.Parts})
			if list[len(list)-1].Out {
				due += bill.Gross - bill.Net
			} else {
				due -= bill.Gross - bill.Net
			}
		}
		got := 0
		for _, n := range impl.TaxReturn(list, taxDay, taxDay) {
			got += n.Due
		}
		if got != due {
			t.Errorf("TaxReturn of %v: together %d; want %d", list, got, due)
		}
	}
}

func copyFiled(list []impl.Filed) []impl.Filed {
	other := slices.Clone(list)
	for i, f := range list {
		other[i].Parts = slices.Clone(f.Parts)
	}
	return other
}

func sameFiled(a, b impl.Filed) bool {
	return a.Day == b.Day && a.Out == b.Out && slices.Equal(a.Parts, b.Parts)
}

// Behind each list stands more of it, which is neither read nor written.
func TestTaxReturnLeavesItsList(t *testing.T) {
	wide := []impl.TaxPart{plainPart("vat", 10, 2), plainPart("low", 20, 1), plainPart("behind", math.MaxInt, 1)}
	whole := append(handFiled(), boughtOf(5, wide[:2]...), soldOf(5, plainPart("behind", 1, math.MinInt)))
	kept, keptWide := copyFiled(whole), slices.Clone(wide)
	for _, days := range [][2]int{{0, 9}, {5, 5}, {6, 5}} {
		one := impl.TaxReturn(whole[:8], days[0], days[1])
		other := impl.TaxReturn(whole[:8], days[0], days[1])
		if (len(one) > 0) != (days[0] <= days[1]) {
			t.Errorf("TaxReturn of %v = %v", days, one)
		}
		for i := range one {
			one[i] = taxLine("spoilt", -99, -99, -99)
		}
		_ = append(one, taxLine("behind", -98, -98, -98))
		if len(one) != len(other) || slices.Contains(other, taxLine("spoilt", -99, -99, -99)) {
			t.Errorf("two answers of TaxReturn: %v, %v", one, other)
		}
		if !slices.EqualFunc(whole, kept, sameFiled) || !slices.Equal(wide, keptWide) {
			t.Fatal("TaxReturn wrote into what it was given")
		}
	}
	checkReturn(t, whole, 0, 9)
}
