package tests

import (
	"fmt"
	"math"
	"math/big"
	"math/rand"
	"slices"
	"strconv"
	"strings"
	"testing"

	"loop.example/g00040/impl"
)

const mostConvNumber = 10000
const mostWay = 4

var noConvNumbers = []int{math.MinInt, -mostConvNumber, -2, -1, 0, mostConvNumber + 1, mostConvNumber + 2, impl.MaxFactor, math.MaxInt}

// Each part of a text between commas, read into the fields of an element. A part that can't be read is the test's own mistake.
func readEach[T any](text string, fieldsOf func(element *T) []any) []T {
	list := []T{}
	for _, part := range strings.Split(text, ",") {
		var element T
		if _, err := fmt.Sscan(part, fieldsOf(&element)...); err != nil {
			panic("no such part: " + part)
		}
		list = append(list, element)
	}
	return list
}

// "box pc 12 1, pal box 10 1": From, To, Num and Den of each.
func convsOf(text string) []impl.Conv {
	return readEach(text, func(c *impl.Conv) []any { return []any{&c.From, &c.To, &c.Num, &c.Den} })
}

func isConvNumber(n int) bool { return n > 0 && n <= mostConvNumber }

func wantConvsOk(convs []impl.Conv) bool {
	for _, c := range convs {
		if !accountName.MatchString(c.From) || !accountName.MatchString(c.To) || c.From == c.To || !isConvNumber(c.Num) || !isConvNumber(c.Den) {
			return false
		}
	}
	return len(convs) <= impl.MaxConvs
}

// What the search finds first is, of the ways of the least length, the one whose places of Convs come first when they are compared place by place: so ways are tried in that order, with one Conv more each time.
func wayOf(convs []impl.Conv, from, to string, length int) ([]impl.Conv, bool) {
	if length == 0 {
		return nil, from == to
	}
	for _, c := range convs {
		switch from {
		case c.From:
		case c.To:
			c = impl.Conv{From: c.To, To: c.From, Num: c.Den, Den: c.Num}
		default:
			continue
		}
		if rest, found := wayOf(convs, c.To, to, length-1); found {
			return append([]impl.Conv{c}, rest...), true
		}
	}
	return nil, false
}

func wantQtyIn(convs []impl.Conv, qty int, from, to string) (int, bool) {
	if !wantConvsOk(convs) || !isQty(qty) || !accountName.MatchString(from) || !accountName.MatchString(to) {
		return 0, false
	}
	for length := range mostWay + 1 {
		way, found := wayOf(convs, from, to, length)
		if !found {
			continue
		}
		all := big.NewRat(int64(qty), 1)
		for _, c := range way {
			all.Mul(all, big.NewRat(int64(c.Num), int64(c.Den)))
		}
		if !all.IsInt() || all.Cmp(big.NewRat(impl.MaxQty, 1)) > 0 {
			return 0, false
		}
		return int(all.Num().Int64()), true
	}
	return 0, false
}

func checkQtyIn(t *testing.T, convs []impl.Conv, qty int, from, to string, want int) {
	t.Helper()
	got, ok := impl.QtyIn(convs, qty, from, to)
	if wanted, known := wantQtyIn(convs, qty, from, to); !ok || got != want || !known || wanted != want {
		t.Errorf("QtyIn(%v, %d, %q, %q) = %d, %v; want %d, true", convs[:min(8, len(convs))], qty, from, to, got, ok, want)
	}
}

func refuseQtyIn(t *testing.T, convs []impl.Conv, qty int, from, to string) {
	t.Helper()
	got, ok := impl.QtyIn(convs, qty, from, to)
	if _, known := wantQtyIn(convs, qty, from, to); ok || got != 0 || known {
		t.Errorf("QtyIn(%v, %d, %q, %q) = %d, %v; want 0, false", convs[:min(8, len(convs))], qty, from, to, got, ok)
	}
}

func askQtyIn(t *testing.T, convs []impl.Conv, qty int, from, to string) bool {
	t.Helper()
	want, known := wantQtyIn(convs, qty, from, to)
	if known {
		checkQtyIn(t, convs, qty, from, to, want)
	} else {
		refuseQtyIn(t, convs, qty, from, to)
	}
	return known
}

// P44: what one conversion tells is told back.
func checkThereAndBackIn(t *testing.T, num, den, qty int) bool {
	t.Helper()
	for _, convs := range [][]impl.Conv{{{From: "a", To: "b", Num: num, Den: den}}, {{From: "b", To: "a", Num: den, Den: num}}} {
		there, ok := impl.QtyIn(convs, qty, "a", "b")
		if whole := qty*num%den == 0 && qty*num/den <= impl.MaxQty; ok != whole || ok && there != qty*num/den || !ok && there != 0 {
			t.Errorf("QtyIn(%v, %d, a, b) = %d, %v", convs, qty, there, ok)
		}
		if !ok {
			return false
		}
		if back, ok := impl.QtyIn(convs, there, "b", "a"); !ok || back != qty {
			t.Errorf("QtyIn(%v, %d, b, a) = %d, %v; want %d, true", convs, there, back, ok, qty)
		}
	}
	return true
}

func TestQtyInByHand(t *testing.T) {
	convs := convsOf("box pc 12 1, pal box 10 1, kg g 1000 1, pc g 250 3")
	checkQtyIn(t, convs, 2, "box", "pc", 24)
	checkQtyIn(t, convs, 24, "pc", "box", 2)
	checkQtyIn(t, convs, 2, "pal", "pc", 240)
	checkQtyIn(t, convs, 240, "pc", "pal", 2)
	refuseQtyIn(t, convs, 241, "pc", "pal")
	refuseQtyIn(t, convs, 12, "pc", "pal")
	checkQtyIn(t, convs, 12, "pc", "kg", 1)
	checkQtyIn(t, convs, 1, "box", "kg", 1)
	checkQtyIn(t, convs, 3, "kg", "box", 3)
	checkQtyIn(t, convs, 7, "pal", "kg", 70)
	checkQtyIn(t, convs, 70, "kg", "pal", 7)
	checkQtyIn(t, convs, 6, "pc", "g", 500)
	refuseQtyIn(t, convs, 7, "pc", "g")
	checkQtyIn(t, convs, 250, "g", "pc", 3)
}

func TestTheSameUnitTwice(t *testing.T) {
	lists := [][]impl.Conv{nil, {}, convsOf("a b 2 1"), convsOf("b a 2 1"), convsOf("c d 2 1"), convsOf("a b 2 1, b a 3 1, a c 5 1, c a 7 1")}
	for _, convs := range lists {
		for _, qty := range []int{0, 1, 7, impl.MaxQty - 1, impl.MaxQty} {
			checkQtyIn(t, convs, qty, "a", "a", qty)
			checkQtyIn(t, convs, qty, "zz", "zz", qty)
		}
		for _, qty := range noQtys {
			refuseQtyIn(t, convs, qty, "a", "a")
		}
		for _, unit := range noNames {
			refuseQtyIn(t, convs, 5, unit, unit)
		}
	}
	for _, wrong := range []impl.Conv{{}, {From: "a", To: "a", Num: 1, Den: 1}, {From: "a", To: "b", Num: 0, Den: 1}} {
		refuseQtyIn(t, []impl.Conv{wrong}, 5, "a", "a")
		refuseQtyIn(t, append(convsOf("a b 2 1"), wrong), 5, "z", "z")
	}
}

func TestOneConvThereAndBack(t *testing.T) {
	whole, not := 0, 0
	numbers := []int{1, 2, 3, 4, 6, 7, 12, 100, 999, 1000, 9999, mostConvNumber}
	for _, num := range numbers {
		for _, den := range numbers {
			for _, qty := range []int{0, 1, 2, 3, 5, 6, 12, 99, 100, 1000, 9999, mostConvNumber, 83916, 999999, impl.MaxQty} {
				if checkThereAndBackIn(t, num, den, qty) {
					whole++
				} else {
					not++
				}
			}
		}
	}
	for num := 1; num <= 24; num++ {
		for den := 1; den <= 24; den++ {
			for qty := range 49 {
				checkThereAndBackIn(t, num, den, qty)
				checkThereAndBackIn(t, num, den, impl.MaxQty-qty)
			}
		}
	}
	if whole < 500 || not < 500 {
		t.Errorf("%d whole, %d not", whole, not)
	}
}

func TestSomeConvsThereAndBack(t *testing.T) {
	chance := rand.New(rand.NewSource(147))
	whole := 0
	for range 20000 {
		num, den := 1+chance.Intn(mostConvNumber), 1+chance.Intn(mostConvNumber)
		if checkThereAndBackIn(t, num, den, den*chance.Intn(1+impl.MaxQty/den)) {
			whole++
		}
		checkThereAndBackIn(t, num, den, chance.Intn(impl.MaxQty+1))
	}
	if whole < 5000 {
		t.Errorf("%d whole", whole)
	}
}

// A line of units u0, u1 and so on: every other Conv is written the other way round.
func lineOfUnits(count, num, den int) []impl.Conv {
	list := make([]impl.Conv, count)
	for i := range list {
		from, to := "u"+strconv.Itoa(i), "u"+strconv.Itoa(i+1)
		list[i] = impl.Conv{From: from, To: to, Num: num, Den: den}
		if i%2 == 1 {
			list[i] = impl.Conv{From: to, To: from, Num: den, Den: num}
		}
	}
	return list
}

func TestHowLongAWayMayBe(t *testing.T) {
	for _, count := range []int{1, 2, 3, 4, 5, 6, 9, impl.MaxConvs} {
		for _, turned := range []bool{false, true} {
			convs := lineOfUnits(count, 2, 1)
			if turned {
				slices.Reverse(convs)
			}
			for i := range count + 1 {
				for k := range count + 1 {
					from, to := "u"+strconv.Itoa(i), "u"+strconv.Itoa(k)
					length := max(i-k, k-i)
					switch {
					case length > mostWay:
						refuseQtyIn(t, convs, 0, from, to)
						refuseQtyIn(t, convs, 32, from, to)
						refuseQtyIn(t, convs, 1024, from, to)
					case i <= k:
						checkQtyIn(t, convs, 3, from, to, 3<<length)
						checkQtyIn(t, convs, 0, from, to, 0)
					default:
						checkQtyIn(t, convs, 3<<length, from, to, 3)
						refuseQtyIn(t, convs, 3<<length+1<<length/2, from, to)
					}
				}
			}
		}
	}
}

// The longest way that may be asked for, though a way of five Convs leads there too, and one of five where none of four does.
func TestWaysBesideLongerOnes(t *testing.T) {
	five := convsOf("a b 1 2, b c 1 2, c d 1 2, d e 1 2, e z 1 2")
	refuseQtyIn(t, five, 32, "a", "z")
	refuseQtyIn(t, five, 32, "z", "a")
	refuseQtyIn(t, five, 0, "a", "z")
	checkQtyIn(t, five, 32, "a", "e", 2)
	checkQtyIn(t, five, 2, "z", "b", 32)
	both := append(slices.Clone(five), convsOf("a p 3 1, p q 1 1, q r 1 1, r z 1 1")...)
	checkQtyIn(t, both, 32, "a", "z", 96)
	refuseQtyIn(t, both, 32, "z", "a")
	checkQtyIn(t, both, 96, "z", "a", 32)
	slices.Reverse(both)
	checkQtyIn(t, both, 32, "a", "z", 96)
	// A unit in the middle that is reached by fewer Convs makes the way short enough.
	checkQtyIn(t, append(slices.Clone(five), convsOf("a c 5 1")...), 8, "a", "z", 5)
	checkQtyIn(t, append(slices.Clone(five), convsOf("z c 5 1")...), 60, "a", "z", 3)
}

func TestAShorterWayThatIsNotWhole(t *testing.T) {
	refuseQtyIn(t, convsOf("a b 2 1, b c 3 1, a c 1 7"), 5, "a", "c")
	checkQtyIn(t, convsOf("a b 2 1, b c 3 1, a c 1 7"), 14, "a", "c", 2)
	refuseQtyIn(t, convsOf("c b 1 3, b a 1 2, c a 7 1"), 5, "a", "c")
	refuseQtyIn(t, convsOf("a b 2 1, b c 3 1, c d 1 1, a x 1 2, x d 1 2"), 6, "a", "d")
	checkQtyIn(t, convsOf("a b 2 1, b c 3 1, c d 1 1, a x 1 2, x d 1 2"), 8, "a", "d", 2)
	// Nor does a longer way help where the shorter one tells too much.
	refuseQtyIn(t, convsOf("a b 1 1, b c 1 1, a c 10000 1"), 101, "a", "c")
	checkQtyIn(t, convsOf("a b 1 1, b c 1 1, a c 10000 1"), 100, "a", "c", impl.MaxQty)
}

func TestWhichConvIsFoundFirst(t *testing.T) {
	checkQtyIn(t, convsOf("a b 2 1, a b 3 1"), 6, "a", "b", 12)
	checkQtyIn(t, convsOf("a b 3 1, a b 2 1"), 6, "a", "b", 18)
	checkQtyIn(t, convsOf("b a 1 5, a b 3 1"), 6, "a", "b", 30)
	checkQtyIn(t, convsOf("a b 3 1, b a 1 5"), 6, "a", "b", 18)
	checkQtyIn(t, convsOf("a b 3 1, b a 1 5"), 30, "b", "a", 10)
	checkQtyIn(t, convsOf("b a 1 5, a b 3 1"), 30, "b", "a", 6)
	checkQtyIn(t, convsOf("x y 9 1, b a 1 5, y a 1 1, a b 3 1"), 6, "a", "b", 30)
	// The first one is taken whether it comes out whole or not.
	refuseQtyIn(t, convsOf("a b 1 4, a b 1 3"), 6, "a", "b")
	checkQtyIn(t, convsOf("a b 1 3, a b 1 4"), 6, "a", "b", 2)
}

func TestWhichOfTwoWaysIsFoundFirst(t *testing.T) {
	// By b or by c: b is reached first, wherever the Convs of its second step stand.
	checkQtyIn(t, convsOf("a b 2 1, a c 3 1, b d 5 1, c d 7 1"), 1, "a", "d", 10)
	checkQtyIn(t, convsOf("a b 2 1, a c 3 1, c d 7 1, b d 5 1"), 1, "a", "d", 10)
	checkQtyIn(t, convsOf("c d 7 1, a b 2 1, a c 3 1, b d 5 1"), 1, "a", "d", 10)
	checkQtyIn(t, convsOf("a c 3 1, a b 2 1, b d 5 1, c d 7 1"), 1, "a", "d", 21)
	checkQtyIn(t, convsOf("b d 5 1, c d 7 1, a c 3 1, a b 2 1"), 1, "a", "d", 21)
	// A Conv that is gone backwards comes in its order among those that are gone forwards.
	checkQtyIn(t, convsOf("b a 1 2, a c 3 1, c d 7 1, b d 5 1"), 1, "a", "d", 10)
	checkQtyIn(t, convsOf("a c 3 1, b a 1 2, c d 7 1, b d 5 1"), 1, "a", "d", 21)
	checkQtyIn(t, convsOf("d c 1 7, d b 1 5, b a 1 2, c a 1 3"), 1, "a", "d", 10)
	// From the other end it may be another way.
	checkQtyIn(t, convsOf("a b 2 1, a c 3 1, c d 7 1, b d 5 1"), 210, "d", "a", 10)
	checkQtyIn(t, convsOf("a b 2 1, a c 3 1, b d 5 1, c d 7 1"), 210, "d", "a", 21)
}

func TestTheOrderOfUnitsTwoStepsOn(t *testing.T) {
	// Of e and f, e is reached by b and f by c; b is reached ahead of c, though f's Conv stands ahead of e's.
	checkQtyIn(t, convsOf("c f 1 1, f z 11 1, a b 1 1, a c 1 1, b e 1 1, e z 13 1"), 1, "a", "z", 13)
	checkQtyIn(t, convsOf("c f 1 1, f z 11 1, a c 1 1, a b 1 1, b e 1 1, e z 13 1"), 1, "a", "z", 11)
	checkQtyIn(t, convsOf("z e 1 13, f z 11 1, a b 1 1, c a 1 1, e b 1 1, c f 1 1"), 1, "a", "z", 13)
	// A unit that two lead to has the way of the one that was reached first.
	checkQtyIn(t, convsOf("a b 2 1, a c 3 1, c e 1 1, b e 1 1, e z 1 1"), 1, "a", "z", 2)
	checkQtyIn(t, convsOf("a b 2 1, a c 3 1, c e 1 1, b e 1 1, e y 1 1, y z 1 1"), 1, "a", "z", 2)
	// So does one that three steps lead to.
	checkQtyIn(t, convsOf("g z 17 1, a b 1 1, a c 1 1, b d 1 1, c f 1 1, f g 1 1, d h 1 1, h z 19 1"), 1, "a", "z", 19)
	checkQtyIn(t, convsOf("g z 17 1, a c 1 1, a b 1 1, b d 1 1, c f 1 1, f g 1 1, d h 1 1, h z 19 1"), 1, "a", "z", 17)
}

func TestNamesOfConvs(t *testing.T) {
	right := convsOf("a b 2 1, c d 2 1")
	for _, name := range noNames {
		for at := range 3 {
			for _, wrong := range []impl.Conv{{From: name, To: "x", Num: 1, Den: 1}, {From: "x", To: name, Num: 1, Den: 1}, {From: name, To: name, Num: 1, Den: 1}} {
				refuseQtyIn(t, slices.Insert(slices.Clone(right), at, wrong), 1, "a", "b")
			}
		}
		refuseQtyIn(t, right, 1, name, "b")
		refuseQtyIn(t, right, 1, "a", name)
		refuseQtyIn(t, right, 0, name, name)
	}
	for _, name := range []string{"A", "-", "_", ".", "0", "ab", strings.Repeat("x", impl.MaxName)} {
		checkQtyIn(t, append(slices.Clone(right), impl.Conv{From: "b", To: name, Num: 3, Den: 1}), 1, "a", name, 6)
		checkQtyIn(t, append(slices.Clone(right), impl.Conv{From: name, To: "b", Num: 1, Den: 3}), 1, "a", name, 6)
		for at := range 3 {
			refuseQtyIn(t, slices.Insert(slices.Clone(right), at, impl.Conv{From: name, To: name, Num: 1, Den: 1}), 1, "a", "b")
		}
	}
}

func TestNumbersOfConvs(t *testing.T) {
	with := func(num, den int) []impl.Conv { return []impl.Conv{{From: "a", To: "b", Num: num, Den: den}} }
	checkQtyIn(t, with(1, 1), 5, "a", "b", 5)
	checkQtyIn(t, with(mostConvNumber, 1), 5, "a", "b", 50000)
	checkQtyIn(t, with(1, mostConvNumber), 50000, "a", "b", 5)
	checkQtyIn(t, with(mostConvNumber, mostConvNumber), 7, "a", "b", 7)
	checkQtyIn(t, with(mostConvNumber-1, mostConvNumber), mostConvNumber, "a", "b", mostConvNumber-1)
	for _, n := range noConvNumbers {
		for _, convs := range [][]impl.Conv{with(n, 1), with(1, n), with(n, n), append(convsOf("a b 1 1"), with(n, 1)...), append(with(1, n), convsOf("a b 1 1")...)} {
			refuseQtyIn(t, convs, 0, "a", "b")
			refuseQtyIn(t, convs, mostConvNumber+1, "a", "b")
			refuseQtyIn(t, convs, 5, "a", "a")
			refuseQtyIn(t, convs, 5, "x", "x")
		}
	}
}

func TestHowManyConvsThereMayBe(t *testing.T) {
	for _, count := range []int{1, 2, impl.MaxConvs - 1, impl.MaxConvs} {
		convs := slices.Repeat(convsOf("x y 5 1"), count)
		convs[count-1] = convsOf("a b 2 1")[0]
		checkQtyIn(t, convs, 3, "a", "b", 6)
		checkQtyIn(t, convs, 6, "b", "a", 3)
		for at := range convs {
			wrong := slices.Clone(convs)
			wrong[at].Den = 0
			refuseQtyIn(t, wrong, 3, "a", "b")
		}
	}
	for _, count := range []int{impl.MaxConvs + 1, impl.MaxConvs + 2, 100000} {
		for _, convs := range [][]impl.Conv{slices.Repeat(convsOf("a b 2 1"), count), slices.Repeat(convsOf("b a 1 2"), count)} {
			refuseQtyIn(t, convs, 3, "a", "b")
			refuseQtyIn(t, convs, 3, "a", "a")
			refuseQtyIn(t, convs, 0, "x", "x")
		}
	}
}

// One unit in the midst of all others, and all of them in a ring: every unit is still found once.
func TestManyUnits(t *testing.T) {
	star, ring := []impl.Conv{}, []impl.Conv{}
	for i := range impl.MaxConvs {
		star = append(star, impl.Conv{From: "mid", To: "u" + strconv.Itoa(i), Num: i + 1, Den: 1})
		ring = append(ring, impl.Conv{From: "u" + strconv.Itoa(i), To: "u" + strconv.Itoa((i+1)%impl.MaxConvs), Num: 2, Den: 1})
	}
	for i := range impl.MaxConvs {
		u := "u" + strconv.Itoa(i)
		checkQtyIn(t, star, 7, "mid", u, 7*(i+1))
		checkQtyIn(t, star, 7*(i+1), u, "mid", 7)
		checkQtyIn(t, star, 840*(i+1), u, "u0", 840)
		refuseQtyIn(t, star, 840*(i+1), u, "u40")
		refuseQtyIn(t, star, 840, "other", u)
		switch {
		case i <= mostWay:
			checkQtyIn(t, ring, 3, "u0", u, 3<<i)
		case i >= impl.MaxConvs-mostWay:
			checkQtyIn(t, ring, 48, "u0", u, 48>>(impl.MaxConvs-i))
		default:
			refuseQtyIn(t, ring, 1<<16, "u0", u)
		}
	}
}

func TestWhatAWayMayTell(t *testing.T) {
	convs := convsOf("a b 2 1, b c 5 1, c d 1 3")
	for _, qty := range []int{0, 3, 300000} {
		checkQtyIn(t, convs, qty, "a", "d", qty/3*10)
	}
	checkQtyIn(t, convs, impl.MaxQty/2, "a", "b", impl.MaxQty)
	refuseQtyIn(t, convs, impl.MaxQty/2+1, "a", "b")
	refuseQtyIn(t, convs, impl.MaxQty, "a", "b")
	checkQtyIn(t, convs, impl.MaxQty, "b", "a", impl.MaxQty/2)
	refuseQtyIn(t, convs, impl.MaxQty, "c", "d")
	checkQtyIn(t, convs, impl.MaxQty-1, "c", "d", 333333)
	refuseQtyIn(t, convs, impl.MaxQty-2, "c", "d")
	for _, qty := range noQtys {
		refuseQtyIn(t, convs, qty, "a", "b")
		refuseQtyIn(t, convs, qty, "b", "a")
		refuseQtyIn(t, convs, qty, "a", "d")
	}
	// What is not whole on the way may be whole at its end, and what is too much on the way no more so.
	checkQtyIn(t, convsOf("a b 1 3, b c 3 1"), 5, "a", "c", 5)
	checkQtyIn(t, convsOf("a b 1 3, b c 1 5, c d 1 7, d e 105 1"), 11, "a", "e", 11)
	checkQtyIn(t, convsOf("a b 10000 1, b c 1 10000"), impl.MaxQty, "a", "c", impl.MaxQty)
	checkQtyIn(t, convsOf("a b 10000 1, b c 10000 1, c d 1 10000, d e 1 10000"), impl.MaxQty, "a", "e", impl.MaxQty)
	checkQtyIn(t, convsOf("a b 10000 1, b c 10000 1, c d 1 10000, d e 1 9999"), 9999, "a", "e", mostConvNumber)
	refuseQtyIn(t, convsOf("a b 10000 1, b c 10000 1, c d 1 10000, d e 1 9999"), impl.MaxQty, "a", "e")
}

// Four Convs of the greatest numbers: what is multiplied on the way is far past an int.
func TestTheGreatestWays(t *testing.T) {
	up, down := lineOfUnits(mostWay, mostConvNumber, 1), lineOfUnits(mostWay, 1, mostConvNumber)
	for _, qty := range []int{1, 2, 3, 1000, 1844, 1845, 184467, 999999, impl.MaxQty} {
		refuseQtyIn(t, up, qty, "u0", "u4")
		refuseQtyIn(t, up, qty, "u4", "u0")
		refuseQtyIn(t, down, qty, "u0", "u4")
		refuseQtyIn(t, down, qty, "u4", "u0")
		checkQtyIn(t, lineOfUnits(mostWay, mostConvNumber, mostConvNumber), qty, "u0", "u4", qty)
	}
	checkQtyIn(t, up, 0, "u0", "u4", 0)
	checkQtyIn(t, up, 0, "u4", "u0", 0)
	checkQtyIn(t, down, 0, "u0", "u4", 0)
	checkQtyIn(t, down, 0, "u4", "u0", 0)
	for _, dens := range [][4]int{{8192, 8192, 8192, 8192}, {8192, 8192, 4096, 2}, {9999, 9999, 9999, 9999}, {9216, 7776, 1, 6561}, {1, 1, 1, 1}} {
		convs := lineOfUnits(mostWay, 1, 1)
		for i := range convs {
			convs[i].Num, convs[i].Den = 8192, dens[i]
			if i%2 == 1 {
				convs[i].Num, convs[i].Den = dens[i], 8192
			}
		}
		for _, qty := range []int{1, 2, 81, 6561, 8192, 59049, 262144, 524288, 531441, 999999, impl.MaxQty} {
			askQtyIn(t, convs, qty, "u0", "u4")
			askQtyIn(t, convs, qty, "u4", "u0")
		}
	}
}

func TestUnitsThatNoConvNames(t *testing.T) {
	convs := convsOf("a b 2 1, b c 2 1, x y 2 1")
	for _, pair := range [][2]string{{"a", "z"}, {"z", "a"}, {"z", "w"}, {"a", "x"}, {"y", "c"}, {"a", "A"}, {"a", "aa"}, {"aa", "b"}, {"B", "c"}} {
		refuseQtyIn(t, convs, 0, pair[0], pair[1])
		refuseQtyIn(t, convs, 8, pair[0], pair[1])
		refuseQtyIn(t, nil, 8, pair[0], pair[1])
		refuseQtyIn(t, []impl.Conv{}, 0, pair[0], pair[1])
	}
}

func someConvs(chance *rand.Rand, count, units, most int) []impl.Conv {
	list := make([]impl.Conv, count)
	for i := range list {
		from := chance.Intn(units)
		to := (from + 1 + chance.Intn(units-1)) % units
		list[i] = impl.Conv{From: string(rune('a' + from)), To: string(rune('a' + to)), Num: 1 + chance.Intn(most), Den: 1 + chance.Intn(most)}
	}
	return list
}

func TestSomeWays(t *testing.T) {
	chance := rand.New(rand.NewSource(148))
	told, none := 0, 0
	for range 30000 {
		units := 2 + chance.Intn(9)
		convs := someConvs(chance, chance.Intn(12), units, []int{1, 3, 12, 100, mostConvNumber}[chance.Intn(5)])
		if chance.Intn(12) == 0 && len(convs) > 0 {
			c := &convs[chance.Intn(len(convs))]
			switch chance.Intn(3) {
			case 0:
				c.Num = noConvNumbers[chance.Intn(len(noConvNumbers))]
			case 1:
				c.To = c.From
			case 2:
				c.From = noNames[chance.Intn(len(noNames))]
			}
		}
		qty := []int{0, 1, 12, 720, 840, 1 << 16, 1000, impl.MaxQty, chance.Intn(impl.MaxQty + 1)}[chance.Intn(9)]
		from, to := string(rune('a'+chance.Intn(units))), string(rune('a'+chance.Intn(units)))
		if askQtyIn(t, convs, qty, from, to) {
			told++
		} else {
			none++
		}
	}
	if told < 8000 || none < 8000 {
		t.Errorf("%d told, %d not", told, none)
	}
}

// Where the Convs are a tree there is one way, so that what it tells is told back along it.
func TestSomeTreesOfUnits(t *testing.T) {
	chance := rand.New(rand.NewSource(149))
	told := 0
	for range 4000 {
		units := 2 + chance.Intn(8)
		convs := []impl.Conv{}
		for i := 1; i < units; i++ {
			c := impl.Conv{From: string(rune('a' + i)), To: string(rune('a' + chance.Intn(i))), Num: 1 + chance.Intn(6), Den: 1 + chance.Intn(6)}
			if chance.Intn(2) == 0 {
				c.From, c.To = c.To, c.From
			}
			convs = append(convs, c)
		}
		chance.Shuffle(len(convs), func(i, k int) { convs[i], convs[k] = convs[k], convs[i] })
		from, to := string(rune('a'+chance.Intn(units))), string(rune('a'+chance.Intn(units)))
		qty := 3600 * chance.Intn(50)
		if !askQtyIn(t, convs, qty, from, to) {
			continue
		}
		there, _ := impl.QtyIn(convs, qty, from, to)
		checkQtyIn(t, convs, there, to, from, qty)
		told++
	}
	if told < 2000 {
		t.Errorf("%d told", told)
	}
}

// Behind the Convs stands more, which is neither read nor written.
func TestQtyInLeavesItsConvs(t *testing.T) {
	convs := convsOf("a b 2 1, b c 3 1, c d 4 1, a d 9 1, a a 0 0")
	kept := slices.Clone(convs)
	for range 2 {
		checkQtyIn(t, convs[:3], 1, "a", "d", 24)
		checkQtyIn(t, convs[:4], 1, "a", "d", 9)
		refuseQtyIn(t, convs[:2], 1, "a", "d")
		refuseQtyIn(t, convs, 1, "a", "d")
		checkQtyIn(t, convs[:0], 1, "a", "a", 1)
	}
	if !slices.Equal(convs, kept) {
		t.Error("the Convs were written into")
	}
}
