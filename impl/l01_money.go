package impl

import (
	"cmp"
	"slices"
	"strconv"
	"strings"
)

const MaxMoney = 100000000000
const MaxFactor = 10000000
const MaxParts = 200
const MaxPlaces = 6
const MaxName = 20

const (
	Down = 1 + iota
	Up
	Half
	Even
	Floor
	Ceil
)

func isAmount(a int) bool { return -MaxMoney <= a && a <= MaxMoney }

func isFactor(n int) bool { return 0 <= n && n <= MaxFactor }

func isDivisor(n int) bool { return 1 <= n && n <= MaxFactor }

func isPlaces(n int) bool { return 0 <= n && n <= MaxPlaces }

// A cut is a quotient rounded towards 0, with all that a mode asks to tell whether it goes one further from 0.
type cut struct {
	whole int
	rest  int // without its sign
	den   int
	below bool // whole alone does not tell it: it is 0 between -1 and 1
}

func cutOf(n int, den int) cut {
	rest := n % den
	if rest < 0 {
		rest = -rest
	}
	return cut{whole: n / den, rest: rest, den: den, below: n < 0}
}

func (c cut) further() int {
	if c.below {
		return c.whole - 1
	}
	return c.whole + 1
}

func neverFurther(c cut) bool { return false }

func furtherAtRest(c cut) bool { return c.rest > 0 }

func furtherAtHalf(c cut) bool { return 2*c.rest >= c.den }

func furtherToEven(c cut) bool {
	if 2*c.rest == c.den {
		return c.whole%2 != 0
	}
	return furtherAtHalf(c)
}

func furtherBelow(c cut) bool { return c.below && c.rest > 0 }

func furtherAbove(c cut) bool { return !c.below && c.rest > 0 }

type rounding struct {
	mode    int
	further func(c cut) bool
}

func roundings() [6]rounding {
	return [6]rounding{
		{Down, neverFurther},
		{Up, furtherAtRest},
		{Half, furtherAtHalf},
		{Even, furtherToEven},
		{Floor, furtherBelow},
		{Ceil, furtherAbove},
	}
}

func roundingOf(mode int) (rounding, bool) {
	for _, r := range roundings() {
		if r.mode == mode {
			return r, true
		}
	}
	return rounding{}, false
}

func (r rounding) round(c cut) int {
	if r.further(c) {
		return c.further()
	}
	return c.whole
}

func amountOr0(a int) (int, bool) {
	if !isAmount(a) {
		return 0, false
	}
	return a, true
}

func MulDiv(a int, num int, den int, mode int) (int, bool) {
	r, known := roundingOf(mode)
	if !known || !isAmount(a) || !isFactor(num) || !isDivisor(den) {
		return 0, false
	}
	return amountOr0(r.round(cutOf(a*num, den)))
}

func RoundTo(a int, step int, mode int) (int, bool) {
	steps, ok := MulDiv(a, 1, step, mode)
	if !ok {
		return 0, false
	}
	return amountOr0(steps * step)
}

func sum(list ...int) int {
	all := 0
	for _, n := range list {
		all += n
	}
	return all
}

func sortBy[T any](list []T, compare func(a, b T) int) {
	slices.SortStableFunc(list, compare)
}

func weightsOk(weights []int) bool {
	if len(weights) > MaxParts {
		return false
	}
	for _, w := range weights {
		if !isFactor(w) {
			return false
		}
	}
	return sum(weights...) > 0
}

type restAt struct {
	rest  int
	place int
}

func compareRests(a, b restAt) int {
	return cmp.Or(cmp.Compare(b.rest, a.rest), cmp.Compare(a.place, b.place))
}

func Shares(total int, weights []int) []int {
	if !isAmount(total) || !weightsOk(weights) {
		return []int{}
	}
	all := sum(weights...)
	shares := make([]int, len(weights))
	rests := make([]restAt, len(weights))
	for i, w := range weights {
		c := cutOf(total*w, all)
		shares[i] = c.whole
		rests[i] = restAt{rest: c.rest, place: i}
	}
	sortBy(rests, compareRests)
	giveLeft(shares, rests, total-sum(shares...))
	return shares
}

// No place is looked for past the rests, nor one with a rest of 0 (so a weight of 0 gets nothing): the rests are together left times their divisor, and each is less than that divisor.
func giveLeft(shares []int, rests []restAt, left int) {
	one := 1
	if left < 0 {
		one = -1
	}
	for _, r := range rests[:left*one] {
		shares[r.place] += one
	}
}

func isDigit(b byte) bool { return '0' <= b && b <= '9' }

func isNameByte(b byte) bool {
	switch {
	case 'a' <= b && b <= 'z', 'A' <= b && b <= 'Z', isDigit(b):
		return true
	case b == '-', b == '_', b == '.':
		return true
	}
	return false
}

func NameOk(s string) bool {
	if len(s) < 1 || len(s) > MaxName {
		return false
	}
	for i := range len(s) {
		if !isNameByte(s[i]) {
			return false
		}
	}
	return true
}

func ShowMoney(a int, places int) string {
	if !isAmount(a) || !isPlaces(places) {
		return ""
	}
	sign := ""
	if a < 0 {
		sign, a = "-", -a
	}
	digits := strconv.Itoa(a)
	if missing := places + 1 - len(digits); missing > 0 {
		digits = strings.Repeat("0", missing) + digits
	}
	if places == 0 {
		return sign + digits
	}
	point := len(digits) - places
	return sign + digits[:point] + "." + digits[point:]
}

func allDigits(s string) bool {
	for i := range len(s) {
		if !isDigit(s[i]) {
			return false
		}
	}
	return len(s) > 0
}

func wholeOk(s string) bool {
	return allDigits(s) && (s == "0" || s[0] != '0')
}

// It stops at the first number that is too great: a text may have more digits than an int holds.
func readDigits(digits string) (int, bool) {
	a := 0
	for i := range len(digits) {
		a = 10*a + int(digits[i]-'0')
		if !isAmount(a) {
			return 0, false
		}
	}
	return a, true
}

func ReadMoney(s string, places int) (int, bool) {
	if !isPlaces(places) {
		return 0, false
	}
	text, below := strings.CutPrefix(s, "-")
	whole, behind, pointed := strings.Cut(text, ".")
	if !wholeOk(whole) || len(behind) > places || pointed && !allDigits(behind) {
		return 0, false
	}
	a, ok := readDigits(whole + behind + strings.Repeat("0", places-len(behind)))
	if !ok || below && a == 0 {
		return 0, false
	}
	if below {
		a = -a
	}
	return a, true
}
