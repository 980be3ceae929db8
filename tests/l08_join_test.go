package tests

import (
	"math"
	"math/rand"
	"slices"
	"sync"
	"testing"

	"loop.example/g00040/impl"
)

func wantLinkOk(g impl.Group, l impl.Link) bool {
	leaves := leavesOf(g.Chart)
	return placeAmong(l.From, len(g.Members)) && placeAmong(l.To, len(g.Members)) && l.From != l.To &&
		slices.Contains(leaves, l.Account) && slices.Contains(leaves, l.Against) && amount(l.Amount)
}

// From the end on, the first leaf of Equity that may be it; -1 when there is none.
func wantBearer(g impl.Group) int {
	for at := len(g.Chart) - 1; at >= 0; at-- {
		if at != g.Minor && at != g.Shift && isLeafOfKind(g.Chart, at, impl.Equity) {
			return at
		}
	}
	return -1
}

// A trial is even, so what a member is worth is what it has and owes, the other way.
func wantNet(g impl.Group, trial []int) int {
	net := 0
	for at, a := range g.Chart {
		if a.Kind == impl.Asset || a.Kind == impl.Liability {
			net -= trial[at]
		}
	}
	return net
}

func wantJoin(g impl.Group, list, mean []impl.Rate, day int, links []impl.Link) ([]int, bool) {
	if !wantGroupOk(g) || len(links) > impl.MaxLinks || wantBearer(g) == -1 {
		return nil, false
	}
	out := make([]int, len(g.Chart))
	for _, l := range links {
		if !wantLinkOk(g, l) {
			return nil, false
		}
		out[l.Account] -= l.Amount
		out[l.Against] += l.Amount
	}
	for at := range g.Members {
		trial, ok := wantTranslate(g, at, list, mean, day)
		if !ok || at > 0 && !amount(wantNet(g, trial)) {
			return nil, false
		}
		for i, a := range trial {
			out[i] += a
		}
		if at > 0 {
			part := wantMulDiv(wantNet(g, trial), 10000-wantHeldOf(g, at), 10000, impl.Half)
			out[g.Minor] += part
			out[wantBearer(g)] -= part
		}
	}
	return out, true
}

// P22, the other parts: what is joined is together 0; a group of one, which can have no links, is its translated trial.
func checkJoinPromise(t *testing.T, g impl.Group, list, mean []impl.Rate, day int, got []int) {
	t.Helper()
	if len(got) != len(g.Chart) || sumOf(got) != 0 {
		t.Errorf("Join(%v, %v, %v, %d) = %v: together %d", g.Members, list, mean, day, got, sumOf(got))
	}
	if len(g.Members) > 1 {
		return
	}
	if trial, ok := impl.Translate(g, 0, list, mean, day); !ok || !slices.Equal(got, trial) {
		t.Errorf("Join(%v, %v, %v, %d) = %v: translated it is %v", g.Members, list, mean, day, got, trial)
	}
	if g.Members[0].Cur == 0 && !slices.Equal(got, g.Members[0].Trial) {
		t.Errorf("Join(%v, %v, %v, %d) = %v: not its trial", g.Members, list, mean, day, got)
	}
}

func checkJoin(t *testing.T, g impl.Group, list, mean []impl.Rate, day int, links []impl.Link, want []int) {
	t.Helper()
	got, ok := impl.Join(g, list, mean, day, links)
	if !ok || !slices.Equal(got, want) {
		t.Errorf("Join(%v, %v, %v, %d, %v) = %v, %v; want %v, true", g.Members, list, mean, day, links, got, ok, want)
		return
	}
	checkJoinPromise(t, g, list, mean, day, got)
}

func refuseJoin(t *testing.T, g impl.Group, list, mean []impl.Rate, day int, links ...impl.Link) {
	t.Helper()
	if got, ok := impl.Join(g, list, mean, day, links); ok || len(got) != 0 {
		t.Errorf("Join(%v, %v, %v, %d, %v) = %v, %v; want nothing and false", g.Members, list, mean, day, links, got, ok)
	}
}

func joinAsWanted(t *testing.T, g impl.Group, list, mean []impl.Rate, day int, links ...impl.Link) bool {
	t.Helper()
	want, ok := wantJoin(g, list, mean, day, links)
	if ok {
		checkJoin(t, g, list, mean, day, links, want)
	} else {
		refuseJoin(t, g, list, mean, day, links...)
	}
	return ok
}

// All in the house's own, so no rates are needed.
func checkOwnJoin(t *testing.T, g impl.Group, links []impl.Link, want ...int) {
	t.Helper()
	checkJoin(t, g, nil, nil, 5, links, trialOf(want...))
}

func linkOf(from, to, account, against, a int) impl.Link {
	return impl.Link{From: from, To: to, Account: account, Against: against, Amount: a}
}

func TestJoinByHand(t *testing.T) {
	g := handGroup()
	want := trialOf(gCash, 1128, gDue, 150, gOwed, -365, gPaid, -700, gKept, 41, gMinor, -64, gShift, 20, gSales, -580, gWages, 250, gRent, 120)
	checkJoin(t, g, handRates(), meanRates(), 0, nil, want)
	checkJoin(t, g, handRates(), meanRates(), 9, []impl.Link{}, want)
	want = trialOf(gCash, 1128, gDue, 110, gOwed, -325, gPaid, -700, gKept, 41, gMinor, -64, gShift, 20, gSales, -575, gWages, 250, gRent, 115)
	checkJoin(t, g, handRates(), meanRates(), 0, []impl.Link{linkOf(0, 3, gDue, gOwed, 40), linkOf(1, 0, gRent, gSales, 5)}, want)
	for _, day := range []int{0, 9, 10, 19, 20, impl.MaxDay} {
		joinAsWanted(t, g, handRates(), meanRates(), day)
	}
}

func TestJoinAGroupOfOne(t *testing.T) {
	for _, pairs := range [][]int{{}, {gCash, 5, gPaid, -5}, {gCash, 5, gMinor, -3, gShift, -2}, {gSales, -impl.MaxMoney, gRent, impl.MaxMoney}} {
		checkOwnJoin(t, groupOf(houseOf(0, pairs...)), nil, pairs...)
		if !joinAsWanted(t, groupOf(houseOf(1, pairs...)), oneRate(1, 2), oneRate(1, 3), 5) {
			t.Errorf("%v is refused", pairs)
		}
	}
	g := groupOf(houseOf(1, gCash, 5, gPaid, -3, gSales, -2))
	checkJoin(t, g, oneRate(2, 1), oneRate(3, 1), 5, nil, trialOf(gCash, 10, gPaid, -6, gSales, -6, gShift, 2))
	refuseJoin(t, g, oneRate(2, 1), oneRate(3, 1), 5, linkOf(0, 0, gCash, gOwed, 1))
	refuseJoin(t, g, oneRate(2, 1), oneRate(3, 1), 5, linkOf(0, 1, gCash, gOwed, 1))
	rich := groupOf(houseOf(0, gCash, impl.MaxMoney, gDue, impl.MaxMoney, gPaid, -impl.MaxMoney, gKept, -impl.MaxMoney))
	checkJoin(t, rich, nil, nil, 5, nil, rich.Members[0].Trial)
}

// What belongs to others is reckoned with all that is held, through those that hold it, not with the Share alone.
func TestWhatBelongsToOthers(t *testing.T) {
	worth := []int{gCash, 1000, gPaid, -1000}
	house := houseOf(0, gCash, 7, gPaid, -7)
	checkOwnJoin(t, groupOf(house, memberOf(0, 10000, 0, worth...)), nil, gCash, 1007, gPaid, -1007)
	checkOwnJoin(t, groupOf(house, memberOf(0, 7500, 0, worth...)), nil, gCash, 1007, gPaid, -1007, gMinor, -250, gKept, 250)
	checkOwnJoin(t, groupOf(house, memberOf(0, 1, 0, worth...)), nil, gCash, 1007, gPaid, -1007, gMinor, -1000, gKept, 1000)
	checkOwnJoin(t, groupOf(house, memberOf(0, 6000, 0), memberOf(1, 5000, 0, worth...)), nil, gCash, 1007, gPaid, -1007, gMinor, -700, gKept, 700)
	checkOwnJoin(t, groupOf(house, memberOf(0, 6000, 0), memberOf(1, 10000, 0, worth...)), nil, gCash, 1007, gPaid, -1007, gMinor, -400, gKept, 400)
	checkOwnJoin(t, groupOf(house, memberOf(0, 6000, 0), memberOf(0, 5000, 0, worth...)), nil, gCash, 1007, gPaid, -1007, gMinor, -500, gKept, 500)
	nothing := groupOf(house, memberOf(0, 1, 0), memberOf(1, 1, 0, worth...))
	checkHeld(t, nothing, 10000, 1, 0)
	checkOwnJoin(t, nothing, nil, gCash, 1007, gPaid, -1007, gMinor, -1000, gKept, 1000)
	deep := groupOf(house, memberOf(0, 9000, 0, worth...), memberOf(1, 9000, 0, worth...), memberOf(2, 9000, 0, worth...))
	checkOwnJoin(t, deep, nil, gCash, 3007, gPaid, -3007, gMinor, -100-190-271, gKept, 561)
}

// Equity, incomes and expenses make the net, Minor and Shift among them; what is had and owed does not.
func TestWhatIsInANet(t *testing.T) {
	for _, place := range groupLeaves {
		for _, a := range []int{100, -100} {
			against := gCash
			if place == gCash {
				against = gOwed
			}
			part := a / 4
			if slices.Contains([]int{gCash, gDue, gOwed}, place) {
				part = 0
			}
			g := groupOf(houseOf(0), memberOf(0, 7500, 0, place, a, against, -a))
			checkOwnJoin(t, g, nil, place, a, against, -a, gMinor, part, gKept, -part)
			none := groupOf(houseOf(0), memberOf(0, 7500, 0, place, a, gPaid, -a))
			if part != 0 {
				checkOwnJoin(t, none, nil, place, a, gPaid, -a)
			}
		}
	}
}

// The net is that of the translated trial, with what was shifted.
func TestNetIsTranslated(t *testing.T) {
	g := groupOf(houseOf(0), memberOf(0, 5000, 1, gCash, 100, gSales, -100))
	checkJoin(t, g, oneRate(2, 1), oneRate(3, 1), 5, nil, trialOf(gCash, 200, gSales, -300, gShift, 100, gMinor, -100, gKept, 100))
	g.Members[0], g.Members[1] = houseOf(1, gCash, 100, gSales, -100), memberOf(0, 5000, 0)
	checkJoin(t, g, oneRate(2, 1), oneRate(3, 1), 5, nil, trialOf(gCash, 200, gSales, -300, gShift, 100))
}

// A half goes away from 0, of each member by itself.
func TestPartsAreRounded(t *testing.T) {
	for worth := -9; worth <= 9; worth++ {
		for _, share := range []int{1, 2500, 4999, 5000, 5001, 7500, 9999, 10000} {
			m := memberOf(0, share, 0, gCash, worth, gPaid, -worth)
			if !joinAsWanted(t, groupOf(houseOf(0), m, m, m), nil, nil, 5) {
				t.Errorf("%d with a share of %d is refused", worth, share)
			}
		}
	}
	half := memberOf(0, 5000, 0, gCash, 1, gPaid, -1)
	checkOwnJoin(t, groupOf(houseOf(0), half), nil, gCash, 1, gPaid, -1, gMinor, -1, gKept, 1)
	checkOwnJoin(t, groupOf(houseOf(0), half, half, half), nil, gCash, 3, gPaid, -3, gMinor, -3, gKept, 3)
	poor := memberOf(0, 5000, 0, gCash, -1, gPaid, 1)
	checkOwnJoin(t, groupOf(houseOf(0), poor, poor), nil, gCash, -2, gPaid, 2, gMinor, 2, gKept, -2)
	checkOwnJoin(t, groupOf(houseOf(0), memberOf(0, 5001, 0, gCash, 1, gPaid, -1)), nil, gCash, 1, gPaid, -1)
}

func TestLinksMove(t *testing.T) {
	g := groupOf(houseOf(0, gCash, 100, gPaid, -100), memberOf(0, 10000, 0, gCash, 50, gPaid, -50))
	checkOwnJoin(t, g, []impl.Link{linkOf(0, 1, gCash, gPaid, 30)}, gCash, 120, gPaid, -120)
	checkOwnJoin(t, g, []impl.Link{linkOf(1, 0, gCash, gPaid, 30)}, gCash, 120, gPaid, -120)
	checkOwnJoin(t, g, []impl.Link{linkOf(0, 1, gCash, gPaid, -30)}, gCash, 180, gPaid, -180)
	checkOwnJoin(t, g, []impl.Link{linkOf(0, 1, gCash, gPaid, 0)}, gCash, 150, gPaid, -150)
	checkOwnJoin(t, g, []impl.Link{linkOf(0, 1, gDue, gOwed, 7)}, gCash, 150, gPaid, -150, gDue, -7, gOwed, 7)
	checkOwnJoin(t, g, []impl.Link{linkOf(0, 1, gDue, gOwed, 7), linkOf(1, 0, gOwed, gDue, 7)}, gCash, 150, gPaid, -150)
	checkOwnJoin(t, g, []impl.Link{linkOf(0, 1, gDue, gOwed, 7), linkOf(0, 1, gDue, gOwed, 7)}, gCash, 150, gPaid, -150, gDue, -14, gOwed, 14)
	checkOwnJoin(t, g, []impl.Link{linkOf(0, 1, gMinor, gShift, 3)}, gCash, 150, gPaid, -150, gMinor, -3, gShift, 3)
	for _, place := range groupLeaves {
		checkOwnJoin(t, g, []impl.Link{linkOf(0, 1, place, place, 30)}, gCash, 150, gPaid, -150)
	}
}

// What belongs to others is reckoned ahead of the links: the translated trials alone tell it.
func TestLinksChangeNoNet(t *testing.T) {
	g := groupOf(houseOf(0), memberOf(0, 5000, 0, gCash, 100, gPaid, -100))
	checkOwnJoin(t, g, []impl.Link{linkOf(1, 0, gPaid, gOwed, 60), linkOf(0, 1, gKept, gSales, 1000)}, gCash, 100, gPaid, -160, gOwed, 60, gKept, -1000+50, gSales, 1000, gMinor, -50)
}

func TestHowManyLinksThereMayBe(t *testing.T) {
	g := groupOf(houseOf(0), memberOf(0, 10000, 0))
	for _, count := range []int{0, 1, 2, impl.MaxLinks - 1, impl.MaxLinks} {
		links := slices.Repeat([]impl.Link{linkOf(0, 1, gDue, gOwed, 3)}, count)
		checkOwnJoin(t, g, links, gDue, -3*count, gOwed, 3*count)
	}
	for _, count := range []int{impl.MaxLinks + 1, impl.MaxLinks + 2, 100000} {
		refuseJoin(t, g, nil, nil, 5, slices.Repeat([]impl.Link{linkOf(0, 1, gDue, gOwed, 3)}, count)...)
	}
	links := slices.Repeat([]impl.Link{linkOf(0, 1, gDue, gOwed, 3)}, impl.MaxLinks+1)
	checkOwnJoin(t, g, links[:impl.MaxLinks], gDue, -300, gOwed, 300)
}

// A link that is none refuses all, wherever it stands among right ones.
func refuseLink(t *testing.T, l impl.Link) {
	t.Helper()
	right := linkOf(0, 1, gDue, gOwed, 3)
	refuseJoin(t, handGroup(), handRates(), meanRates(), 20, l)
	refuseJoin(t, handGroup(), handRates(), meanRates(), 20, l, right)
	refuseJoin(t, handGroup(), handRates(), meanRates(), 20, right, right, l)
	links := slices.Repeat([]impl.Link{right}, impl.MaxLinks)
	links[impl.MaxLinks-1] = l
	refuseJoin(t, handGroup(), handRates(), meanRates(), 20, links...)
}

func TestMembersOfALink(t *testing.T) {
	for from := -2; from <= 5; from++ {
		for to := -2; to <= 5; to++ {
			l := linkOf(from, to, gDue, gOwed, 3)
			if from != to && placeAmong(from, 4) && placeAmong(to, 4) {
				if !joinAsWanted(t, handGroup(), handRates(), meanRates(), 20, l) {
					t.Errorf("%v is refused", l)
				}
			} else {
				refuseLink(t, l)
			}
		}
	}
	for _, no := range noSpots {
		refuseLink(t, linkOf(no, 1, gDue, gOwed, 3))
		refuseLink(t, linkOf(1, no, gDue, gOwed, 3))
	}
	refuseLink(t, linkOf(1, 1, gDue, gOwed, 0))
	refuseLink(t, linkOf(2, 2, gDue, gDue, 0))
	refuseLink(t, impl.Link{})
}

func TestAccountsOfALink(t *testing.T) {
	for account := -2; account <= gCount+1; account++ {
		for against := -2; against <= gCount+1; against++ {
			l := linkOf(3, 1, account, against, -3)
			want := slices.Contains(groupLeaves, account) && slices.Contains(groupLeaves, against)
			if got := joinAsWanted(t, handGroup(), handRates(), meanRates(), 20, l); got != want {
				t.Errorf("%v: %v", l, got)
			}
		}
	}
	for _, no := range append([]int{0, 3, 5, 11, gCount}, noSpots...) {
		refuseLink(t, linkOf(0, 1, no, gOwed, 3))
		refuseLink(t, linkOf(0, 1, gDue, no, 3))
		refuseLink(t, linkOf(0, 1, no, no, 0))
	}
}

func TestAmountOfALink(t *testing.T) {
	g := groupOf(houseOf(0), memberOf(0, 10000, 0))
	for _, a := range []int{0, 1, -1, impl.MaxMoney - 1, impl.MaxMoney, -impl.MaxMoney} {
		checkOwnJoin(t, g, []impl.Link{linkOf(0, 1, gDue, gOwed, a)}, gDue, -a, gOwed, a)
		checkOwnJoin(t, g, []impl.Link{linkOf(0, 1, gDue, gDue, a)})
	}
	for _, a := range noAmounts {
		refuseLink(t, linkOf(0, 1, gDue, gOwed, a))
		refuseLink(t, linkOf(0, 1, gDue, gDue, a))
	}
}

// The net of a member may be the greatest amount; one more is refused, held whole or not, but of the first member it is not asked for.
func TestNetThatIsNoAmount(t *testing.T) {
	for _, sign := range []int{1, -1} {
		for more := -1; more <= 1; more++ {
			a, b := sign*(impl.MaxMoney-1), sign*(1+more)
			pairs := []int{gCash, a, gDue, b, gPaid, -a, gRent, -b}
			checkOwnJoin(t, groupOf(houseOf(0, pairs...)), nil, pairs...)
			checkOwnJoin(t, groupOf(houseOf(0, pairs...), memberOf(0, 1, 0)), nil, pairs...)
			for _, share := range []int{1, 5000, 9999, 10000} {
				g := groupOf(houseOf(0), memberOf(0, share, 0, pairs...))
				if got := joinAsWanted(t, g, nil, nil, 5); got != (more < 1) {
					t.Errorf("a net of %d of a member with a share of %d: %v", -a-b, share, got)
				}
				g = groupOf(houseOf(0), memberOf(0, 5000, 0), memberOf(1, share, 0, pairs...), memberOf(1, 5, 0))
				if got := joinAsWanted(t, g, nil, nil, 5); got != (more < 1) {
					t.Errorf("a net of %d below another member with a share of %d: %v", -a-b, share, got)
				}
			}
		}
	}
}

// A chart of assets and leaves of Equity alone, so many of them.
func equityGroup(leaves, minor, shift int) impl.Group {
	chart := []impl.Account{{Code: "cash", Parent: -1, Kind: impl.Asset}}
	for i := range leaves {
		chart = append(chart, impl.Account{Code: "e" + string(rune('a'+i)), Parent: -1, Kind: impl.Equity})
	}
	g := impl.Group{Chart: chart, Curs: 1, Minor: minor, Shift: shift}
	trial := make([]int, len(chart))
	trial[0], trial[1] = 40, -40
	house := impl.Member{Parent: -1, Share: 10000, Trial: make([]int, len(chart))}
	g.Members = []impl.Member{house, {Parent: 0, Share: 7500, Trial: trial}}
	return g
}

func TestWhereWhatBelongsToOthersComesFrom(t *testing.T) {
	checkJoin(t, equityGroup(3, 1, 2), nil, nil, 5, nil, []int{40, -50, 0, 10})
	checkJoin(t, equityGroup(3, 2, 3), nil, nil, 5, nil, []int{40, -30, -10, 0})
	checkJoin(t, equityGroup(3, 1, 3), nil, nil, 5, nil, []int{40, -50, 10, 0})
	checkJoin(t, equityGroup(4, 1, 2), nil, nil, 5, nil, []int{40, -50, 0, 0, 10})
	checkJoin(t, equityGroup(4, 3, 4), nil, nil, 5, nil, []int{40, -40, 10, -10, 0})
	checkJoin(t, equityGroup(4, 4, 2), nil, nil, 5, nil, []int{40, -40, 0, 10, -10})
	for leaves := 2; leaves <= 6; leaves++ {
		for minor := 1; minor <= leaves; minor++ {
			for shift := 1; shift <= leaves; shift++ {
				if got := joinAsWanted(t, equityGroup(leaves, minor, shift), nil, nil, 5); got != (leaves > 2 && minor != shift) {
					t.Errorf("%d leaves, %d and %d: %v", leaves, minor, shift, got)
				}
			}
		}
	}
}

// Without another leaf of Equity there is no joining, not even of one member or of nothing; one that is no leaf does not help.
func TestNoLeafBesideMinorAndShift(t *testing.T) {
	g := equityGroup(2, 1, 2)
	refuseJoin(t, g, nil, nil, 5)
	g.Members[1].Trial = make([]int, 3)
	refuseJoin(t, g, nil, nil, 5)
	g.Members = g.Members[:1]
	checkGroupOk(t, g, true)
	refuseJoin(t, g, nil, nil, 5)
	g = equityGroup(3, 2, 3)
	g.Chart[2].Parent = 1
	g.Members[1].Trial = make([]int, 4)
	checkGroupOk(t, g, true)
	refuseJoin(t, g, nil, nil, 5)
	for _, kind := range []int{impl.Liability, impl.Income, impl.Expense} {
		g.Chart[1].Kind, g.Chart[2].Parent = kind, -1
		checkGroupOk(t, g, true)
		refuseJoin(t, g, nil, nil, 5)
	}
	g.Chart[1].Kind = impl.Equity
	checkJoin(t, g, nil, nil, 5, nil, make([]int, 4))
}

// One member that can't be translated refuses all of them.
func TestJoinWithoutATranslation(t *testing.T) {
	for at := range impl.MaxMembers {
		g := groupOfMany(impl.MaxMembers, 9000)
		g.Members[at].Cur = 3
		refuseJoin(t, g, handRates(), meanRates(), 19)
		joinAsWanted(t, g, handRates(), meanRates(), 20)
		g.Members[at] = memberOf(at-1, g.Members[at].Share, 1, gCash, impl.MaxMoney, gPaid, -impl.MaxMoney)
		refuseJoin(t, g, oneRate(2, 1), oneRate(2, 1), 5)
	}
	for _, day := range noDays {
		refuseJoin(t, handGroup(), handRates(), meanRates(), day)
		refuseJoin(t, groupOf(houseOf(0)), nil, nil, day)
	}
	for _, wrong := range wrongRates() {
		if !wantRatesOk(wrong, 4) {
			refuseJoin(t, handGroup(), wrong, meanRates(), 20)
			refuseJoin(t, handGroup(), handRates(), wrong, 20)
			refuseJoin(t, groupOf(houseOf(0)), wrong, nil, 20)
		}
	}
}

// As much as members, links and shares can bring to one account: all within -MaxTotal .. MaxTotal.
func TestGreatestJoin(t *testing.T) {
	for _, sign := range []int{1, -1} {
		a := sign * impl.MaxMoney
		g := groupOf(houseOf(0, gCash, -a, gKept, a))
		for range impl.MaxMembers - 1 {
			g.Members = append(g.Members, memberOf(0, 1, 0, gCash, -a, gKept, a))
		}
		part := wantMulDiv(a, 9999, 10000, impl.Half)
		links := slices.Repeat([]impl.Link{linkOf(0, 11, gOwed, gCash, -a)}, impl.MaxLinks)
		checkOwnJoin(t, g, links, gCash, -112*a, gOwed, 100*a, gKept, 12*a-11*part, gMinor, 11*part)
		for i := range links {
			links[i] = linkOf(0, 11, gOwed, gMinor, a)
		}
		checkOwnJoin(t, g, links, gCash, -12*a, gOwed, -100*a, gKept, 12*a-11*part, gMinor, 100*a+11*part)
	}
}

func TestJoinOfWrongGroups(t *testing.T) {
	for _, g := range wrongGroups() {
		refuseJoin(t, g, handRates(), meanRates(), 20)
		refuseJoin(t, g, handRates(), meanRates(), 20, linkOf(0, 1, gDue, gOwed, 3))
	}
}

func someLink(chance *rand.Rand, g impl.Group, leaves []int) impl.Link {
	l := linkOf(0, chance.Intn(len(g.Members)), leaves[chance.Intn(len(leaves))], leaves[chance.Intn(len(leaves))], someTrialAmount(chance))
	l.From = (l.To + 1 + chance.Intn(max(1, len(g.Members)-1))) % len(g.Members)
	if chance.Intn(60) == 0 {
		fields := []*int{&l.From, &l.To, &l.Account, &l.Against, &l.Amount}
		*fields[chance.Intn(5)] += chance.Intn(5) - 2
	}
	return l
}

func TestSomeJoins(t *testing.T) {
	chance := rand.New(rand.NewSource(84))
	taken, left := 0, 0
	for range 1500 {
		g := someGroup(chance)
		leaves := leavesOf(g.Chart)
		links := []impl.Link{}
		for range chance.Intn(10) {
			links = append(links, someLink(chance, g, leaves))
		}
		if len(g.Members) == 1 && chance.Intn(4) > 0 {
			links = nil
		}
		list, mean := someGroupRates(chance, g.Curs), someGroupRates(chance, g.Curs)
		if joinAsWanted(t, g, list, mean, 4+chance.Intn(60), links...) {
			taken++
		} else {
			left++
		}
	}
	if taken < 200 || left < 200 {
		t.Errorf("%d joined, %d refused", taken, left)
	}
}

// However its workers run, and whoever else asks at the same time, the answer is the same.
func TestJoinsAtOnce(t *testing.T) {
	g := groupOfMany(impl.MaxMembers, 9000)
	for at := range g.Members {
		g.Members[at].Cur = at % 4
		g.Members[at].Trial = trialOf(gCash, 100+at, gSales, -100-at)
	}
	links := []impl.Link{linkOf(0, 1, gDue, gOwed, 3)}
	want, ok := wantJoin(g, handRates(), meanRates(), 20, links)
	if !ok {
		t.Fatal("there is nothing to join")
	}
	var askers sync.WaitGroup
	for range 8 {
		askers.Go(func() {
			for range 50 {
				checkJoin(t, g, handRates(), meanRates(), 20, links, want)
			}
		})
	}
	askers.Wait()
}

func TestJoinLeavesItsArguments(t *testing.T) {
	g, list, mean := roomyGroup(), roomyRates(handRates()), roomyRates(meanRates())
	links := []impl.Link{linkOf(0, 1, gDue, gOwed, 3), linkOf(2, 3, gCash, gKept, 5), linkOf(9, 9, math.MaxInt, -1, 7)}
	kept := slices.Clone(links)
	for _, told := range [][]impl.Link{nil, links[:0], links[:1], links[:2], links} {
		one, ok := impl.Join(g, list, mean, 20, told)
		other, _ := impl.Join(g, list, mean, 20, told)
		for i := range one {
			one[i] = 99999
		}
		_ = append(one, 88888)
		if ok != (len(told) < 3) || ok != (len(other) == gCount) || slices.Contains(other, 99999) {
			t.Errorf("two answers of Join: %v, %v", one, other)
		}
		if !sameRoomyGroup(g, roomyGroup()) || !slices.Equal(links, kept) {
			t.Fatal("Join wrote into the group or the links, or handed them out")
		}
		if !slices.Equal(list[:8], roomyRates(handRates())[:8]) || !slices.Equal(mean[:6], roomyRates(meanRates())[:6]) {
			t.Fatal("Join wrote into the rates")
		}
	}
	single := groupOf(houseOf(0, gCash, 5, gPaid, -5))
	own, _ := impl.Join(single, nil, nil, 5, nil)
	own[gCash] = 99999
	if single.Members[0].Trial[gCash] != 5 {
		t.Error("Join hands the trial out")
	}
}
