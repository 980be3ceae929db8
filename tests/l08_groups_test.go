package tests

import (
	"math"
	"math/rand"
	"slices"
	"strconv"
	"testing"

	"loop.example/g00040/impl"
)

// The places of the accounts in groupChart, where tests name them.
const (
	gCash  = 1
	gDue   = 2
	gOwed  = 4
	gPaid  = 6
	gKept  = 7
	gMinor = 8
	gShift = 9
	gSales = 10
	gWages = 12
	gRent  = 13
	gCount = 14
)

// Of the equity one account is no leaf, and the last leaf but Minor and Shift stands ahead of both.
func groupChart() []impl.Account {
	return []impl.Account{
		{Code: "assets", Parent: -1, Kind: impl.Asset},
		{Code: "cash", Parent: 0, Kind: impl.Asset},
		{Code: "due", Parent: 0, Kind: impl.Asset},
		{Code: "debts", Parent: -1, Kind: impl.Liability},
		{Code: "owed", Parent: 3, Kind: impl.Liability},
		{Code: "own", Parent: -1, Kind: impl.Equity},
		{Code: "paid-in", Parent: 5, Kind: impl.Equity},
		{Code: "kept", Parent: 5, Kind: impl.Equity},
		{Code: "others", Parent: 5, Kind: impl.Equity},
		{Code: "shift", Parent: -1, Kind: impl.Equity},
		{Code: "sales", Parent: -1, Kind: impl.Income},
		{Code: "costs", Parent: -1, Kind: impl.Expense},
		{Code: "wages", Parent: 11, Kind: impl.Expense},
		{Code: "rent", Parent: 11, Kind: impl.Expense},
	}
}

var groupLeaves = []int{gCash, gDue, gOwed, gPaid, gKept, gMinor, gShift, gSales, gWages, gRent}

// A trial of groupChart: a place, what stands there, a place, what stands there ..
func trialOf(pairs ...int) []int {
	trial := make([]int, gCount)
	for i := 0; i < len(pairs); i += 2 {
		trial[pairs[i]] += pairs[i+1]
	}
	return trial
}

func memberOf(parent, share, cur int, pairs ...int) impl.Member {
	return impl.Member{Parent: parent, Share: share, Cur: cur, Trial: trialOf(pairs...)}
}

func houseOf(cur int, pairs ...int) impl.Member { return memberOf(-1, 10000, cur, pairs...) }

func groupOf(members ...impl.Member) impl.Group {
	return impl.Group{Chart: groupChart(), Curs: 4, Members: members, Minor: gMinor, Shift: gShift}
}

// Four members: one below another, one beside it, in three currencies.
func handGroup() impl.Group {
	return groupOf(
		houseOf(0, gCash, 1000, gDue, 50, gOwed, -300, gPaid, -600, gSales, -400, gWages, 250),
		memberOf(0, 7500, 1, gCash, 80, gOwed, -10, gPaid, -50, gSales, -60, gRent, 40),
		memberOf(1, 5000, 0, gCash, 8, gKept, -8),
		memberOf(0, 3333, 2, gDue, 400, gOwed, -200, gPaid, -100, gKept, -60, gShift, -40),
	)
}

func copyGroup(g impl.Group) impl.Group {
	g.Chart = slices.Clone(g.Chart)
	g.Members = slices.Clone(g.Members)
	for i, m := range g.Members {
		g.Members[i].Trial = slices.Clone(m.Trial)
	}
	return g
}

func sameMember(a, b impl.Member) bool {
	return a.Parent == b.Parent && a.Share == b.Share && a.Cur == b.Cur && slices.Equal(a.Trial, b.Trial)
}

func sameGroup(a, b impl.Group) bool {
	return slices.Equal(a.Chart, b.Chart) && a.Curs == b.Curs && a.Minor == b.Minor && a.Shift == b.Shift &&
		slices.EqualFunc(a.Members, b.Members, sameMember)
}

func isLeafOfKind(chart []impl.Account, at int, kinds ...int) bool {
	return slices.Contains(leavesOf(chart), at) && slices.Contains(kinds, chart[at].Kind)
}

func wantTrialOk(chart []impl.Account, trial []int) bool {
	if len(trial) != len(chart) {
		return false
	}
	leaves := leavesOf(chart)
	for at, a := range trial {
		if !amount(a) || a != 0 && !slices.Contains(leaves, at) {
			return false
		}
	}
	return sumOf(trial) == 0
}

func wantGroupOk(g impl.Group) bool {
	if !wantChartOk(g.Chart) || !curCount(g.Curs) || len(g.Members) == 0 || len(g.Members) > impl.MaxMembers {
		return false
	}
	if g.Members[0].Parent != -1 || g.Members[0].Share != 10000 {
		return false
	}
	for at, m := range g.Members {
		if m.Cur < 0 || m.Cur >= g.Curs || !wantTrialOk(g.Chart, m.Trial) {
			return false
		}
		if at > 0 && (m.Parent < 0 || m.Parent >= at || m.Share < 1 || m.Share > 10000) {
			return false
		}
	}
	return isLeafOfKind(g.Chart, g.Minor, impl.Equity) && isLeafOfKind(g.Chart, g.Shift, impl.Equity) && g.Minor != g.Shift
}

func checkGroupOk(t *testing.T, g impl.Group, want bool) {
	t.Helper()
	if got := impl.GroupOk(g); got != want {
		t.Errorf("GroupOk(%d accounts, %d currencies, %v, %d, %d) = %v; want %v", len(g.Chart), g.Curs, g.Members, g.Minor, g.Shift, got, want)
	}
}

// handGroup with one change.
func groupWith(change func(g *impl.Group)) impl.Group {
	g := handGroup()
	change(&g)
	return g
}

func memberWith(at int, change func(m *impl.Member)) impl.Group {
	return groupWith(func(g *impl.Group) { change(&g.Members[at]) })
}

// That many members, each held by the one ahead.
func groupOfMany(count, share int) impl.Group {
	g := groupOf()
	for at := range count {
		g.Members = append(g.Members, memberOf(at-1, share, 0, gCash, 5, gPaid, -5))
	}
	if count > 0 {
		g.Members[0].Share = 10000
	}
	return g
}

// One member's trial is spoilt, each in another way.
func spoiltTrials(at int) []impl.Group {
	list := []impl.Group{}
	put := func(trial []int) {
		list = append(list, memberWith(at, func(m *impl.Member) { m.Trial = trial }))
	}
	put(nil)
	put([]int{})
	put([]int{0})
	put(make([]int, gCount-1))
	put(make([]int, gCount+1))
	put(make([]int, 100000))
	put(trialOf(gCash, 1))
	put(trialOf(gRent, -1))
	put(trialOf(gCash, 10, gPaid, -9))
	put(trialOf(gCash, impl.MaxMoney+1, gPaid, -impl.MaxMoney-1))
	put(trialOf(gCash, -impl.MaxMoney-1, gPaid, impl.MaxMoney, gKept, 1))
	put(trialOf(gCash, impl.MaxMoney, gDue, 1, gPaid, -impl.MaxMoney-1))
	put(trialOf(gCash, math.MinInt, gDue, math.MinInt))
	put(trialOf(gCash, math.MaxInt, gDue, math.MaxInt, gOwed, 2))
	for _, inner := range []int{0, 3, 5, 11} {
		put(trialOf(inner, 5, gCash, -5))
		put(trialOf(inner, -1, gRent, 1))
		put(trialOf(inner, impl.MaxMoney, gWages, -impl.MaxMoney))
	}
	put(trialOf(0, 5, 5, -5))
	return list
}

func spoiltMembers(at int) []impl.Group {
	list := spoiltTrials(at)
	for _, parent := range []int{math.MinInt, -10000, -2, at, at + 1, 4, impl.MaxMembers, math.MaxInt} {
		list = append(list, memberWith(at, func(m *impl.Member) { m.Parent = parent }))
	}
	for _, share := range []int{math.MinInt, -10000, -1, 0, 10001, 10002, math.MaxInt} {
		list = append(list, memberWith(at, func(m *impl.Member) { m.Share = share }))
	}
	for _, cur := range []int{math.MinInt, -1, 4, 5, impl.MaxCurs, math.MaxInt} {
		list = append(list, memberWith(at, func(m *impl.Member) { m.Cur = cur }))
	}
	return append(list, memberWith(at, func(m *impl.Member) { *m = impl.Member{} }))
}

// Groups that are not right, each by one of their parts.
func wrongGroups() []impl.Group {
	list := []impl.Group{{}, groupOf(), groupOfMany(impl.MaxMembers+1, 5000)}
	for _, chart := range wrongCharts() {
		list = append(list, groupWith(func(g *impl.Group) { g.Chart = chart }))
	}
	for _, curs := range append([]int{1, 2}, noCounts...) {
		list = append(list, groupWith(func(g *impl.Group) { g.Curs = curs }))
	}
	for at := range handGroup().Members {
		list = append(list, spoiltMembers(at)...)
		if at > 0 {
			list = append(list, memberWith(at, func(m *impl.Member) { m.Parent = -1 }))
		}
	}
	list = append(list, memberWith(0, func(m *impl.Member) { m.Share = 9999 }))
	for _, place := range append([]int{0, gCash, 3, gOwed, 5, gSales, 11, gRent, gCount}, noSpots...) {
		list = append(list, groupWith(func(g *impl.Group) { g.Minor = place }), groupWith(func(g *impl.Group) { g.Shift = place }))
	}
	same := func(g *impl.Group) { g.Shift = g.Minor }
	other := func(g *impl.Group) { g.Minor = g.Shift }
	return append(list, groupWith(same), groupWith(other))
}

func TestLimitsOfGroups(t *testing.T) {
	if impl.MaxMembers != 12 || impl.MaxLinks != 100 {
		t.Errorf("%d members, %d links", impl.MaxMembers, impl.MaxLinks)
	}
}

func TestGroupOk(t *testing.T) {
	checkGroupOk(t, handGroup(), true)
	checkGroupOk(t, groupOf(houseOf(0)), true)
	for _, g := range wrongGroups() {
		checkGroupOk(t, g, false)
	}
}

// What the tests call wrong is so by their own reckoning too.
func TestWrongGroupsAreWrong(t *testing.T) {
	if !wantGroupOk(handGroup()) {
		t.Error("the group by hand is wrong")
	}
	for i, g := range wrongGroups() {
		if wantGroupOk(g) {
			t.Errorf("wrong group %d is right: %v", i, g)
		}
	}
}

// A chart with just Minor and Shift is enough for a group.
func TestChartOfAGroup(t *testing.T) {
	two := []impl.Account{{Code: "m", Parent: -1, Kind: impl.Equity}, {Code: "s", Parent: -1, Kind: impl.Equity}}
	g := impl.Group{Chart: two, Curs: 1, Members: []impl.Member{{Parent: -1, Share: 10000, Trial: []int{7, -7}}}, Shift: 1}
	checkGroupOk(t, g, true)
	g.Chart = two[:1]
	g.Members[0].Trial = []int{0}
	checkGroupOk(t, g, false)
	chart := wideChart(impl.MaxAccounts)
	leaves := []int{}
	for at := range chart {
		if isLeafOfKind(chart, at, impl.Equity) {
			leaves = append(leaves, at)
		}
	}
	full := impl.Group{Chart: chart, Curs: impl.MaxCurs, Minor: leaves[0], Shift: leaves[len(leaves)-1]}
	full.Members = []impl.Member{{Parent: -1, Share: 10000, Trial: make([]int, len(chart))}}
	checkGroupOk(t, full, true)
	full.Chart = wideChart(impl.MaxAccounts + 1)
	full.Members[0].Trial = make([]int, len(full.Chart))
	checkGroupOk(t, full, false)
	for at := range groupChart() {
		spoilt := handGroup()
		spoilt.Chart[at].Code = "no name"
		checkGroupOk(t, spoilt, false)
	}
}

func TestCurrenciesOfAGroup(t *testing.T) {
	for curs := -1; curs <= impl.MaxCurs+2; curs++ {
		for cur := -2; cur <= impl.MaxCurs+2; cur++ {
			g := groupOf(houseOf(0), memberOf(0, 5000, cur))
			g.Curs = curs
			checkGroupOk(t, g, curCount(curs) && 0 <= cur && cur < curs)
			g = groupOf(houseOf(cur), memberOf(0, 5000, 0))
			g.Curs = curs
			checkGroupOk(t, g, curCount(curs) && 0 <= cur && cur < curs)
		}
	}
}

func TestHowManyMembersAGroupHas(t *testing.T) {
	for count := range impl.MaxMembers + 4 {
		checkGroupOk(t, groupOfMany(count, 10000), 1 <= count && count <= impl.MaxMembers)
		checkGroupOk(t, groupOfMany(count, 1), 1 <= count && count <= impl.MaxMembers)
	}
	checkGroupOk(t, groupOfMany(10000, 1), false)
}

func TestParentsOfMembers(t *testing.T) {
	for at := range impl.MaxMembers {
		for parent := -3; parent <= impl.MaxMembers+1; parent++ {
			g := groupOfMany(impl.MaxMembers, 6000)
			g.Members[at].Parent = parent
			checkGroupOk(t, g, at == 0 && parent == -1 || 0 <= parent && parent < at)
		}
	}
}

func TestSharesOfMembers(t *testing.T) {
	for _, share := range []int{-1, 0, 1, 2, 5000, 9999, 10000, 10001, 10002, math.MinInt, math.MaxInt} {
		for at := range 4 {
			g := memberWith(at, func(m *impl.Member) { m.Share = share })
			checkGroupOk(t, g, share == 10000 || at > 0 && 1 <= share && share < 10000)
		}
	}
}

// A number may stand at a leaf alone, whatever its kind, up to the greatest amount.
func TestTrialsOfMembers(t *testing.T) {
	for place := range gCount {
		for _, a := range []int{1, -1, impl.MaxMoney, -impl.MaxMoney, impl.MaxMoney + 1, -impl.MaxMoney - 1} {
			against := gCash
			if place == gCash {
				against = gRent
			}
			for at := range 4 {
				g := memberWith(at, func(m *impl.Member) { m.Trial = trialOf(place, a, against, -a) })
				checkGroupOk(t, g, amount(a) && slices.Contains(groupLeaves, place))
				g.Members[at].Trial[against]++
				checkGroupOk(t, g, false)
			}
		}
	}
	all := []int{}
	for i, place := range groupLeaves {
		all = append(all, place, impl.MaxMoney*(1-2*(i%2)))
	}
	checkGroupOk(t, groupOf(houseOf(0, all...), memberOf(0, 1, 3, all...)), true)
}

func TestWhereMinorAndShiftStand(t *testing.T) {
	equity := []int{gPaid, gKept, gMinor, gShift}
	for minor := -2; minor <= gCount+1; minor++ {
		for shift := -2; shift <= gCount+1; shift++ {
			g := handGroup()
			g.Minor, g.Shift = minor, shift
			checkGroupOk(t, g, minor != shift && slices.Contains(equity, minor) && slices.Contains(equity, shift))
		}
	}
}

// What lies behind a list's length is not looked at.
func TestRoomBehindAGroupsLists(t *testing.T) {
	g := handGroup()
	g.Chart = append(g.Chart, impl.Account{Code: "no name", Parent: 77})[:gCount]
	g.Members = append(g.Members, impl.Member{Parent: 99})[:4]
	for i, m := range g.Members {
		g.Members[i].Trial = append(m.Trial, 12345)[:gCount]
	}
	checkGroupOk(t, g, true)
}

// An amount, now and then a great one, so that what is translated leaves the amounts at times.
func someTrialAmount(chance *rand.Rand) int {
	switch chance.Intn(12) {
	case 0:
		return (1 - 2*chance.Intn(2)) * (impl.MaxMoney - chance.Intn(3))
	case 1, 2:
		return 0
	}
	return chance.Intn(4001) - 2000
}

// Even, of small numbers most of the time: what one leaf has more another one has less.
func someTrial(chance *rand.Rand, chart []impl.Account) []int {
	trial := make([]int, len(chart))
	leaves := leavesOf(chart)
	chance.Shuffle(len(leaves), func(i, k int) { leaves[i], leaves[k] = leaves[k], leaves[i] })
	for i := 1; i < len(leaves); i += 2 {
		a := someTrialAmount(chance)
		trial[leaves[i-1]], trial[leaves[i]] = a, -a
	}
	return trial
}

// Two to four leaves of Equity stand at the end, so there are enough for Minor and Shift, at times just enough.
func someGroupChart(chance *rand.Rand) []impl.Account {
	chart := someChart(chance, 1+chance.Intn(25))
	for i := range 2 + chance.Intn(3) {
		chart = append(chart, impl.Account{Code: "e" + strconv.Itoa(i), Parent: -1, Kind: impl.Equity})
	}
	return chart
}

func someGroup(chance *rand.Rand) impl.Group {
	g := impl.Group{Chart: someGroupChart(chance), Curs: 1 + chance.Intn(6)}
	equity := slices.DeleteFunc(leavesOf(g.Chart), func(at int) bool { return g.Chart[at].Kind != impl.Equity })
	chance.Shuffle(len(equity), func(i, k int) { equity[i], equity[k] = equity[k], equity[i] })
	g.Minor, g.Shift = equity[0], equity[1]
	for at := range 1 + chance.Intn(impl.MaxMembers) {
		m := impl.Member{Parent: -1, Share: 10000, Cur: chance.Intn(g.Curs), Trial: someTrial(chance, g.Chart)}
		if at > 0 {
			m.Parent = chance.Intn(at)
			m.Share = [4]int{1 + chance.Intn(10), 10000, 10000 - chance.Intn(10), 1 + chance.Intn(10000)}[chance.Intn(4)]
		}
		g.Members = append(g.Members, m)
	}
	return g
}

// One number of the group is moved by a little, which may leave it right.
func spoilGroup(chance *rand.Rand, g *impl.Group) {
	m := &g.Members[chance.Intn(len(g.Members))]
	fields := []*int{&g.Curs, &g.Minor, &g.Shift, &m.Parent, &m.Share, &m.Cur, &m.Trial[chance.Intn(len(m.Trial))]}
	*fields[chance.Intn(len(fields))] += chance.Intn(7) - 3
}

func TestSomeGroups(t *testing.T) {
	chance := rand.New(rand.NewSource(81))
	right, wrong := 0, 0
	for range 3000 {
		g := someGroup(chance)
		checkGroupOk(t, g, true)
		spoilGroup(chance, &g)
		want := wantGroupOk(g)
		checkGroupOk(t, g, want)
		if want {
			right++
		} else {
			wrong++
		}
	}
	if right < 500 || wrong < 500 {
		t.Errorf("%d right groups, %d wrong ones", right, wrong)
	}
}

func TestGroupOkLeavesItsArguments(t *testing.T) {
	for _, g := range append(wrongGroups(), handGroup()) {
		kept := copyGroup(g)
		impl.GroupOk(g)
		impl.Held(g)
		if !sameGroup(g, kept) {
			t.Fatal("GroupOk or Held wrote into what it was given")
		}
	}
}
