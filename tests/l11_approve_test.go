package tests

import (
	"math/rand"
	"slices"
	"strconv"
	"testing"

	"loop.example/g00040/impl"
)

func actOf(who int, role string) impl.Act { return impl.Act{Who: who, Role: role} }

// wantApprove keeps who approved what in a list by role, and asks for the first role that has nobody.
func wantApprove(flow []impl.Step, list []impl.Person, maker, amount int, acts []impl.Act) (int, int) {
	if len(flow) > 0 && wantShowFlow(flow) == "" || !wantPeopleOk(list) || maker < 0 || maker >= len(list) {
		return impl.Refused, -1
	}
	if amount < -impl.MaxMoney || amount > impl.MaxMoney || len(acts) > impl.MaxActs {
		return impl.Refused, -1
	}
	roles := wantNeeded(flow, amount)
	by := slices.Repeat([]int{-1}, len(roles))
	for at, act := range acts {
		next := slices.Index(by, -1)
		if next < 0 || roles[next] != act.Role || act.Who == maker || slices.Contains(by, act.Who) || !wantMay(list, act.Who, act.Role, amount) {
			return impl.Refused, at
		}
		by[next] = act.Who
	}
	if slices.Contains(by, -1) {
		return impl.Open, len(acts)
	}
	return impl.Done, len(roles)
}

// P29: what is Done has an act for each role of Needed, each by another one who May, none of them the maker.
func checkDone(t *testing.T, flow []impl.Step, list []impl.Person, maker, amount int, acts []impl.Act) {
	t.Helper()
	needed := impl.Needed(flow, amount)
	people := map[int]int{}
	for i, role := range needed {
		at := slices.IndexFunc(acts, func(a impl.Act) bool { return a.Role == role })
		if at != i {
			t.Fatalf("Done without an act for %q in its order: %v", role, acts)
		}
		who := acts[at].Who
		people[who]++
		if who == maker || !impl.May(list, who, role, amount) {
			t.Errorf("Done by %d for %q, maker %d: %v", who, role, maker, acts)
		}
	}
	if len(people) != len(needed) || len(acts) != len(needed) {
		t.Errorf("Done by %d people with %d acts; Needed are %v", len(people), len(acts), needed)
	}
}

func checkApprove(t *testing.T, flow []impl.Step, list []impl.Person, maker, amount int, acts []impl.Act, state, count int) {
	t.Helper()
	got, many := impl.Approve(flow, list, maker, amount, acts)
	wantState, wantCount := wantApprove(flow, list, maker, amount, acts)
	if got != state || many != count || wantState != state || wantCount != count {
		t.Errorf("Approve(%v, %v, %d, %d, %v) = %d, %d; want %d, %d", flow[:min(5, len(flow))], list[:min(6, len(list))], maker, amount, acts, got, many, state, count)
	}
	if got == impl.Done {
		checkDone(t, flow, list, maker, amount, acts)
	}
}

// Three roles above 100, of which each has two people; the last one has no role.
func threeRoles() []impl.Step {
	return []impl.Step{stepOf(0, "clerk"), stepOf(50, "clerk", "head"), stepOf(100, "board", "clerk")}
}

func sevenPeople() []impl.Person {
	return []impl.Person{
		personOf("c1", 1000, "clerk"), personOf("c2", 1000, "clerk", "head"),
		personOf("h1", 1000, "head"), personOf("h2", 1000, "head", "board"),
		personOf("b1", 1000, "board"), personOf("b2", 500, "board"),
		personOf("none", 1000),
	}
}

const noRolePlace = 6

var rightActs = []impl.Act{actOf(0, "clerk"), actOf(2, "head"), actOf(4, "board")}

func TestApproveByHand(t *testing.T) {
	if impl.Open != 0 || impl.Done != 1 || impl.Refused != 2 {
		t.Error("what Approve tells is not 0 to 2")
	}
	flow, people := threeRoles(), sevenPeople()
	checkApprove(t, flow, people, noRolePlace, 101, nil, impl.Open, 0)
	checkApprove(t, flow, people, noRolePlace, 101, rightActs[:1], impl.Open, 1)
	checkApprove(t, flow, people, noRolePlace, 101, rightActs[:2], impl.Open, 2)
	checkApprove(t, flow, people, noRolePlace, 101, rightActs, impl.Done, 3)
	checkApprove(t, flow, people, noRolePlace, 100, rightActs[:2], impl.Done, 2)
	checkApprove(t, flow, people, noRolePlace, 100, rightActs, impl.Refused, 2)
	checkApprove(t, flow, people, noRolePlace, 50, rightActs[:1], impl.Done, 1)
	checkApprove(t, flow, people, noRolePlace, 50, rightActs, impl.Refused, 1)
	checkApprove(t, flow, people, noRolePlace, 0, nil, impl.Done, 0)
	checkApprove(t, flow, people, noRolePlace, 0, rightActs, impl.Refused, 0)
	checkApprove(t, flow, people, noRolePlace, 1000, rightActs, impl.Done, 3)
	checkApprove(t, flow, people, noRolePlace, 1001, nil, impl.Open, 0)
	checkApprove(t, flow, people, noRolePlace, 1001, rightActs, impl.Refused, 0)
}

func TestActsThatNobodyNeeds(t *testing.T) {
	people := sevenPeople()
	for _, amount := range []int{0, -1, -1000, -impl.MaxMoney} {
		checkApprove(t, threeRoles(), people, 0, amount, nil, impl.Done, 0)
		checkApprove(t, threeRoles(), people, 0, amount, []impl.Act{actOf(1, "clerk")}, impl.Refused, 0)
	}
	for _, flow := range [][]impl.Step{nil, {}} {
		for _, amount := range []int{-5, 0, 5, impl.MaxMoney, -impl.MaxMoney} {
			checkApprove(t, flow, people, 0, amount, nil, impl.Done, 0)
			checkApprove(t, flow, people, 0, amount, []impl.Act{}, impl.Done, 0)
			checkApprove(t, flow, people, 0, amount, []impl.Act{actOf(1, "clerk")}, impl.Refused, 0)
			checkApprove(t, flow, people, 0, amount, []impl.Act{{}}, impl.Refused, 0)
		}
	}
	high := []impl.Step{stepOf(impl.MaxMoney, "clerk")}
	checkApprove(t, high, people, 0, impl.MaxMoney, nil, impl.Done, 0)
	checkApprove(t, high, people, 0, impl.MaxMoney, []impl.Act{actOf(1, "clerk")}, impl.Refused, 0)
	// One act too many, whoever does it and for whatever role.
	for who := -1; who <= len(people); who++ {
		for _, role := range []string{"clerk", "head", "board", "", "more"} {
			acts := append(slices.Clone(rightActs), actOf(who, role))
			checkApprove(t, threeRoles(), people, noRolePlace, 101, acts, impl.Refused, 3)
			checkApprove(t, threeRoles(), people, noRolePlace, 101, append(acts, acts...), impl.Refused, 3)
		}
	}
}

func TestActsOutOfTheirOrder(t *testing.T) {
	flow, people := threeRoles(), sevenPeople()
	for _, order := range [][4]int{{0, 2, 1, 1}, {1, 0, 2, 0}, {1, 2, 0, 0}, {2, 0, 1, 0}, {2, 1, 0, 0}} {
		acts := []impl.Act{rightActs[order[0]], rightActs[order[1]], rightActs[order[2]]}
		checkApprove(t, flow, people, noRolePlace, 101, acts, impl.Refused, order[3])
	}
	for at := range rightActs {
		for _, role := range []string{"clerk", "head", "board", "", "Clerk", "clerk ", "nobody", "a b"} {
			acts := slices.Clone(rightActs)
			acts[at].Role = role
			if role == rightActs[at].Role {
				continue
			}
			checkApprove(t, flow, people, noRolePlace, 101, acts, impl.Refused, at)
			checkApprove(t, flow, people, noRolePlace, 101, acts[:at+1], impl.Refused, at)
		}
		skipped := slices.Delete(slices.Clone(rightActs), at, at+1)
		if at < 2 {
			checkApprove(t, flow, people, noRolePlace, 101, skipped, impl.Refused, at)
		} else {
			checkApprove(t, flow, people, noRolePlace, 101, skipped, impl.Open, 2)
		}
		// A role that is approved is not approved again, by another one neither.
		again := slices.Insert(slices.Clone(rightActs), at+1, actOf([]int{1, 3, 3}[at], rightActs[at].Role))
		checkApprove(t, flow, people, noRolePlace, 101, again, impl.Refused, at+1)
	}
}

func TestActsByTheMaker(t *testing.T) {
	flow, people := threeRoles(), sevenPeople()
	for at, act := range rightActs {
		checkApprove(t, flow, people, act.Who, 101, rightActs, impl.Refused, at)
		checkApprove(t, flow, people, act.Who, 101, rightActs[:at], impl.Open, at)
	}
	for maker := range people {
		if !slices.ContainsFunc(rightActs, func(a impl.Act) bool { return a.Who == maker }) {
			checkApprove(t, flow, people, maker, 101, rightActs, impl.Done, 3)
		}
	}
	// The maker may not, though they stand in for another one; who stands in for the maker may.
	list := []impl.Person{personOf("a", 0), awayFor(personOf("b", 500, "clerk"), "a"), personOf("c", 500, "clerk")}
	one := []impl.Step{stepOf(0, "clerk")}
	checkApprove(t, one, list, 0, 5, []impl.Act{actOf(0, "clerk")}, impl.Refused, 0)
	checkApprove(t, one, list, 1, 5, []impl.Act{actOf(0, "clerk")}, impl.Done, 1)
	checkApprove(t, one, list, 1, 5, []impl.Act{actOf(1, "clerk")}, impl.Refused, 0)
	checkApprove(t, one, list, 2, 5, []impl.Act{actOf(0, "clerk")}, impl.Done, 1)
}

func TestActsByThoseWhoMayNot(t *testing.T) {
	flow, people := threeRoles(), sevenPeople()
	for at, act := range rightActs {
		for who := -2; who <= len(people)+1; who++ {
			acts := slices.Clone(rightActs)
			acts[at].Who = who
			acted := slices.ContainsFunc(rightActs[:at], func(a impl.Act) bool { return a.Who == who })
			later := slices.ContainsFunc(rightActs[at+1:], func(a impl.Act) bool { return a.Who == who })
			switch {
			case !impl.May(people, who, act.Role, 101) || acted:
				checkApprove(t, flow, people, noRolePlace, 101, acts, impl.Refused, at)
			case !later:
				checkApprove(t, flow, people, noRolePlace, 101, acts, impl.Done, 3)
			}
		}
		for _, who := range farPlaces {
			acts := slices.Clone(rightActs)
			acts[at].Who = who
			checkApprove(t, flow, people, noRolePlace, 101, acts, impl.Refused, at)
		}
		away := sevenPeople()
		away[act.Who].Away = true
		checkApprove(t, flow, away, noRolePlace, 101, rightActs, impl.Refused, at)
		away[act.Who].For = "none"
		instead := slices.Clone(rightActs)
		instead[at].Who = noRolePlace
		checkApprove(t, flow, away, 5, 101, instead, impl.Done, 3)
		checkApprove(t, flow, people, 5, 101, instead, impl.Refused, at)
		poor := sevenPeople()
		poor[act.Who].Limit = 101
		checkApprove(t, flow, poor, noRolePlace, 101, rightActs, impl.Done, 3)
		poor[act.Who].Limit = 100
		checkApprove(t, flow, poor, noRolePlace, 101, rightActs, impl.Refused, at)
	}
}

func TestActsByOneWhoApprovedAhead(t *testing.T) {
	flow, people := threeRoles(), sevenPeople()
	// c2 is a clerk and a head, h2 a head and in the board: each may do one of both.
	checkApprove(t, flow, people, noRolePlace, 101, []impl.Act{actOf(1, "clerk"), actOf(1, "head")}, impl.Refused, 1)
	checkApprove(t, flow, people, noRolePlace, 101, []impl.Act{actOf(1, "clerk"), actOf(3, "head"), actOf(3, "board")}, impl.Refused, 2)
	checkApprove(t, flow, people, noRolePlace, 101, []impl.Act{actOf(1, "clerk"), actOf(2, "head"), actOf(3, "board")}, impl.Done, 3)
	checkApprove(t, flow, people, noRolePlace, 101, []impl.Act{actOf(0, "clerk"), actOf(1, "head"), actOf(3, "board")}, impl.Done, 3)
	// Not for two others either for whom they stand in.
	list := []impl.Person{personOf("a", 0), awayFor(personOf("b", 500, "clerk"), "a"), awayFor(personOf("c", 500, "head"), "a"), personOf("d", 500, "head")}
	checkApprove(t, flow, list, 1, 60, []impl.Act{actOf(0, "clerk")}, impl.Open, 1)
	checkApprove(t, flow, list, 1, 60, []impl.Act{actOf(0, "clerk"), actOf(0, "head")}, impl.Refused, 1)
	checkApprove(t, flow, list, 1, 60, []impl.Act{actOf(0, "clerk"), actOf(3, "head")}, impl.Done, 2)
	all := []impl.Person{personOf("all", 1000, "clerk", "head", "board"), personOf("maker", 0)}
	checkApprove(t, flow, all, 1, 101, []impl.Act{actOf(0, "clerk"), actOf(0, "head"), actOf(0, "board")}, impl.Refused, 1)
}

func TestMakersThatAreNone(t *testing.T) {
	people := sevenPeople()
	for _, maker := range append([]int{len(people), len(people) + 1}, farPlaces...) {
		checkApprove(t, threeRoles(), people, maker, 101, rightActs, impl.Refused, -1)
		checkApprove(t, threeRoles(), people, maker, 101, nil, impl.Refused, -1)
		checkApprove(t, nil, people, maker, 0, nil, impl.Refused, -1)
	}
	for _, maker := range append([]int{0, 1}, farPlaces...) {
		checkApprove(t, threeRoles(), nil, maker, 101, nil, impl.Refused, -1)
		checkApprove(t, nil, nil, maker, 0, nil, impl.Refused, -1)
	}
	checkApprove(t, threeRoles(), people, 0, 101, nil, impl.Open, 0)
	checkApprove(t, threeRoles(), people, len(people)-1, 101, nil, impl.Open, 0)
}

func TestAmountsThatAreNone(t *testing.T) {
	for _, amount := range noAmounts {
		checkApprove(t, threeRoles(), sevenPeople(), noRolePlace, amount, nil, impl.Refused, -1)
		checkApprove(t, threeRoles(), sevenPeople(), noRolePlace, amount, rightActs, impl.Refused, -1)
		checkApprove(t, nil, sevenPeople(), noRolePlace, amount, nil, impl.Refused, -1)
	}
	checkApprove(t, threeRoles(), sevenPeople(), noRolePlace, impl.MaxMoney, nil, impl.Open, 0)
	checkApprove(t, threeRoles(), sevenPeople(), noRolePlace, -impl.MaxMoney, nil, impl.Done, 0)
	rich := sevenPeople()
	for i := range rich {
		rich[i].Limit = impl.MaxMoney
	}
	checkApprove(t, threeRoles(), rich, noRolePlace, impl.MaxMoney, rightActs, impl.Done, 3)
}

func TestFlowsAndPeopleThatAreNone(t *testing.T) {
	people := sevenPeople()
	flows := [][]impl.Step{
		{{}}, {stepOf(0)}, {stepOf(-1, "clerk")}, {stepOf(0, "clerk", "clerk")}, {stepOf(0, "a b")}, {stepOf(5, "clerk"), stepOf(5, "head")}, {stepOf(6, "clerk"), stepOf(5, "head")},
		manySteps(impl.MaxSteps + 1), flowOfBytes(impl.MaxFlow + 1),
	}
	for _, flow := range flows {
		for _, amount := range []int{-1, 0, 101} {
			checkApprove(t, flow, people, noRolePlace, amount, nil, impl.Refused, -1)
			checkApprove(t, flow, people, noRolePlace, amount, rightActs, impl.Refused, -1)
		}
	}
	wrong := [][]impl.Person{
		append(sevenPeople(), sevenPeople()[0]), append(sevenPeople(), impl.Person{}), append(sevenPeople(), personOf("x", -1)), append(sevenPeople(), personOf("x", 5, "")),
		append(sevenPeople(), awayFor(personOf("x", 5), "y")), append(sevenPeople(), awayFor(personOf("x", 5), "x")), append(sevenPeople(), manyPeople(impl.MaxPeople)...),
	}
	for _, list := range wrong {
		checkApprove(t, threeRoles(), list, noRolePlace, 101, nil, impl.Refused, -1)
		checkApprove(t, threeRoles(), list, noRolePlace, 101, rightActs, impl.Refused, -1)
		checkApprove(t, nil, list, noRolePlace, 0, nil, impl.Refused, -1)
	}
}

// As many people as there may be, each with a role of their own; the last one is the maker.
func wholeHouse() ([]impl.Step, []impl.Person, []impl.Act) {
	flow, people, acts := []impl.Step{}, manyPeople(impl.MaxPeople), []impl.Act{}
	for who := range impl.MaxPeople - 1 {
		role := "r" + strconv.Itoa(who)
		people[who].Limit = impl.MaxMoney
		acts = append(acts, actOf(who, role))
		if who%2 == 0 {
			flow = append(flow, stepOf(who, role))
		} else {
			flow[who/2].Roles = append(flow[who/2].Roles, role)
		}
	}
	return flow, people, acts
}

func TestHowManyActsThereMayBe(t *testing.T) {
	flow, people, acts := wholeHouse()
	maker := impl.MaxPeople - 1
	for count := range acts {
		checkApprove(t, flow, people, maker, impl.MaxMoney, acts[:count], impl.Open, count)
	}
	checkApprove(t, flow, people, maker, impl.MaxMoney, acts, impl.Done, len(acts))
	many := append(slices.Clone(acts), slices.Repeat([]impl.Act{actOf(0, "all")}, 1000)...)
	for count := len(acts) + 1; count <= impl.MaxActs; count++ {
		checkApprove(t, flow, people, maker, impl.MaxMoney, many[:count], impl.Refused, len(acts))
	}
	for _, count := range []int{impl.MaxActs + 1, impl.MaxActs + 2, len(many)} {
		checkApprove(t, flow, people, maker, impl.MaxMoney, many[:count], impl.Refused, -1)
	}
	none := make([]impl.Act, impl.MaxActs+1)
	checkApprove(t, nil, people, maker, 0, none[:impl.MaxActs], impl.Refused, 0)
	checkApprove(t, nil, people, maker, 0, none, impl.Refused, -1)
	checkApprove(t, flow, people, maker, impl.MaxMoney, none[:impl.MaxActs], impl.Refused, 0)
	checkApprove(t, flow, people, maker, impl.MaxMoney, none, impl.Refused, -1)
}

// Acts that are mostly right: for the next role, by one who may and has not acted, but for now and then another one.
func someActs(chance *rand.Rand, flow []impl.Step, list []impl.Person, maker, amount int) []impl.Act {
	acts := []impl.Act{}
	for _, role := range wantNeeded(flow, amount) {
		who := chance.Intn(len(list))
		for _, place := range chance.Perm(len(list)) {
			acted := slices.ContainsFunc(acts, func(a impl.Act) bool { return a.Who == place })
			if chance.Intn(25) > 0 && place != maker && !acted && wantMay(list, place, role, amount) {
				who = place
				break
			}
		}
		acts = append(acts, actOf(who, role))
	}
	switch chance.Intn(5) {
	case 0:
		acts = acts[:chance.Intn(len(acts)+1)]
	case 1:
		acts = append(acts, actOf(chance.Intn(len(list)), []string{"a", "b", "c"}[chance.Intn(3)]))
	}
	return acts
}

func TestSomeApprovals(t *testing.T) {
	chance := rand.New(rand.NewSource(116))
	told, late := [3]int{}, 0
	for range 20000 {
		flow := []impl.Step{}
		roles := []string{"a", "b", "c"}
		for over := chance.Intn(2); over < 5 && chance.Intn(4) > 0; over += 1 + chance.Intn(2) {
			chance.Shuffle(3, func(i, k int) { roles[i], roles[k] = roles[k], roles[i] })
			flow = append(flow, stepOf(over, slices.Clone(roles[:1+chance.Intn(2)])...))
		}
		list := somePeople(chance, 1+chance.Intn(8))
		maker, amount := chance.Intn(len(list)), chance.Intn(7)-1
		acts := someActs(chance, flow, list, maker, amount)
		state, count := wantApprove(flow, list, maker, amount, acts)
		checkApprove(t, flow, list, maker, amount, acts, state, count)
		told[state]++
		if state == impl.Done && count > 1 || state == impl.Refused && count > 0 {
			late++
		}
	}
	if slices.Min(told[:]) < 500 || late < 1000 {
		t.Errorf("told %v, of them late %d", told, late)
	}
}

// Every list of up to three acts, by all people for all roles: nothing is Done but as it must be.
func TestAllApprovalsOfFew(t *testing.T) {
	flow := []impl.Step{stepOf(0, "a"), stepOf(5, "b", "a")}
	list := []impl.Person{personOf("p", 9, "a", "b"), personOf("q", 9, "a"), awayFor(personOf("r", 9, "b"), "q"), personOf("s", 6, "b")}
	moves := []impl.Act{}
	for who := -1; who <= len(list); who++ {
		moves = append(moves, actOf(who, "a"), actOf(who, "b"))
	}
	lists := [][]impl.Act{{}}
	for at := 0; at < len(lists) && len(lists[at]) < 3; at++ {
		for _, act := range moves {
			lists = append(lists, append(slices.Clone(lists[at]), act))
		}
	}
	done := 0
	for maker := range list {
		for _, amount := range []int{0, 1, 5, 6, 7, 10} {
			for _, acts := range lists {
				state, count := wantApprove(flow, list, maker, amount, acts)
				checkApprove(t, flow, list, maker, amount, acts, state, count)
				if state == impl.Done {
					done++
				}
			}
		}
	}
	if done < 20 {
		t.Errorf("%d were Done", done)
	}
}

// Behind the lists stands more, which is neither read nor written.
func TestApproveLeavesItsLists(t *testing.T) {
	wide := []string{"board", "clerk", "a b"}
	flow := append(threeRoles()[:2], stepOf(100, wide[:2]...), stepOf(3))
	people := append(sevenPeople(), personOf("c1", -5, ""))
	acts := append(slices.Clone(rightActs), actOf(99, "more"))
	keptFlow, keptPeople, keptActs, keptWide := copyFlow(flow), copyPeople(people), slices.Clone(acts), slices.Clone(wide)
	for maker := -1; maker <= 7; maker++ {
		for _, amount := range []int{-5, 0, 51, 101, impl.MaxMoney + 1} {
			for count := range acts {
				state, at := wantApprove(flow[:3], people[:7], maker, amount, acts[:count])
				checkApprove(t, flow[:3], people[:7], maker, amount, acts[:count], state, at)
			}
		}
	}
	checkApprove(t, flow[:3], people[:7], noRolePlace, 101, acts[:3], impl.Done, 3)
	if !sameFlow(flow, keptFlow) || !slices.EqualFunc(people, keptPeople, samePerson) || !slices.Equal(acts, keptActs) || !slices.Equal(wide, keptWide) {
		t.Error("Approve wrote into what it was given")
	}
}
