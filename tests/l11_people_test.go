package tests

import (
	"math"
	"math/rand"
	"slices"
	"strconv"
	"strings"
	"testing"

	"loop.example/g00040/impl"
)

func personOf(name string, limit int, roles ...string) impl.Person {
	return impl.Person{Name: name, Limit: limit, Roles: roles}
}

func awayFor(p impl.Person, standIn string) impl.Person {
	p.Away, p.For = true, standIn
	return p
}

// ann is in; bob is away, for him stands cyd, who has no role; dan is away and nobody stands in for him; eve has someone who would, but is in.
func handPeople() []impl.Person {
	eve := personOf("eve", 700, "audit", "head")
	eve.For = "ann"
	return []impl.Person{
		personOf("ann", 50000, "clerk"),
		awayFor(personOf("bob", 20000, "head", "clerk"), "cyd"),
		personOf("cyd", 0),
		awayFor(personOf("dan", 900, "board"), ""),
		eve,
	}
}

func copyPeople(list []impl.Person) []impl.Person {
	other := slices.Clone(list)
	for i, p := range list {
		other[i].Roles = slices.Clone(p.Roles)
	}
	return other
}

func samePerson(a, b impl.Person) bool {
	return a.Name == b.Name && slices.Equal(a.Roles, b.Roles) && a.Limit == b.Limit && a.For == b.For && a.Away == b.Away
}

func wantPeopleOk(list []impl.Person) bool {
	if len(list) > impl.MaxPeople {
		return false
	}
	for i, p := range list {
		if len(p.Roles) > impl.MaxRoles || p.Limit < 0 || p.Limit > impl.MaxMoney {
			return false
		}
		for _, name := range append([]string{p.Name}, p.Roles...) {
			if !accountName.MatchString(name) {
				return false
			}
		}
		found := p.For == ""
		for k, other := range list {
			if k == i {
				continue
			}
			if other.Name == p.Name {
				return false
			}
			found = found || other.Name == p.For
		}
		if !found {
			return false
		}
	}
	return true
}

func wantMay(list []impl.Person, who int, role string, amount int) bool {
	if !wantPeopleOk(list) || who < 0 || who >= len(list) || list[who].Away {
		return false
	}
	for i, p := range list {
		if i != who && (!p.Away || p.For != list[who].Name) {
			continue
		}
		if p.Limit >= amount && slices.Contains(p.Roles, role) {
			return true
		}
	}
	return false
}

func checkMay(t *testing.T, list []impl.Person, who int, role string, amount int, want bool) {
	t.Helper()
	if got := impl.May(list, who, role, amount); got != want || wantMay(list, who, role, amount) != want {
		t.Errorf("May(%v, %d, %q, %d) = %v; want %v", list[:min(6, len(list))], who, role, amount, got, want)
	}
}

// checkPeople asks May and Approve for their answers to people who are not right, too.
func checkPeople(t *testing.T, want bool, list ...impl.Person) {
	t.Helper()
	if got := impl.PeopleOk(list); got != want || wantPeopleOk(list) != want {
		t.Errorf("PeopleOk(%d people) = %v; want %v: %v", len(list), got, want, list[:min(45, len(list))])
	}
	if want {
		return
	}
	for _, who := range []int{-1, 0, 1, len(list) - 1, len(list)} {
		for _, role := range []string{"clerk", "head", "a", ""} {
			checkMay(t, list, who, role, 0, false)
			checkMay(t, list, who, role, -1, false)
		}
		if state, at := impl.Approve(nil, list, who, 0, nil); state != impl.Refused || at != -1 {
			t.Errorf("Approve(.., %v, %d, ..) = %d, %d; want Refused, -1", list[:min(6, len(list))], who, state, at)
		}
	}
}

func peopleWith(change func(list []impl.Person)) []impl.Person {
	list := handPeople()
	change(list)
	return list
}

func manyPeople(count int) []impl.Person {
	list := make([]impl.Person, count)
	for i := range list {
		list[i] = personOf("p"+strconv.Itoa(i), 10*i, "r"+strconv.Itoa(i), "all")
	}
	return list
}

func TestPeopleByHand(t *testing.T) {
	checkPeople(t, true)
	checkPeople(t, true, []impl.Person{}...)
	checkPeople(t, true, handPeople()...)
	checkPeople(t, true, impl.Person{Name: "a"})
	checkPeople(t, false, impl.Person{})
	checkPeople(t, false, append(handPeople(), impl.Person{})...)
}

func TestHowManyPeopleThereMayBe(t *testing.T) {
	for count := range impl.MaxPeople + 1 {
		checkPeople(t, true, manyPeople(count)...)
	}
	for _, count := range []int{impl.MaxPeople + 1, impl.MaxPeople + 2, 100000} {
		checkPeople(t, false, manyPeople(count)...)
		checkPeople(t, false, make([]impl.Person, count)...)
	}
	checkMay(t, manyPeople(impl.MaxPeople), impl.MaxPeople-1, "all", 10*(impl.MaxPeople-1), true)
	checkMay(t, manyPeople(impl.MaxPeople+1), 0, "all", 0, false)
}

func TestNamesOfPeople(t *testing.T) {
	for at := range handPeople() {
		for _, name := range noNames {
			checkPeople(t, false, peopleWith(func(list []impl.Person) { list[at].Name = name })...)
		}
		for other := range handPeople() {
			if other != at {
				checkPeople(t, false, peopleWith(func(list []impl.Person) { list[at].Name = list[other].Name })...)
			}
		}
	}
	for _, name := range []string{"a", "Z", "0", "-", "_", ".", "Ann", "ANN", "ann.", strings.Repeat("n", impl.MaxName)} {
		checkPeople(t, true, append(handPeople(), personOf(name, 5, "clerk"))...)
	}
	twice := manyPeople(impl.MaxPeople)
	twice[impl.MaxPeople-1].Name = twice[0].Name
	checkPeople(t, false, twice...)
	checkPeople(t, false, personOf("a", 5), personOf("a", 6))
	checkPeople(t, false, personOf("a", 5), personOf("b", 5), personOf("a", 5))
}

func TestRolesOfPeople(t *testing.T) {
	for at, p := range handPeople() {
		for _, role := range noNames {
			checkPeople(t, false, peopleWith(func(list []impl.Person) { list[at].Roles = append(list[at].Roles, role) })...)
			for k := range p.Roles {
				checkPeople(t, false, peopleWith(func(list []impl.Person) { list[at].Roles[k] = role })...)
			}
		}
		for count := range impl.MaxRoles + 3 {
			checkPeople(t, count <= impl.MaxRoles, peopleWith(func(list []impl.Person) { list[at].Roles = rolesUpTo(count) })...)
		}
		checkPeople(t, false, peopleWith(func(list []impl.Person) { list[at].Roles = make([]string, 100000) })...)
	}
	// Nothing is said against a role twice; it counts as one of them.
	checkPeople(t, true, personOf("a", 5, "r", "r"))
	checkPeople(t, true, personOf("a", 5, slices.Repeat([]string{"r"}, impl.MaxRoles)...))
	checkPeople(t, false, personOf("a", 5, slices.Repeat([]string{"r"}, impl.MaxRoles+1)...))
	checkPeople(t, true, personOf("a", 5, "a"), personOf("b", 5, "a", "b"))
}

func TestLimitsOfPeople(t *testing.T) {
	for at := range handPeople() {
		for _, limit := range []int{0, 1, impl.MaxMoney - 1, impl.MaxMoney} {
			checkPeople(t, true, peopleWith(func(list []impl.Person) { list[at].Limit = limit })...)
		}
		for _, limit := range append([]int{-1, -2, -impl.MaxMoney}, noAmounts...) {
			checkPeople(t, false, peopleWith(func(list []impl.Person) { list[at].Limit = limit })...)
		}
	}
}

func TestWhoStandsInForWhom(t *testing.T) {
	for at, p := range handPeople() {
		for _, away := range []bool{true, false} {
			for k, other := range handPeople() {
				list := peopleWith(func(list []impl.Person) { list[at].For, list[at].Away = other.Name, away })
				checkPeople(t, k != at, list...)
			}
			for _, nobody := range append([]string{"nobody", "ANN", "an", "annn", "ann ", " ", "clerk", p.Name + "."}, noNames[1:]...) {
				list := peopleWith(func(list []impl.Person) { list[at].For, list[at].Away = nobody, away })
				checkPeople(t, false, list...)
			}
			checkPeople(t, true, peopleWith(func(list []impl.Person) { list[at].For, list[at].Away = "", away })...)
		}
	}
	one := personOf("a", 5)
	one.For = "a"
	checkPeople(t, false, one)
	one.For = "b"
	checkPeople(t, false, one)
	checkPeople(t, true, one, personOf("b", 5))
	checkPeople(t, true, personOf("b", 5), one)
	other := personOf("b", 5)
	other.For = "a" // for one another
	checkPeople(t, true, one, other)
}

func TestMayByHand(t *testing.T) {
	list := handPeople()
	checkMay(t, list, 0, "clerk", 50000, true)
	checkMay(t, list, 0, "clerk", 50001, false)
	checkMay(t, list, 0, "clerk", 0, true)
	checkMay(t, list, 0, "head", 0, false)
	checkMay(t, list, 0, "audit", 1, false) // eve is in
	checkMay(t, list, 1, "head", 1, false)
	checkMay(t, list, 1, "clerk", 0, false)
	checkMay(t, list, 2, "head", 20000, true)
	checkMay(t, list, 2, "head", 20001, false)
	checkMay(t, list, 2, "clerk", 20000, true)
	checkMay(t, list, 2, "clerk", 20001, false)
	checkMay(t, list, 2, "board", 0, false)
	checkMay(t, list, 3, "board", 0, false)
	checkMay(t, list, 4, "audit", 700, true)
	checkMay(t, list, 4, "audit", 701, false)
	checkMay(t, list, 4, "head", 700, true)
	checkMay(t, list, 4, "board", 0, false)
	list[4].Away = true
	checkMay(t, list, 4, "audit", 700, false)
	checkMay(t, list, 0, "audit", 700, true)
	checkMay(t, list, 0, "audit", 701, false)
	checkMay(t, list, 0, "clerk", 50000, true)
}

func TestPlacesAndRolesOfMay(t *testing.T) {
	for _, who := range append([]int{5, 6}, farPlaces...) {
		for _, role := range []string{"clerk", "head", ""} {
			checkMay(t, handPeople(), who, role, 0, false)
			checkMay(t, handPeople(), who, role, -5, false)
			checkMay(t, nil, who, role, 0, false)
		}
	}
	checkMay(t, nil, 0, "clerk", 0, false)
	for _, role := range append([]string{"Clerk", "CLERK", "cler", "clerks", "clerk ", "ann"}, noNames...) {
		for who := range handPeople() {
			checkMay(t, handPeople(), who, role, 0, false)
			checkMay(t, handPeople(), who, role, math.MinInt, false)
		}
	}
}

// A Limit of 0 is at least every amount that is not above 0; no Limit is at least one beyond the amounts.
func TestAmountsOfMay(t *testing.T) {
	for _, limit := range []int{0, 1, 500, impl.MaxMoney - 1, impl.MaxMoney} {
		alone := []impl.Person{personOf("a", limit, "r")}
		instead := []impl.Person{personOf("b", 0), awayFor(personOf("a", limit, "r"), "b")}
		for _, list := range [][]impl.Person{alone, instead} {
			for _, amount := range []int{math.MinInt, -impl.MaxMoney - 1, -impl.MaxMoney, -1, 0, limit - 1, limit} {
				checkMay(t, list, 0, "r", amount, true)
				checkMay(t, list, 0, "s", amount, false)
			}
			for _, amount := range []int{limit + 1, impl.MaxMoney + 1, math.MaxInt} {
				checkMay(t, list, 0, "r", amount, false)
			}
		}
	}
}

// The role and the Limit must be one person's, not the one of who stands in and the other of who is away.
func TestMayNeedsBothOfOne(t *testing.T) {
	away := awayFor(personOf("a", 100, "head"), "b")
	for _, list := range [][]impl.Person{
		{away, personOf("b", 1000, "clerk")},
		{personOf("b", 1000, "clerk"), away},
	} {
		who := slices.IndexFunc(list, func(p impl.Person) bool { return p.Name == "b" })
		checkMay(t, list, who, "head", 100, true)
		checkMay(t, list, who, "head", 101, false)
		checkMay(t, list, who, "clerk", 1000, true)
		checkMay(t, list, who, "clerk", 1001, false)
		checkMay(t, list, 1-who, "head", 0, false)
	}
	// The same role twice: the greater Limit counts.
	checkMay(t, []impl.Person{away, personOf("b", 10, "head")}, 1, "head", 100, true)
	checkMay(t, []impl.Person{away, personOf("b", 200, "head")}, 1, "head", 200, true)
	checkMay(t, []impl.Person{away, awayFor(personOf("c", 300, "head"), "b"), personOf("b", 0)}, 2, "head", 300, true)
	checkMay(t, []impl.Person{away, awayFor(personOf("c", 300, "head"), "b"), personOf("b", 0)}, 2, "head", 301, false)
	in := away
	in.Away = false
	checkMay(t, []impl.Person{in, personOf("b", 1000, "clerk")}, 1, "head", 0, false)
	checkMay(t, []impl.Person{in, personOf("b", 1000, "clerk")}, 0, "head", 100, true)
	other := awayFor(personOf("a", 100, "head"), "c")
	checkMay(t, []impl.Person{other, personOf("b", 1000, "clerk"), personOf("c", 0)}, 1, "head", 0, false)
	checkMay(t, []impl.Person{other, personOf("b", 1000, "clerk"), personOf("c", 0)}, 2, "head", 100, true)
}

// c stands in for b alone, not for a, for whom b would.
func TestMayGoesNoFurtherThanOne(t *testing.T) {
	list := []impl.Person{
		awayFor(personOf("a", 500, "head"), "b"),
		awayFor(personOf("b", 300, "clerk"), "c"),
		personOf("c", 0),
	}
	checkMay(t, list, 2, "clerk", 300, true)
	checkMay(t, list, 2, "head", 0, false)
	checkMay(t, list, 1, "head", 0, false)
	checkMay(t, list, 1, "clerk", 0, false)
	list[1].Away = false
	checkMay(t, list, 1, "head", 500, true)
	checkMay(t, list, 1, "clerk", 300, true)
	checkMay(t, list, 2, "clerk", 0, false)
	checkMay(t, list, 2, "head", 0, false)
	// For one another: who is in stands in for who is away, and if both are away nobody does.
	list = []impl.Person{awayFor(personOf("a", 500, "head"), "b"), awayFor(personOf("b", 300, "clerk"), "a")}
	for who := range list {
		checkMay(t, list, who, "head", 0, false)
		checkMay(t, list, who, "clerk", 0, false)
	}
	list[0].Away = false
	checkMay(t, list, 0, "head", 500, true)
	checkMay(t, list, 0, "clerk", 300, true)
	checkMay(t, list, 0, "clerk", 301, false)
	checkMay(t, list, 1, "head", 0, false)
}

func somePeople(chance *rand.Rand, count int) []impl.Person {
	list := make([]impl.Person, count)
	for i := range list {
		list[i] = personOf("p"+strconv.Itoa(i), chance.Intn(6))
		for _, role := range []string{"a", "b", "c"} {
			if chance.Intn(3) == 0 {
				list[i].Roles = append(list[i].Roles, role)
			}
		}
		if k := chance.Intn(count); k != i && chance.Intn(3) > 0 {
			list[i].For = "p" + strconv.Itoa(k)
		}
		list[i].Away = chance.Intn(3) == 0
	}
	return list
}

func spoilPeople(chance *rand.Rand, list []impl.Person) {
	p := &list[chance.Intn(len(list))]
	switch chance.Intn(5) {
	case 0:
		p.Name = list[chance.Intn(len(list))].Name
	case 1:
		p.Limit -= chance.Intn(5)
	case 2:
		p.For = []string{p.Name, "", "nobody", list[0].Name}[chance.Intn(4)]
	case 3:
		p.Roles = append(p.Roles, []string{"a", "", "a b", "A"}[chance.Intn(4)])
	case 4:
		p.Name = []string{"", "new", "é"}[chance.Intn(3)]
	}
}

func TestSomePeople(t *testing.T) {
	chance := rand.New(rand.NewSource(115))
	right, wrong, may, mayNot := 0, 0, 0, 0
	for range 3000 {
		list := somePeople(chance, 1+chance.Intn(6))
		for range chance.Intn(3) {
			spoilPeople(chance, list)
		}
		want := wantPeopleOk(list)
		checkPeople(t, want, list...)
		if !want {
			wrong++
			continue
		}
		right++
		for who := range list {
			for _, role := range []string{"a", "b", "c"} {
				amount := chance.Intn(7) - 1
				if wantMay(list, who, role, amount) {
					checkMay(t, list, who, role, amount, true)
					may++
				} else {
					checkMay(t, list, who, role, amount, false)
					mayNot++
				}
			}
		}
	}
	if right < 500 || wrong < 500 || may < 1000 || mayNot < 1000 {
		t.Errorf("%d right, %d wrong; %d may, %d may not", right, wrong, may, mayNot)
	}
}

// Behind the lists stands more, which is neither read nor written.
func TestPeopleStayAsTheyWere(t *testing.T) {
	wide := []string{"head", "clerk", "a b", ""}
	whole := append(handPeople(), personOf("fay", 5, wide[:2]...), personOf("", -1), personOf("ann", 5))
	kept, keptWide := copyPeople(whole), slices.Clone(wide)
	list := whole[:6]
	checkPeople(t, true, list...)
	for who := -1; who <= 7; who++ {
		for _, role := range []string{"head", "clerk", "a b", ""} {
			want := wantMay(list, who, role, 5)
			checkMay(t, list, who, role, 5, want)
		}
	}
	checkMay(t, list, 5, "clerk", 5, true)
	if !slices.EqualFunc(whole, kept, samePerson) || !slices.Equal(wide, keptWide) {
		t.Error("people were written into")
	}
}
