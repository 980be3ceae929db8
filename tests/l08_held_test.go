package tests

import (
	"math/rand"
	"slices"
	"testing"

	"loop.example/g00040/impl"
)

// Up from the member to the first one, then down again: the shares on its way, each rounded.
func wantHeldOf(g impl.Group, at int) int {
	if at == 0 {
		return 10000
	}
	return wantMulDiv(wantHeldOf(g, g.Members[at].Parent), g.Members[at].Share, 10000, impl.Half)
}

func wantHeld(g impl.Group) []int {
	held := []int{}
	for at := range g.Members {
		held = append(held, wantHeldOf(g, at))
	}
	return held
}

// The second part of P22: of no member more is held than of its Parent.
func checkHeldPromise(t *testing.T, g impl.Group, held []int) {
	t.Helper()
	if len(held) != len(g.Members) || held[0] != 10000 {
		t.Errorf("Held(%v) = %v", g.Members, held)
		return
	}
	for at, m := range g.Members {
		if held[at] < 0 || at > 0 && held[at] > held[m.Parent] {
			t.Errorf("Held(%v) = %v: of member %d there is too much", g.Members, held, at)
		}
	}
}

func checkHeld(t *testing.T, g impl.Group, want ...int) {
	t.Helper()
	got := impl.Held(g)
	if !slices.Equal(got, want) {
		t.Errorf("Held(%v) = %v; want %v", g.Members, got, want)
		return
	}
	checkHeldPromise(t, g, got)
}

func refuseHeld(t *testing.T, g impl.Group) {
	t.Helper()
	if got := impl.Held(g); len(got) != 0 {
		t.Errorf("Held(%d accounts, %d currencies, %v, %d, %d) = %v; want nothing", len(g.Chart), g.Curs, g.Members, g.Minor, g.Shift, got)
	}
}

// A group whose members have these Parents and Shares: a Parent, a Share, a Parent, a Share ..
func heldGroup(pairs ...int) impl.Group {
	g := groupOf(houseOf(0))
	for i := 0; i < len(pairs); i += 2 {
		g.Members = append(g.Members, memberOf(pairs[i], pairs[i+1], 0))
	}
	return g
}

func TestHeldByHand(t *testing.T) {
	checkHeld(t, handGroup(), 10000, 7500, 3750, 3333)
	checkHeld(t, heldGroup(), 10000)
	checkHeld(t, groupOf(houseOf(3)), 10000)
	checkHeld(t, heldGroup(0, 1), 10000, 1)
	checkHeld(t, heldGroup(0, 10000), 10000, 10000)
	checkHeld(t, heldGroup(0, 6000, 0, 3000, 0, 9999), 10000, 6000, 3000, 9999)
	checkHeld(t, heldGroup(0, 6000, 1, 5000, 2, 1000, 3, 10000), 10000, 6000, 3000, 300, 300)
	checkHeld(t, heldGroup(0, 6000, 0, 5000, 1, 5000, 2, 5000, 1, 1000), 10000, 6000, 5000, 3000, 2500, 600)
	checkHeld(t, heldGroup(0, 10000, 1, 10000, 2, 4000, 2, 6000), 10000, 10000, 10000, 4000, 6000)
}

// A half is rounded up, and what is rounded goes on rounded to the members below.
func TestHeldIsRoundedOnTheWay(t *testing.T) {
	checkHeld(t, heldGroup(0, 5000, 1, 1, 1, 2), 10000, 5000, 1, 1)
	checkHeld(t, heldGroup(0, 4999, 1, 1, 1, 2, 1, 3), 10000, 4999, 0, 1, 1)
	checkHeld(t, heldGroup(0, 7500, 1, 3333, 2, 3333), 10000, 7500, 2500, 833)
	checkHeld(t, heldGroup(0, 25, 1, 1800, 2, 9000, 3, 9000), 10000, 25, 5, 5, 5)
	checkHeld(t, heldGroup(0, 25, 1, 1799, 2, 8749), 10000, 25, 4, 3)
	checkHeld(t, heldGroup(0, 1, 1, 5000, 2, 5000, 3, 5000, 4, 4999, 5, 10000), 10000, 1, 1, 1, 1, 0, 0)
	checkHeld(t, groupOfMany(impl.MaxMembers, 5000), 10000, 5000, 2500, 1250, 625, 313, 157, 79, 40, 20, 10, 5)
	checkHeld(t, groupOfMany(impl.MaxMembers, 10000), repeated(10000, impl.MaxMembers)...)
	checkHeld(t, groupOfMany(impl.MaxMembers, 1), 10000, 1, 0, 0, 0, 0, 0, 0, 0, 0, 0, 0)
}

// Every share of every part of a member that is held itself.
func TestHeldOfAllShares(t *testing.T) {
	for _, above := range []int{1, 2, 3, 777, 5000, 9999, 10000} {
		for share := 1; share <= 10000; share += 37 {
			g := heldGroup(0, above, 1, share)
			checkHeld(t, g, wantHeld(g)...)
		}
		g := heldGroup(0, above, 1, 10000)
		checkHeld(t, g, 10000, above, above)
	}
}

func TestHeldOfWrongGroups(t *testing.T) {
	for _, g := range wrongGroups() {
		refuseHeld(t, g)
	}
}

func TestHeldOfSomeGroups(t *testing.T) {
	chance := rand.New(rand.NewSource(82))
	for range 1000 {
		g := someGroup(chance)
		checkHeld(t, g, wantHeld(g)...)
		spoilGroup(chance, &g)
		if wantGroupOk(g) {
			checkHeld(t, g, wantHeld(g)...)
		} else {
			refuseHeld(t, g)
		}
	}
}

func TestHeldIsNewMemory(t *testing.T) {
	g := handGroup()
	one, other := impl.Held(g), impl.Held(g)
	one[0], one[3] = -1, -1
	_ = append(one, 7)
	if !slices.Equal(other, []int{10000, 7500, 3750, 3333}) || !sameGroup(g, handGroup()) {
		t.Errorf("Held hands out what it keeps: %v", other)
	}
}
