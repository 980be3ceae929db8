package tests

import (
	"math/rand"
	"slices"
	"testing"

	"loop.example/g00040/impl"
)

// Each is asked for itself, up all that it is part of.
func wantLevel(items []impl.Item, at int) int {
	level := 0
	for i, item := range items[:at] {
		if slices.ContainsFunc(item.Parts, func(p impl.Part) bool { return p.Item == at }) {
			level = max(level, wantLevel(items, i)+1)
		}
	}
	return level
}

func checkLevels(t *testing.T, items []impl.Item, want ...int) []int {
	t.Helper()
	kept := copyItems(items)
	got := impl.Levels(items)
	if !slices.Equal(got, want) {
		t.Errorf("Levels(%v) = %v; want %v", shortItems(items), got, want)
	}
	checkLevelsPromise(t, items, got)
	if !sameItems(items, kept) {
		t.Fatalf("Levels(%v) wrote into its items", shortItems(kept))
	}
	return got
}

// Each part stands at least one step lower than what it is part of, and one just so; what is no part of any stands at the top.
func checkLevelsPromise(t *testing.T, items []impl.Item, levels []int) {
	t.Helper()
	above := repeated(-1, len(items)) // the lowest one that it is part of
	for i, item := range items {
		for _, p := range item.Parts {
			above[p.Item] = max(above[p.Item], levels[i])
		}
	}
	for i, level := range levels {
		if level != above[i]+1 {
			t.Errorf("Levels(%v) = %v: item %d stands at %d, the lowest of those that it is part of at %d", shortItems(items), levels, i, level, above[i])
		}
	}
}

func TestLevelsByHand(t *testing.T) {
	checkLevels(t, handBench(), 0, 1, 2, 2, 3, 3, 0)
	checkLevels(t, goodsOf(madeOf(1)), 0)
	checkLevels(t, goodsOf(madeOf(1), madeOf(1), madeOf(1)), 0, 0, 0)
	checkLevels(t, goodsOf(madeOf(1, takes(2, 1)), madeOf(1), madeOf(1)), 0, 0, 1)
	// Two ways, the longer one first or last, and from another beginning.
	checkLevels(t, goodsOf(madeOf(1, takes(3, 1), takes(1, 1)), madeOf(1, takes(2, 1)), madeOf(1, takes(3, 1)), madeOf(1)), 0, 1, 2, 3)
	checkLevels(t, goodsOf(madeOf(1, takes(1, 1)), madeOf(1, takes(2, 1)), madeOf(1, takes(4, 1)), madeOf(1, takes(4, 1)), madeOf(1)), 0, 1, 2, 0, 3)
	checkLevels(t, goodsOf(madeOf(1, takes(4, 1)), madeOf(1, takes(2, 1)), madeOf(1, takes(3, 1)), madeOf(1, takes(4, 1)), madeOf(1)), 0, 0, 1, 2, 3)
	// The same Item twice is one step.
	checkLevels(t, goodsOf(madeOf(1, takes(1, 1), takes(1, 2)), madeOf(1)), 0, 1)
}

func TestLevelsOfPartsAlone(t *testing.T) {
	// What comes out beside is no part; what counts on no day at hand, or never for its Group, is one.
	checkLevels(t, goodsOf(bringing(madeOf(1), takes(1, 1)), bringing(madeOf(1, takes(2, 1)), takes(3, 1)), madeOf(1), madeOf(1)), 0, 0, 1, 0)
	checkLevels(t, goodsOf(madeOf(1, takesOn(0, 0, 1, 1)), madeOf(1, takesOn(impl.MaxDay, impl.MaxDay, 2, 1)), madeOf(1)), 0, 1, 2)
	checkLevels(t, goodsOf(madeOf(1, grouped(1, takes(2, 1)), grouped(1, takes(1, 1))), madeOf(1, takes(2, 1)), madeOf(1)), 0, 1, 2)
	checkLevels(t, goodsOf(phantomOf(1, takes(1, 1)), phantomOf(1, takes(2, 1)), madeOf(1)), 0, 1, 2)
}

func TestHowFarDownItMayGo(t *testing.T) {
	for steps := impl.MaxLevel - 2; steps <= impl.MaxLevel; steps++ {
		want := daysFrom(0, steps+1)
		checkLevels(t, lineOfItems(steps+1, 0), want...)
		items := lineOfItems(steps+1, 0)
		items[0].Parts = append([]impl.Part{takes(steps, 1), takes(steps/2, 1)}, items[0].Parts...)
		checkLevels(t, items, want...)
	}
	for steps := impl.MaxLevel + 1; steps < impl.MaxItems; steps += 9 {
		if levels := impl.Levels(lineOfItems(steps+1, 0)); len(levels) != 0 {
			t.Errorf("Levels of %d steps = %v; want nothing", steps, levels)
		}
	}
	full := manyItems(impl.MaxItems)
	for i := range full {
		full[i].Batch = 1
		for k := i + 20; k < len(full); k++ {
			if len(full[i].Parts) < impl.MaxPartsOf {
				full[i].Parts = append(full[i].Parts, takes(k, 1))
			}
		}
	}
	checkLevels(t, full, append(append(repeated(0, 20), repeated(1, 20)...), repeated(2, 20)...)...)
}

func TestLevelsOfWrongItems(t *testing.T) {
	for _, items := range [][]impl.Item{nil, {}, {{}}, goodsOf(madeOf(0)), goodsOf(madeOf(1, takes(0, 1))), goodsOf(madeOf(1, takes(1, 1))), goodsOf(madeOf(1), madeOf(1, takes(0, 1))), goodsOf(phantomOf(1)), manyItems(impl.MaxItems + 1), append(goodsOf(madeOf(1)), goodsOf(madeOf(1))...)} {
		if levels := impl.Levels(items); len(levels) != 0 {
			t.Errorf("Levels(%v) = %v; want nothing", shortItems(items), levels)
		}
	}
}

func TestSomeLevels(t *testing.T) {
	chance := rand.New(rand.NewSource(176))
	for range 4000 {
		items := someItems(chance, 9)
		want := make([]int, len(items))
		for at := range items {
			want[at] = wantLevel(items, at)
		}
		checkLevels(t, items, want...)
	}
}

func TestLevelsAreNew(t *testing.T) {
	items := roomyItems(handBench())
	kept := allRoom(items)
	for range 2 {
		got := checkLevels(t, items, 0, 1, 2, 2, 3, 3, 0)
		for i := range got[:cap(got)] {
			got[:cap(got)][i] = -9
		}
	}
	if !sameItems(allRoom(items), kept) {
		t.Error("the items were written into")
	}
}
