package tests

import (
	"math"
	"math/rand"
	"slices"
	"strconv"
	"testing"

	"loop.example/g00040/impl"
)

const mostScrap = 100 // hundredths
const mostGroup = 9

var noScraps = []int{math.MinInt, -mostScrap, -2, -1, mostScrap + 1, mostScrap + 2, math.MaxInt}

var noGroups = []int{math.MinInt, -mostGroup, -2, -1, mostGroup + 1, mostGroup + 2, math.MaxInt}

// A Part that counts on every day.
func takes(item, qty int) impl.Part { return impl.Part{Item: item, Qty: qty, Last: impl.MaxDay} }

func takesOn(first, last, item, qty int) impl.Part {
	return impl.Part{Item: item, Qty: qty, First: first, Last: last}
}

func losing(scrap int, p impl.Part) impl.Part {
	p.Scrap = scrap
	return p
}

func grouped(group int, p impl.Part) impl.Part {
	p.Group = group
	return p
}

// An item that is made so many at a time; without Parts it is bought.
func madeOf(batch int, parts ...impl.Part) impl.Item { return impl.Item{Batch: batch, Parts: parts} }

func phantomOf(batch int, parts ...impl.Part) impl.Item {
	return impl.Item{Batch: batch, Phantom: true, Parts: parts}
}

func bringing(item impl.Item, also ...impl.Part) impl.Item {
	item.Also = also
	return item
}

// Items that are named after their places.
func goodsOf(items ...impl.Item) []impl.Item {
	for i := range items {
		items[i].Name = "i" + strconv.Itoa(i)
	}
	return items
}

// A bench of a set, of which none is ever there, and of screws; a set of legs and of a bag of screws; legs of wood, with dust beside.
func handBench() []impl.Item {
	return goodsOf(
		madeOf(1, takes(1, 1), losing(10, takes(4, 7))),
		phantomOf(1, takes(2, 4), takes(3, 1)),
		bringing(madeOf(6, takes(5, 3)), takes(6, 2)),
		phantomOf(10, takes(4, 100)),
		madeOf(1),
		madeOf(1),
		madeOf(1),
	)
}

func manyItems(count int) []impl.Item { return goodsOf(make([]impl.Item, count)...) }

// Items in a line, each a part of the one ahead, from place first on.
func lineOfItems(count, first int) []impl.Item {
	items := manyItems(count)
	for i := range items {
		items[i].Batch = 1
		if i >= first && i+1 < count {
			items[i].Parts = []impl.Part{takes(i+1, 1)}
		}
	}
	return items
}

func wantPartOk(p impl.Part, owner, count int) bool {
	placed := p.Item > owner && p.Item < count
	days := isDay(p.First) && isDay(p.Last) && p.Last >= p.First
	return placed && p.Qty != 0 && isQty(p.Qty) && placeAmong(p.Scrap, mostScrap+1) && days && placeAmong(p.Group, mostGroup+1)
}

func wantItemOk(i impl.Item, place, count int) bool {
	for _, p := range i.Parts {
		if !wantPartOk(p, place, count) {
			return false
		}
	}
	for _, p := range i.Also {
		if !wantPartOk(p, place, count) || p.Scrap != 0 || p.Group != 0 {
			return false
		}
	}
	if i.Phantom && (len(i.Parts) < 1 || len(i.Also) != 0) {
		return false
	}
	return accountName.MatchString(i.Name) && i.Batch != 0 && isQty(i.Batch) && max(len(i.Parts), len(i.Also)) <= impl.MaxPartsOf
}

// How many steps the longest way down from each item has, told from below.
func stepsBelow(items []impl.Item) []int {
	steps := make([]int, len(items))
	for i := len(items) - 1; i >= 0; i-- {
		for _, p := range items[i].Parts {
			steps[i] = max(steps[i], steps[p.Item]+1)
		}
	}
	return steps
}

func wantItemsOk(items []impl.Item) bool {
	if len(items) == 0 || len(items) > impl.MaxItems {
		return false
	}
	for i, item := range items {
		twice := slices.ContainsFunc(items[:i], func(ahead impl.Item) bool { return ahead.Name == item.Name })
		if twice || !wantItemOk(item, i, len(items)) {
			return false
		}
	}
	return slices.Max(stepsBelow(items)) <= impl.MaxLevel
}

// As much of items as a message can bear.
func shortItems(items []impl.Item) []impl.Item {
	short := slices.Clone(items[:min(5, len(items))])
	for i := range short {
		short[i].Parts = short[i].Parts[:min(4, len(short[i].Parts))]
		short[i].Also = short[i].Also[:min(4, len(short[i].Also))]
	}
	return short
}

func copyItems(items []impl.Item) []impl.Item {
	list := slices.Clone(items)
	for i := range list {
		list[i].Parts = slices.Clone(list[i].Parts)
		list[i].Also = slices.Clone(list[i].Also)
	}
	return list
}

func sameItems(a, b []impl.Item) bool {
	return slices.EqualFunc(a, b, func(i, k impl.Item) bool {
		return i.Name == k.Name && i.Batch == k.Batch && i.Phantom == k.Phantom && slices.Equal(i.Parts, k.Parts) && slices.Equal(i.Also, k.Also)
	})
}

// checkItems asks every function for its answer to items that are not right, too.
func checkItems(t *testing.T, want bool, items ...impl.Item) {
	t.Helper()
	kept := copyItems(items)
	if got := impl.ItemsOk(items); got != want || wantItemsOk(items) != want {
		t.Errorf("ItemsOk(%d items %v) = %v; want %v", len(items), shortItems(items), got, want)
	}
	if !want {
		refuseItems(t, items)
	} else if levels := impl.Levels(items); len(levels) != len(items) {
		t.Errorf("Levels(%d items %v) = %v; want one for each", len(items), shortItems(items), levels)
	}
	if !sameItems(items, kept) {
		t.Fatalf("items were written into: %v", shortItems(kept))
	}
}

func refuseItems(t *testing.T, items []impl.Item) {
	t.Helper()
	prices := make([]int, len(items))
	for _, at := range []int{-1, 0, 1, len(items) - 1, len(items)} {
		for _, qty := range []int{-1, 0, 1, impl.MaxQty + 1} {
			for _, k := range makings {
				if got, ok := k.ask(items, at, qty, 5); ok || len(got) != 0 {
					t.Errorf("%s(%v, %d, %d, 5) = %v, %v; want nothing of wrong items", k.name, shortItems(items), at, qty, got, ok)
				}
			}
			if cost, ok := impl.Cost(items, prices, at, qty, 5); ok || cost != 0 {
				t.Errorf("Cost(%v, %d prices, %d, %d, 5) = %d, %v; want 0 of wrong items", shortItems(items), len(prices), at, qty, cost, ok)
			}
		}
	}
	if levels := impl.Levels(items); len(levels) != 0 {
		t.Errorf("Levels(%v) = %v; want nothing of wrong items", shortItems(items), levels)
	}
}

func TestItemsByHand(t *testing.T) {
	checkItems(t, true, handBench()...)
	checkItems(t, true, goodsOf(madeOf(1))...)
	checkItems(t, false, madeOf(1))
	checkItems(t, false, impl.Item{Name: "a"})
	checkItems(t, true, impl.Item{Name: "a", Batch: 5})
	checkItems(t, false)
	checkItems(t, false, []impl.Item{}...)
}

func TestHowManyItemsThereMayBe(t *testing.T) {
	for _, count := range []int{0, 1, 2, impl.MaxItems - 1, impl.MaxItems, impl.MaxItems + 1, impl.MaxItems + 2, 1000} {
		items := manyItems(count)
		for i := range items {
			items[i].Batch = i + 1
		}
		checkItems(t, 1 <= count && count <= impl.MaxItems, items...)
	}
}

func TestNamesOfItems(t *testing.T) {
	for _, at := range []int{0, 1, impl.MaxItems - 1} {
		for _, name := range noNames {
			items := lineOfItems(impl.MaxItems, impl.MaxItems)
			items[at].Name = name
			checkItems(t, false, items...)
		}
		for other := range impl.MaxItems {
			items := lineOfItems(impl.MaxItems, impl.MaxItems)
			items[at].Name = items[other].Name
			checkItems(t, at == other, items...)
		}
		items := lineOfItems(impl.MaxItems, impl.MaxItems)
		items[at].Name = "I" + items[(at+1)%len(items)].Name[1:]
		checkItems(t, true, items...)
		items[at].Name = "abcdefghijKLMNOPQ-_."
		checkItems(t, true, items...)
	}
}

func TestBatchesOfItems(t *testing.T) {
	for at := range handBench() {
		for _, batch := range []int{1, 2, impl.MaxQty - 1, impl.MaxQty} {
			items := handBench()
			items[at].Batch = batch
			checkItems(t, true, items...)
		}
		for _, batch := range noQtysAbove0 {
			items := handBench()
			items[at].Batch = batch
			checkItems(t, false, items...)
		}
	}
}

// The same list as Parts and as Also of items at the first, a middle and the last place that may have some.
func eachSide(list []impl.Part) [][]impl.Item {
	all := [][]impl.Item{}
	for _, at := range []int{0, 3, impl.MaxItems - 2} {
		parts, also := lineOfItems(impl.MaxItems, impl.MaxItems), lineOfItems(impl.MaxItems, impl.MaxItems)
		parts[at].Parts, also[at].Also = list, list
		all = append(all, parts, also)
	}
	return all
}

func TestHowManyPartsAnItemMayHave(t *testing.T) {
	last := impl.MaxItems - 1
	for _, count := range []int{0, 1, 2, impl.MaxPartsOf - 1, impl.MaxPartsOf, impl.MaxPartsOf + 1, impl.MaxPartsOf + 2, 500} {
		for _, items := range eachSide(slices.Repeat([]impl.Part{takes(last, 1)}, count)) {
			checkItems(t, count <= impl.MaxPartsOf, items...)
		}
	}
	most := slices.Repeat([]impl.Part{takes(1, 1)}, impl.MaxPartsOf)
	checkItems(t, true, goodsOf(bringing(madeOf(1, most...), most...), madeOf(1))...)
	checkItems(t, true, goodsOf(phantomOf(1, most...), madeOf(1))...)
	checkItems(t, false, goodsOf(phantomOf(1, append(most, takes(1, 1))...), madeOf(1))...)
}

func TestWhereAPartMayStand(t *testing.T) {
	for owner := range 4 {
		for _, item := range []int{math.MinInt, -2, -1, 0, 1, 2, 3, 4, 5, impl.MaxItems - 1, impl.MaxItems, math.MaxInt} {
			want := item > owner && item < 4
			items := goodsOf(madeOf(1), madeOf(1), madeOf(1), madeOf(1))
			items[owner].Parts = []impl.Part{takes(item, 1)}
			checkItems(t, want, items...)
			items[owner].Phantom = true
			checkItems(t, want, items...)
			items[owner].Phantom, items[owner].Parts, items[owner].Also = false, nil, []impl.Part{takes(item, 1)}
			checkItems(t, want, items...)
			if owner < 3 {
				items[owner].Also = []impl.Part{takes(3, 1), takes(item, 1)}
				checkItems(t, want, items...)
				items[owner].Parts, items[owner].Also = items[owner].Also, nil
				checkItems(t, want, items...)
			}
		}
	}
}

// checkPart asks for a Part as the first, the middle and the last one of its item, in Parts and in Also.
func checkPart(t *testing.T, want, wantBeside bool, p impl.Part) {
	t.Helper()
	p.Item = 2
	for at := range 3 {
		list := []impl.Part{takes(1, 1), takes(2, 1), takes(2, 5)}
		list[at] = p
		checkItems(t, want, goodsOf(madeOf(1, list...), madeOf(1), madeOf(1))...)
		checkItems(t, want, goodsOf(phantomOf(1, list...), madeOf(1), madeOf(1))...)
		checkItems(t, wantBeside, goodsOf(bringing(madeOf(1), list...), madeOf(1), madeOf(1))...)
	}
}

func TestNumbersOfParts(t *testing.T) {
	for _, qty := range []int{1, 2, impl.MaxQty - 1, impl.MaxQty} {
		checkPart(t, true, true, takes(2, qty))
	}
	for _, qty := range noQtysAbove0 {
		checkPart(t, false, false, takes(2, qty))
	}
	for _, scrap := range []int{0, 1, 2, mostScrap - 1, mostScrap} {
		checkPart(t, true, scrap == 0, losing(scrap, takes(2, 3)))
	}
	for _, scrap := range noScraps {
		checkPart(t, false, false, losing(scrap, takes(2, 3)))
	}
	for _, group := range []int{0, 1, 2, mostGroup - 1, mostGroup} {
		checkPart(t, true, group == 0, grouped(group, takes(2, 3)))
	}
	for _, group := range noGroups {
		checkPart(t, false, false, grouped(group, takes(2, 3)))
	}
}

func TestFirstAndLastDaysOfParts(t *testing.T) {
	for _, days := range [][2]int{{0, 0}, {0, 1}, {7, 7}, {7, 9}, {0, impl.MaxDay}, {impl.MaxDay, impl.MaxDay}, {impl.MaxDay - 1, impl.MaxDay}} {
		checkPart(t, true, true, takesOn(days[0], days[1], 2, 3))
	}
	for _, days := range [][2]int{{1, 0}, {8, 7}, {impl.MaxDay, 0}, {impl.MaxDay, impl.MaxDay - 1}, {-2, -1}, {impl.MaxDay + 1, impl.MaxDay + 1}} {
		checkPart(t, false, false, takesOn(days[0], days[1], 2, 3))
	}
	for _, none := range noDays {
		checkPart(t, false, false, takesOn(none, 9, 2, 3))
		checkPart(t, false, false, takesOn(9, none, 2, 3))
		checkPart(t, false, false, takesOn(none, none, 2, 3))
	}
}

func TestPhantoms(t *testing.T) {
	part, beside := takes(2, 3), takes(2, 1)
	checkItems(t, true, goodsOf(phantomOf(1, part), madeOf(1), madeOf(1))...)
	checkItems(t, true, goodsOf(madeOf(1, takes(1, 1)), phantomOf(7, part), madeOf(1))...)
	checkItems(t, true, goodsOf(phantomOf(1, takes(1, 1)), phantomOf(1, takes(2, 1)), madeOf(1))...)
	checkItems(t, true, goodsOf(phantomOf(1, takesOn(5, 5, 2, 3)), madeOf(1), madeOf(1))...)
	checkItems(t, true, goodsOf(bringing(madeOf(1, part), beside), madeOf(1), madeOf(1))...)
	checkItems(t, true, goodsOf(bringing(madeOf(1), beside), madeOf(1), madeOf(1))...)
	checkItems(t, false, goodsOf(bringing(phantomOf(1, part), beside), madeOf(1), madeOf(1))...)
	checkItems(t, false, goodsOf(bringing(phantomOf(1), beside), madeOf(1), madeOf(1))...)
	for at := range 3 {
		items := goodsOf(madeOf(1), madeOf(1), madeOf(1))
		items[at].Phantom = true
		checkItems(t, false, items...)
	}
	items := handBench()
	items[6].Phantom = true
	checkItems(t, false, items...)
}

func TestWaysDown(t *testing.T) {
	for _, spare := range []int{0, 1, 20, impl.MaxItems - impl.MaxLevel - 2} {
		for steps := impl.MaxLevel - 1; steps <= impl.MaxLevel+1; steps++ {
			if spare+steps+1 > impl.MaxItems {
				continue
			}
			items := lineOfItems(spare+steps+1, spare)
			checkItems(t, steps <= impl.MaxLevel, items...)
			for i := range items[:len(items)-1] {
				if i >= spare {
					items[i].Phantom = true
				}
			}
			checkItems(t, steps <= impl.MaxLevel, items...)
		}
	}
	checkItems(t, false, lineOfItems(impl.MaxItems, 0)...)
}

// What shortens a way doesn't make up for the longer one, whichever stands first.
func TestTheLongestWayIsNotTheFirst(t *testing.T) {
	for steps := impl.MaxLevel - 1; steps <= impl.MaxLevel+1; steps++ {
		for _, cut := range [][2]int{{0, steps}, {0, 2}, {3, 5}, {steps - 2, steps}, {1, steps}} {
			short := takes(cut[1], 2)
			ahead := lineOfItems(steps+1, 0)
			ahead[cut[0]].Parts = append([]impl.Part{short}, ahead[cut[0]].Parts...)
			checkItems(t, steps <= impl.MaxLevel, ahead...)
			behind := lineOfItems(steps+1, 0)
			behind[cut[0]].Parts = append(behind[cut[0]].Parts, short)
			checkItems(t, steps <= impl.MaxLevel, behind...)
		}
		// Another item leads to the last one at once, ahead of the long way and behind its beginning.
		items := lineOfItems(steps+2, 1)
		items[0].Parts = []impl.Part{takes(steps+1, 1)}
		checkItems(t, steps <= impl.MaxLevel, items...)
		items[0].Parts = []impl.Part{takes(steps+1, 1), takes(2, 1)}
		checkItems(t, steps <= impl.MaxLevel, items...)
		items[0].Parts = []impl.Part{takes(1, 1)}
		checkItems(t, steps+1 <= impl.MaxLevel, items...)
	}
}

func TestWaysOfPartsAlone(t *testing.T) {
	// What comes out beside is no step.
	items := lineOfItems(impl.MaxItems, 0)
	for i := range items {
		items[i].Also, items[i].Parts = items[i].Parts, nil
	}
	checkItems(t, true, items...)
	long := lineOfItems(impl.MaxLevel+2, 1)
	long[0].Also = []impl.Part{takes(1, 1)}
	checkItems(t, true, long...)
	long[0].Parts = long[0].Also
	checkItems(t, false, long...)
	// A step is one whatever the day, also where no two count on the same.
	for _, steps := range []int{impl.MaxLevel, impl.MaxLevel + 1} {
		items := lineOfItems(steps+1, 0)
		for i := range items[:steps] {
			items[i].Parts[0].First, items[i].Parts[0].Last = i, i
		}
		checkItems(t, steps <= impl.MaxLevel, items...)
	}
}

func somePart(chance *rand.Rand, owner, count, most int) impl.Part {
	p := takesOn(chance.Intn(6), 0, owner+1+chance.Intn(count-owner-1), 1+chance.Intn(most))
	p.Last = p.First + chance.Intn(7)
	if chance.Intn(2) == 0 {
		p.First = 0
	}
	return p
}

// Right items, the quantities of their Parts and batches at most so many; their Parts count on some of the days from 0 to 11.
func someItems(chance *rand.Rand, most int) []impl.Item {
	items := manyItems(1 + chance.Intn(9))
	for i := range items {
		items[i].Batch = 1 + chance.Intn([]int{1, 8, most}[chance.Intn(3)])
		if i+1 == len(items) {
			continue
		}
		for range chance.Intn(5) {
			p := somePart(chance, i, len(items), most)
			p.Scrap = []int{0, 0, 1, 33, 50, mostScrap}[chance.Intn(6)]
			p.Group = []int{0, 0, 1, 2, mostGroup}[chance.Intn(5)]
			items[i].Parts = append(items[i].Parts, p)
		}
		items[i].Phantom = len(items[i].Parts) > 0 && chance.Intn(3) == 0
		for range chance.Intn(3) {
			if !items[i].Phantom {
				items[i].Also = append(items[i].Also, somePart(chance, i, len(items), most))
			}
		}
	}
	return items
}

func spoilPart(chance *rand.Rand, p *impl.Part) {
	switch chance.Intn(6) {
	case 0:
		p.Item = chance.Intn(12) - 2
	case 1:
		p.Qty = noQtysAbove0[chance.Intn(len(noQtysAbove0))]
	case 2:
		p.Scrap = append([]int{1, mostScrap}, noScraps...)[chance.Intn(2+len(noScraps))]
	case 3:
		p.Group = append([]int{1, mostGroup}, noGroups...)[chance.Intn(2+len(noGroups))]
	case 4:
		p.First = chance.Intn(14) - 1
	case 5:
		p.Last = append([]int{0, 5, impl.MaxDay}, noDays...)[chance.Intn(3+len(noDays))]
	}
}

func spoilItems(chance *rand.Rand, items []impl.Item) {
	i := &items[chance.Intn(len(items))]
	switch chance.Intn(5) {
	case 0:
		i.Name = append([]string{"i0", "i1", "other"}, noNames...)[chance.Intn(3+len(noNames))]
	case 1:
		i.Batch = append([]int{1, impl.MaxQty}, noQtysAbove0...)[chance.Intn(2+len(noQtysAbove0))]
	case 2:
		i.Phantom = !i.Phantom
	case 3:
		if len(i.Parts) > 0 {
			spoilPart(chance, &i.Parts[chance.Intn(len(i.Parts))])
		}
	case 4:
		if len(i.Also) > 0 {
			spoilPart(chance, &i.Also[chance.Intn(len(i.Also))])
		}
	}
}

func TestSomeItems(t *testing.T) {
	chance := rand.New(rand.NewSource(171))
	right, wrong := 0, 0
	for range 6000 {
		items := someItems(chance, []int{3, 40, impl.MaxQty}[chance.Intn(3)])
		checkItems(t, true, items...)
		spoilItems(chance, items)
		want := wantItemsOk(items)
		checkItems(t, want, items...)
		if want {
			right++
		} else {
			wrong++
		}
	}
	if right < 1500 || wrong < 1500 {
		t.Errorf("%d right, %d wrong", right, wrong)
	}
}

// Items with others behind them, and Parts with others behind theirs, of which none is right.
func roomyItems(items []impl.Item) []impl.Item {
	none := impl.Part{Item: -7, Qty: -7, Scrap: -7, First: 9, Last: -7, Group: -7}
	room := append(copyItems(items), impl.Item{Name: "i0"}, impl.Item{Phantom: true})
	for i := range items {
		room[i].Parts = append(room[i].Parts, none, none)[:len(room[i].Parts)]
		room[i].Also = append(room[i].Also, none, none)[:len(room[i].Also)]
	}
	return room[:len(items)]
}

// Items with all the room behind them.
func allRoom(items []impl.Item) []impl.Item {
	all := slices.Clone(items[:cap(items)])
	for i := range all {
		all[i].Parts = slices.Clone(all[i].Parts[:cap(all[i].Parts)])
		all[i].Also = slices.Clone(all[i].Also[:cap(all[i].Also)])
	}
	return all
}

func TestItemsOkLeavesItsItems(t *testing.T) {
	items := roomyItems(handBench())
	kept := allRoom(items)
	for range 2 {
		checkItems(t, true, items...)
		checkItems(t, false, items[:len(items)+1]...)
		checkItems(t, true, items[4:]...)
	}
	if !sameItems(allRoom(items), kept) {
		t.Error("the items were written into")
	}
}
