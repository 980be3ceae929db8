package tests

import (
	"math"
	"math/rand"
	"slices"
	"testing"

	"loop.example/g00040/impl"
)

// The lateness by each rule, in order; -1 where the load is none.
func latenesses(machines []impl.Machine, jobs []impl.Job) []int {
	list := []int{}
	for _, rule := range eachRule {
		late := -1
		if slots, ok := wantLoad(machines, jobs, wantRank(jobs, rule)); ok {
			late, _ = wantLateness(jobs, slots)
		}
		list = append(list, late)
	}
	return list
}

func wantBestOrder(machines []impl.Machine, jobs []impl.Job) ([]int, int) {
	order, least := []int(nil), -1
	all := latenesses(machines, jobs)
	for i := len(eachRule) - 1; i >= 0; i-- {
		if all[i] >= 0 && (least < 0 || all[i] <= least) {
			order, least = wantRank(jobs, eachRule[i]), all[i]
		}
	}
	return order, least
}

func checkBestOrder(t *testing.T, machines []impl.Machine, jobs []impl.Job, late int, want ...int) []int {
	t.Helper()
	got, l := impl.Best(machines, jobs)
	other, otherLate := wantBestOrder(machines, jobs)
	if l != late || !slices.Equal(got, want) {
		t.Errorf("Best(%v, %v) = %v, %d; want %v, %d", machines, jobs, got, l, want, late)
	} else if otherLate != late || !slices.Equal(other, want) {
		t.Errorf("the other way Best(%v, %v) = %v, %d; want %v, %d", machines, jobs, other, otherLate, want, late)
	} else {
		checkBestIsLeast(t, machines, jobs, got, l)
	}
	return got
}

func refuseBest(t *testing.T, machines []impl.Machine, jobs []impl.Job) {
	t.Helper()
	checkBestOrder(t, machines, jobs, -1)
}

// Its lateness is what its own load tells, and none of the four ranks is less late.
func checkBestIsLeast(t *testing.T, machines []impl.Machine, jobs []impl.Job, order []int, late int) {
	t.Helper()
	for _, rule := range eachRule {
		slots, ok := impl.Load(machines, jobs, impl.Rank(jobs, rule))
		if other, _ := impl.Lateness(jobs, slots); ok && (late < 0 || other < late) {
			t.Errorf("Best(%v, %v) = %v, %d; rule %d loads %d late", machines, jobs, order, late, rule, other)
		}
	}
	if late < 0 {
		return
	}
	slots, ok := impl.Load(machines, jobs, order)
	if told, _ := impl.Lateness(jobs, slots); !ok || told != late {
		t.Errorf("Best(%v, %v) = %v, %d; its load is %d late, %v", machines, jobs, order, late, told, ok)
	}
}

func TestBestByHand(t *testing.T) {
	machines, jobs := handShop()
	checkBestOrder(t, machines, jobs, 14, 0, 1, 2)
	checkBestOrder(t, machines, jobs[:2], 14, 0, 1)
	checkBestOrder(t, machines, jobs[1:2], 0, 0)
}

// Jobs, how late they are by each of the four rules, and their best order.
type lateRow struct {
	jobs  []impl.Job
	lates []int
	order []int
}

// On one machine that is always open.
func checkLateRow(t *testing.T, r lateRow) {
	t.Helper()
	one := shopsOf(openAlways(0))
	if got := latenesses(one, r.jobs); !slices.Equal(got, r.lates) {
		t.Errorf("%v are late %v by the rules; want %v", r.jobs, got, r.lates)
	}
	checkBestOrder(t, one, r.jobs, slices.Min(r.lates), r.order...)
}

func TestEachRuleAsTheOnlyBest(t *testing.T) {
	checkLateRow(t, lateRow{duesAndHours(0, 1, 1, 2, 1, 0, 0, 3, 2), []int{9, 11, 10, 10}, []int{0, 2, 1}})
	checkLateRow(t, lateRow{duesAndHours(0, 2, 1, 0, 1, 1), []int{5, 4, 5, 5}, []int{1, 0}})
	checkLateRow(t, lateRow{duesAndHours(0, 1, 0, 0, 1, 1), []int{2, 2, 1, 2}, []int{1, 0}})
	checkLateRow(t, lateRow{duesAndHours(0, 1, 0, 5, 1, 1, 0, 2, 1), []int{3, 4, 3, 2}, []int{2, 0, 1}})
}

func TestRanksThatAreAlikeLate(t *testing.T) {
	// In the order of the rules: the first of those that are least stays, whichever they are, though the others' orders are other ones.
	rows := []lateRow{
		{duesAndHours(9, 2, 1, 8, 3, 1), []int{0, 0, 0, 0}, []int{1, 0}},
		{duesAndHours(9, 9, 0, 9, 8, 0, 8, 7, 0), []int{0, 0, 0, 0}, []int{2, 0, 1}},
		{duesAndHours(0, 1, 1, 0, 1, 1), []int{3, 3, 3, 3}, []int{0, 1}},
		{duesAndHours(1, 1, 1, 1, 3, 1, 0, 1, 1), []int{6, 6, 8, 10}, []int{2, 0, 1}},
		{duesAndHours(2, 1, 0, 1, 2, 0, 0, 1, 1), []int{1, 2, 1, 3}, []int{2, 1, 0}},
		{duesAndHours(2, 2, 2, 1, 1, 1, 0, 1, 2), []int{7, 8, 9, 7}, []int{2, 1, 0}},
		{duesAndHours(0, 2, 0, 1, 1, 1, 0, 1, 0), []int{3, 0, 0, 3}, []int{1, 2, 0}},
		{duesAndHours(4, 2, 3, 0, 3, 2, 3, 1, 1), []int{13, 12, 13, 12}, []int{2, 0, 1}},
		{duesAndHours(1, 2, 1, 1, 1, 0, 0, 1, 0), []int{2, 3, 1, 1}, []int{0, 1, 2}},
		{duesAndHours(1, 1, 1, 1, 2, 0, 0, 1, 1), []int{2, 2, 2, 6}, []int{2, 0, 1}},
		{duesAndHours(0, 4, 1, 1, 2, 1, 0, 1, 0), []int{10, 9, 9, 9}, []int{2, 1, 0}},
	}
	for _, r := range rows {
		checkLateRow(t, r)
	}
}

// The first and the last job are of one family: where they stand together, the machine needs a setup less.
func TestSomeRanksThatAreNotLoaded(t *testing.T) {
	machines := shopsOf(openAlways(mostSetup))
	tasks := func(count, hours, family int) []impl.Task {
		return slices.Repeat([]impl.Task{taskOf(0, hours, family)}, count)
	}
	a, b, c := jobOf(0, 1, 3, tasks(8, 500, 1)...), jobOf(0, 2, 1, tasks(1, 400, 2)...), jobOf(0, 3, 2, tasks(1, 395, 1)...)
	// Due: a b c, which takes 5095 hours; Hours: c b a, 5095; Weight: a c b, 4995; what is left: a b c.
	jobs := jobsOf(a, b, c)
	if got := latenesses(machines, jobs); !slices.Equal(got, []int{-1, -1, 3*4099 + 2*4492 + 4993, -1}) {
		t.Errorf("%v are late %v by the rules", jobs, got)
	}
	checkBestOrder(t, machines, jobs, 3*4099+2*4492+4993, 0, 2, 1)
	// Lateness 0 where nothing is loaded is none: no weight, and only one load.
	for at := range jobs {
		jobs[at].Weight = 0
	}
	refuseBest(t, machines, jobs)
	jobs[1], jobs[2] = jobs[2], jobs[1]
	checkBestOrder(t, machines, jobs, 0, 0, 1, 2)
	jobs[0].Due, jobs[1].Due, jobs[2].Due = 3, 3, 2
	if got := latenesses(machines, jobs); !slices.Equal(got, []int{0, -1, 0, -1}) {
		t.Errorf("%v are late %v by the rules", jobs, got)
	}
	checkBestOrder(t, machines, jobs, 0, 2, 0, 1)
}

func TestNoRankIsLoaded(t *testing.T) {
	machines := shopsOf(openAlways(0))
	last := impl.MaxHours
	refuseBest(t, machines, jobsOf(jobOf(last, 0, 1, taskOf(0, 1, 0))))
	refuseBest(t, machines, jobsOf(jobOf(last-1, 0, 1, taskOf(0, 2, 0)), jobOf(0, 0, 1, taskOf(0, 1, 0))))
	checkBestOrder(t, machines, jobsOf(jobOf(last-1, 0, 1, taskOf(0, 1, 0))), last, 0)
	// In the order of their Ready they could be loaded, by which none of the rules goes.
	waiting := jobsOf(jobOf(last-1, 0, 9, taskOf(0, 1, 0)), jobOf(0, 9, 1, taskOf(0, 5, 0)))
	refuseBest(t, machines, waiting)
	if _, ok := impl.Load(machines, waiting, []int{1, 0}); !ok {
		t.Error("they can't be loaded in the other order either")
	}
}

func TestBestOfNoJob(t *testing.T) {
	machines, _ := handShop()
	checkBestOrder(t, machines, nil, 0)
	checkBestOrder(t, machines, []impl.Job{}, 0)
	refuseBest(t, nil, nil)
	refuseBest(t, slices.Repeat(machines, 7), nil)
}

func TestBestOfWrongShops(t *testing.T) {
	machines, jobs := handShop()
	refuseBest(t, nil, jobs)
	refuseBest(t, machines[:1], jobs)
	refuseBest(t, slices.Repeat(machines, 7), jobs)
	refuseBest(t, machines, manyJobs(impl.MaxJobs+1))
	for at := range machines {
		for _, wrong := range []impl.Machine{shopOf(8, 8, 0), shopOf(-1, 8, 0), shopOf(8, 25, 0), shopOf(8, 16, -1), shopOf(8, 16, mostSetup+1)} {
			changed := slices.Clone(machines)
			changed[at] = wrong
			refuseBest(t, changed, jobs)
			refuseBest(t, changed, nil)
		}
	}
	for _, none := range noHours {
		for _, changed := range append(eachJob(func(j *impl.Job) { j.Ready = none }), eachJob(func(j *impl.Job) { j.Due = none })...) {
			refuseBest(t, machines, changed)
		}
	}
	for _, machine := range []int{math.MinInt, -1, 2, math.MaxInt} {
		for _, changed := range eachTask(func(t *impl.Task) { t.Machine = machine }) {
			refuseBest(t, machines, changed)
		}
	}
}

func TestSomeBests(t *testing.T) {
	chance := rand.New(rand.NewSource(198))
	told, none := 0, 0
	best := make([]int, len(eachRule))
	for range 3000 {
		machines := someShops(chance)
		jobs := someJobs(chance, len(machines))
		if len(jobs) > 0 && chance.Intn(10) == 0 {
			spoilJob(chance, &jobs[chance.Intn(len(jobs))])
		}
		order, late := wantBestOrder(machines, jobs)
		checkBestOrder(t, machines, jobs, late, order...)
		if late < 0 {
			none++
		} else if late > 0 {
			told++
			best[slices.Index(latenesses(machines, jobs), late)]++
		}
	}
	if told < 800 || none < 400 || slices.Min(best) < 15 {
		t.Errorf("%d late, %d not loaded, best by the rules %v", told, none, best)
	}
}

func TestBestLeavesItsArguments(t *testing.T) {
	machines, jobs, _ := roomyShop()
	keptMachines, keptJobs := shopRoom(machines, jobs)
	for range 3 {
		spoilList(checkBestOrder(t, machines, jobs, 14, 0, 1, 2))
		refuseBest(t, machines[:3], jobs)
		refuseBest(t, machines, jobs[:4])
	}
	nowMachines, nowJobs := shopRoom(machines, jobs)
	if !slices.Equal(nowMachines, keptMachines) || !sameJobs(nowJobs, keptJobs) {
		t.Errorf("the arguments were written into: %v, %v", nowMachines, nowJobs)
	}
}
