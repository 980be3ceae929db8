package tests

import (
	"math"
	"math/rand"
	"slices"
	"testing"

	"loop.example/g00040/impl"
)

// Job, Task, Machine, Begin, End and so on.
func slotsOf(fives ...int) []impl.Slot {
	slots := []impl.Slot{}
	for i := 0; i < len(fives); i += 5 {
		slots = append(slots, impl.Slot{Job: fives[i], Task: fives[i+1], Machine: fives[i+2], Begin: fives[i+3], End: fives[i+4]})
	}
	return slots
}

func isOrder(order []int, jobs int) bool {
	sorted := slices.Clone(order)
	slices.Sort(sorted)
	return slices.Equal(sorted, daysFrom(0, jobs))
}

// How long a task takes where the slots are what has been loaded ahead of it.
func wantHours(machines []impl.Machine, jobs []impl.Job, ahead []impl.Slot, task impl.Task) int {
	for i := len(ahead) - 1; i >= 0; i-- {
		if s := ahead[i]; s.Machine == task.Machine {
			if jobs[s.Job].Tasks[s.Task].Family == task.Family {
				return task.Hours
			}
			break
		}
	}
	return task.Hours + machines[task.Machine].Setup
}

// The latest of what a task must wait for.
func wantFrom(jobs []impl.Job, ahead []impl.Slot, job int, task impl.Task) int {
	from := jobs[job].Ready
	for _, s := range ahead {
		if s.Job == job || s.Machine == task.Machine {
			from = max(from, s.End)
		}
	}
	return from
}

// wantLoad keeps nothing but the slots: each task looks back over all of them.
func wantLoad(machines []impl.Machine, jobs []impl.Job, order []int) ([]impl.Slot, bool) {
	if !wantLoadOk(machines, jobs) || !isOrder(order, len(jobs)) {
		return nil, false
	}
	slots := []impl.Slot{}
	for _, job := range order {
		for place, task := range jobs[job].Tasks {
			begin, end := wantOccupy(machines[task.Machine], wantFrom(jobs, slots, job, task), wantHours(machines, jobs, slots, task))
			if begin < 0 {
				return nil, false
			}
			slots = append(slots, impl.Slot{Job: job, Task: place, Machine: task.Machine, Begin: begin, End: end})
		}
	}
	return slots, true
}

func checkLoad(t *testing.T, machines []impl.Machine, jobs []impl.Job, order []int, want ...impl.Slot) []impl.Slot {
	t.Helper()
	got, ok := impl.Load(machines, jobs, order)
	other, otherOk := wantLoad(machines, jobs, order)
	if !ok || !slices.Equal(got, want) {
		t.Errorf("Load(%v, %v, %v) = %v, %v; want %v", machines, jobs, order, got, ok, want)
	} else if !otherOk || !slices.Equal(other, want) {
		t.Errorf("the other way Load(%v, %v, %v) = %v, %v; want %v", machines, jobs, order, other, otherOk, want)
	} else {
		checkLoadPromise(t, machines, jobs, order, got)
	}
	return got
}

func refuseLoad(t *testing.T, machines []impl.Machine, jobs []impl.Job, order ...int) {
	t.Helper()
	_, otherOk := wantLoad(machines, jobs, order)
	if got, ok := impl.Load(machines, jobs, order); ok || otherOk || len(got) != 0 {
		t.Errorf("Load(%v, %v, %v) = %v, %v; want nothing", machines, jobs, order, got, ok)
	}
}

func loadAsWanted(t *testing.T, machines []impl.Machine, jobs []impl.Job, order []int) bool {
	t.Helper()
	want, ok := wantLoad(machines, jobs, order)
	if ok {
		checkLoad(t, machines, jobs, order, want...)
	} else {
		refuseLoad(t, machines, jobs, order...)
	}
	return ok
}

// The slots of each machine are those which it does, one behind the other, with a setup wherever the family is another.
func checkMachineDoes(t *testing.T, m impl.Machine, jobs []impl.Job, slots []impl.Slot) {
	t.Helper()
	for i, s := range slots {
		task := jobs[s.Job].Tasks[s.Task]
		hours := task.Hours + m.Setup
		if i > 0 {
			ahead := slots[i-1]
			if ahead.End > s.Begin {
				t.Errorf("%v does %v and %v at once", m, ahead, s)
			}
			if jobs[ahead.Job].Tasks[ahead.Task].Family == task.Family {
				hours = task.Hours
			}
		}
		// From where it begins it holds just the open hours that it takes: none is left out and none is one too many.
		checkHoursOf(t, m, s.Begin, hours, s.Begin, s.End)
	}
}

// A job's slots are all its tasks, in order, none of them ahead of its Ready or of the end of the one ahead.
func checkJobFollows(t *testing.T, j impl.Job, slots []impl.Slot) {
	t.Helper()
	from := j.Ready
	for i, s := range slots {
		if s.Task != i || s.Machine != j.Tasks[i].Machine || s.Begin < from || s.End <= s.Begin || s.End > impl.MaxHours {
			t.Errorf("of %v slot %d is %v; it may begin at %d", j, i, s, from)
		}
		from = s.End
	}
	if len(slots) != len(j.Tasks) {
		t.Errorf("%v has the slots %v", j, slots)
	}
}

// No open hour of its machine lies between what a slot must wait for and its begin.
func checkNothingIsIdle(t *testing.T, machines []impl.Machine, jobs []impl.Job, slots []impl.Slot) {
	t.Helper()
	for i, s := range slots {
		m := machines[s.Machine]
		from := wantFrom(jobs, slots[:i], s.Job, jobs[s.Job].Tasks[s.Task])
		if begin, _ := wantOccupy(m, from, 0); begin != s.Begin {
			t.Errorf("slot %d, %v, could begin at %d", i, s, begin)
		}
	}
}

func slotsWhere(slots []impl.Slot, fits func(s impl.Slot) bool) []impl.Slot {
	return slices.DeleteFunc(slices.Clone(slots), func(s impl.Slot) bool { return !fits(s) })
}

func checkLoadPromise(t *testing.T, machines []impl.Machine, jobs []impl.Job, order []int, slots []impl.Slot) {
	t.Helper()
	for at, m := range machines {
		checkMachineDoes(t, m, jobs, slotsWhere(slots, func(s impl.Slot) bool { return s.Machine == at }))
	}
	left := slots
	for _, job := range order {
		count := len(jobs[job].Tasks)
		if len(left) < count {
			t.Fatalf("Load(%v, %v, %v) = %v", machines, jobs, order, slots)
		}
		checkJobFollows(t, jobs[job], left[:count])
		if slices.ContainsFunc(left[:count], func(s impl.Slot) bool { return s.Job != job }) {
			t.Errorf("Load(%v, %v, %v) = %v", machines, jobs, order, slots)
		}
		left = left[count:]
	}
	if len(left) != 0 {
		t.Errorf("Load(%v, %v, %v) = %v", machines, jobs, order, slots)
	}
	checkNothingIsIdle(t, machines, jobs, slots)
}

func TestLoadByHand(t *testing.T) {
	machines, jobs := handShop()
	checkLoad(t, machines, jobs, []int{0, 1, 2}, slotsOf(
		0, 0, 0, 8, 12, 0, 1, 1, 12, 17,
		1, 0, 0, 12, 14,
		2, 0, 1, 17, 21, 2, 1, 0, 32, 39, 2, 2, 1, 39, 40)...)
	checkLoad(t, machines, jobs, []int{2, 1, 0}, slotsOf(
		2, 0, 1, 9, 13, 2, 1, 0, 13, 36, 2, 2, 1, 36, 37,
		1, 0, 0, 36, 39,
		0, 0, 0, 39, 58, 0, 1, 1, 58, 63)...)
	checkLoad(t, machines, jobs, []int{1, 2, 0}, slotsOf(
		1, 0, 0, 8, 11,
		2, 0, 1, 9, 13, 2, 1, 0, 13, 36, 2, 2, 1, 36, 37,
		0, 0, 0, 36, 40, 0, 1, 1, 40, 45)...)
}

func TestLoadOfNoJob(t *testing.T) {
	machines, _ := handShop()
	for _, order := range [][]int{nil, {}} {
		for _, jobs := range [][]impl.Job{nil, {}} {
			checkLoad(t, machines, jobs, order)
			refuseLoad(t, nil, jobs, order...)
		}
	}
	for _, at := range []int{-1, 0, 1} {
		refuseLoad(t, machines, nil, at)
	}
}

func TestOrdersThatAreNone(t *testing.T) {
	machines, jobs := handShop()
	refuseLoad(t, machines, jobs)
	for _, at := range []int{math.MinInt, -1, 3, 4, impl.MaxJobs, math.MaxInt} {
		refuseLoad(t, machines, jobs, at, 1, 2)
		refuseLoad(t, machines, jobs, 0, at, 2)
		refuseLoad(t, machines, jobs, 0, 1, at)
		refuseLoad(t, machines, jobs, 0, 1, 2, at)
	}
	for _, a := range []int{0, 1, 2} {
		refuseLoad(t, machines, jobs, a)
		refuseLoad(t, machines, jobs, 0, 1, 2, a)
		for _, b := range []int{0, 1, 2} {
			refuseLoad(t, machines, jobs, a, b)
			for _, c := range []int{0, 1, 2} {
				if isOnce := a != b && b != c && a != c; isOnce != loadAsWanted(t, machines, jobs, []int{a, b, c}) {
					t.Errorf("the order %v", []int{a, b, c})
				}
			}
		}
	}
	refuseLoad(t, machines, manyJobs(impl.MaxJobs), repeated(0, impl.MaxJobs)...)
	refuseLoad(t, machines, manyJobs(impl.MaxJobs), daysFrom(0, impl.MaxJobs+1)...)
	refuseLoad(t, machines, manyJobs(impl.MaxJobs), daysFrom(0, impl.MaxJobs-1)...)
	refuseLoad(t, machines, manyJobs(impl.MaxJobs), daysFrom(1, impl.MaxJobs)...)
	refuseLoad(t, machines, manyJobs(impl.MaxJobs+1), daysFrom(0, impl.MaxJobs+1)...)
	if !loadAsWanted(t, machines, manyJobs(impl.MaxJobs), daysFrom(0, impl.MaxJobs)) {
		t.Error("as many jobs as there may be")
	}
}

func TestWhatATaskWaitsFor(t *testing.T) {
	always := shopsOf(openAlways(0), openAlways(0))
	// Its job's Ready.
	checkLoad(t, always, jobsOf(jobOf(7, 0, 0, taskOf(0, 2, 0))), []int{0}, slotsOf(0, 0, 0, 7, 9)...)
	checkLoad(t, always, jobsOf(jobOf(0, 0, 0, taskOf(0, 4, 0)), jobOf(5, 0, 0, taskOf(0, 2, 0))), []int{0, 1}, slotsOf(0, 0, 0, 0, 4, 1, 0, 0, 5, 7)...)
	// The task ahead of it in its job.
	checkLoad(t, always, jobsOf(jobOf(7, 0, 0, taskOf(0, 2, 0), taskOf(1, 3, 0), taskOf(0, 4, 0))), []int{0}, slotsOf(0, 0, 0, 7, 9, 0, 1, 1, 9, 12, 0, 2, 0, 12, 16)...)
	// What its machine did last.
	checkLoad(t, always, jobsOf(jobOf(0, 0, 0, taskOf(0, 4, 0)), jobOf(3, 0, 0, taskOf(0, 2, 0))), []int{0, 1}, slotsOf(0, 0, 0, 0, 4, 1, 0, 0, 4, 6)...)
	// All alike late, and each in turn the last of the three.
	for _, r := range []struct{ ready, ahead, other, begin int }{{9, 9, 9, 9}, {10, 9, 9, 11}, {9, 10, 9, 11}, {9, 9, 10, 10}, {0, 9, 20, 20}, {0, 20, 9, 21}, {20, 9, 9, 21}, {8, 9, 9, 9}} {
		jobs := jobsOf(jobOf(0, 0, 0, taskOf(1, r.other, 0)), jobOf(r.ready, 0, 0, taskOf(0, 1, 0), taskOf(1, 5, 0)), jobOf(0, 0, 0, taskOf(0, r.ahead-1, 0)))
		first := max(r.ready, r.ahead-1)
		checkLoad(t, always, jobs, []int{0, 2, 1}, slotsOf(0, 0, 1, 0, r.other, 2, 0, 0, 0, r.ahead-1, 1, 0, 0, first, first+1, 1, 1, 1, max(first+1, r.other), max(first+1, r.other)+5)...)
	}
	// Ready and the end of what is ahead are open hours or not: it waits for the machine too.
	shut := shopsOf(shopOf(8, 16, 0))
	checkLoad(t, shut, jobsOf(jobOf(16, 0, 0, taskOf(0, 8, 0), taskOf(0, 1, 0))), []int{0}, slotsOf(0, 0, 0, 32, 40, 0, 1, 0, 56, 57)...)
}

func TestJobsInAnotherOrder(t *testing.T) {
	machines := shopsOf(openAlways(0))
	jobs := jobsOf(jobOf(0, 0, 0, taskOf(0, 1, 0)), jobOf(0, 0, 0, taskOf(0, 10, 0)), jobOf(0, 0, 0, taskOf(0, 100, 0)))
	checkLoad(t, machines, jobs, []int{0, 1, 2}, slotsOf(0, 0, 0, 0, 1, 1, 0, 0, 1, 11, 2, 0, 0, 11, 111)...)
	checkLoad(t, machines, jobs, []int{2, 0, 1}, slotsOf(2, 0, 0, 0, 100, 0, 0, 0, 100, 101, 1, 0, 0, 101, 111)...)
	checkLoad(t, machines, jobs, []int{1, 2, 0}, slotsOf(1, 0, 0, 0, 10, 2, 0, 0, 10, 110, 0, 0, 0, 110, 111)...)
	// All tasks of a job are loaded ahead of the next one's, whatever their machines could do meanwhile.
	both := jobsOf(jobOf(0, 0, 0, taskOf(0, 5, 0), taskOf(1, 5, 0), taskOf(0, 5, 0)), jobOf(0, 0, 0, taskOf(0, 1, 0), taskOf(1, 1, 0)))
	checkLoad(t, shopsOf(openAlways(0), openAlways(0)), both, []int{0, 1}, slotsOf(0, 0, 0, 0, 5, 0, 1, 1, 5, 10, 0, 2, 0, 10, 15, 1, 0, 0, 15, 16, 1, 1, 1, 16, 17)...)
}

func TestIdleMachinesAreNotFilledUp(t *testing.T) {
	machines := shopsOf(openAlways(0))
	jobs := jobsOf(jobOf(100, 0, 0, taskOf(0, 5, 0)), jobOf(0, 0, 0, taskOf(0, 1, 0)))
	checkLoad(t, machines, jobs, []int{0, 1}, slotsOf(0, 0, 0, 100, 105, 1, 0, 0, 105, 106)...)
	checkLoad(t, machines, jobs, []int{1, 0}, slotsOf(1, 0, 0, 0, 1, 0, 0, 0, 100, 105)...)
}

func TestSetupsThatAreTaken(t *testing.T) {
	one := func(setup int, families ...int) ([]impl.Machine, []impl.Job) {
		j := jobOf(0, 0, 0)
		for _, family := range families {
			j.Tasks = append(j.Tasks, taskOf(0, 10, family))
		}
		return shopsOf(openAlways(setup)), jobsOf(j)
	}
	ends := func(setup int, families []int, ends ...int) {
		t.Helper()
		machines, jobs := one(setup, families...)
		want, from := []impl.Slot{}, 0
		for i, end := range ends {
			want = append(want, impl.Slot{Task: i, Begin: from, End: end})
			from = end
		}
		checkLoad(t, machines, jobs, []int{0}, want...)
	}
	// The first task of a machine has one, of whatever family.
	for family := 0; family <= mostFamily; family++ {
		ends(3, []int{family}, 13)
		ends(3, []int{family, family}, 13, 23)
		ends(3, []int{family, (family + 1) % 10}, 13, 26)
		ends(3, []int{family, (family + 1) % 10, family}, 13, 26, 39)
		ends(0, []int{family, (family + 1) % 10, family}, 10, 20, 30)
		ends(mostSetup, []int{family, (family + 9) % 10}, 110, 220)
	}
	ends(3, []int{0, 0, 1, 1, 0, 2, 2, 2}, 13, 23, 36, 46, 59, 72, 82, 92)
}

func TestEachMachineHasItsSetup(t *testing.T) {
	machines := shopsOf(openAlways(3), openAlways(0), openAlways(7))
	jobs := jobsOf(jobOf(0, 0, 0, taskOf(0, 10, 1), taskOf(1, 10, 1), taskOf(2, 10, 1)), jobOf(0, 0, 0, taskOf(0, 10, 1), taskOf(1, 10, 2), taskOf(2, 10, 2)))
	// A family that another machine did last is none that this one did.
	checkLoad(t, machines, jobs, []int{0, 1}, slotsOf(0, 0, 0, 0, 13, 0, 1, 1, 13, 23, 0, 2, 2, 23, 40, 1, 0, 0, 13, 23, 1, 1, 1, 23, 33, 1, 2, 2, 40, 57)...)
	// What a job did ahead on other machines doesn't count either.
	back := jobsOf(jobOf(0, 0, 0, taskOf(0, 1, 4), taskOf(2, 1, 5), taskOf(0, 1, 4)))
	checkLoad(t, machines, back, []int{0}, slotsOf(0, 0, 0, 0, 4, 0, 1, 2, 4, 12, 0, 2, 0, 12, 13)...)
}

func TestSetupsOverMidnight(t *testing.T) {
	machines := shopsOf(shopOf(8, 16, 4), openAlways(0))
	// Two of the four hours of the setup are done on the first day, two on the next; both are counted from its Begin to its End.
	jobs := jobsOf(jobOf(14, 0, 0, taskOf(0, 3, 1)))
	checkLoad(t, machines, jobs, []int{0}, slotsOf(0, 0, 0, 14, 37)...)
	// Just one day's, and one hour more.
	checkLoad(t, machines, jobsOf(jobOf(8, 0, 0, taskOf(0, 4, 1))), []int{0}, slotsOf(0, 0, 0, 8, 16)...)
	checkLoad(t, machines, jobsOf(jobOf(8, 0, 0, taskOf(0, 5, 1))), []int{0}, slotsOf(0, 0, 0, 8, 33)...)
	// The setup ends with the day, and the work begins on the next one.
	checkLoad(t, machines, jobsOf(jobOf(12, 0, 0, taskOf(0, 2, 1), taskOf(0, 1, 1))), []int{0}, slotsOf(0, 0, 0, 12, 34, 0, 1, 0, 34, 35)...)
	// A setup longer than all that a day has.
	long := shopsOf(shopOf(8, 16, mostSetup))
	checkLoad(t, long, jobsOf(jobOf(0, 0, 0, taskOf(0, 1, 1))), []int{0}, slotsOf(0, 0, 0, 8, 301)...)
	checkLoad(t, long, jobsOf(jobOf(0, 0, 0, taskOf(0, 4, 1))), []int{0}, slotsOf(0, 0, 0, 8, 304)...)
	checkLoad(t, long, jobsOf(jobOf(0, 0, 0, taskOf(0, 5, 1))), []int{0}, slotsOf(0, 0, 0, 8, 321)...)
}

func TestTwoTasksOnOneMachine(t *testing.T) {
	machines := shopsOf(shopOf(8, 16, 1))
	j := jobOf(0, 0, 0, taskOf(0, 3, 1), taskOf(0, 2, 1), taskOf(0, 2, 2))
	checkLoad(t, machines, jobsOf(j), []int{0}, slotsOf(0, 0, 0, 8, 12, 0, 1, 0, 12, 14, 0, 2, 0, 14, 33)...)
	checkLoad(t, machines, jobsOf(j, j), []int{1, 0}, slotsOf(
		1, 0, 0, 8, 12, 1, 1, 0, 12, 14, 1, 2, 0, 14, 33,
		0, 0, 0, 33, 37, 0, 1, 0, 37, 39, 0, 2, 0, 39, 58)...)
}

func TestTheLongestTask(t *testing.T) {
	machines := shopsOf(openAlways(mostSetup))
	checkLoad(t, machines, jobsOf(jobOf(0, 0, 0, taskOf(0, mostTaskHours, 0))), []int{0}, slotsOf(0, 0, 0, 0, 600)...)
	checkLoad(t, machines, jobsOf(jobOf(4400, 0, 0, taskOf(0, mostTaskHours, 0))), []int{0}, slotsOf(0, 0, 0, 4400, 5000)...)
	refuseLoad(t, machines, jobsOf(jobOf(4401, 0, 0, taskOf(0, mostTaskHours, 0))), 0)
	checkLoad(t, shopsOf(shopOf(0, 12, mostSetup)), jobsOf(jobOf(0, 0, 0, taskOf(0, mostTaskHours, 0))), []int{0}, slotsOf(0, 0, 0, 0, 1188)...)
}

func TestLoadAtTheEndOfTime(t *testing.T) {
	last := impl.MaxHours
	machines := shopsOf(openAlways(0), shopOf(0, 8, 2))
	checkLoad(t, machines, jobsOf(jobOf(last-1, 0, 0, taskOf(0, 1, 0))), []int{0}, slotsOf(0, 0, 0, last-1, last)...)
	refuseLoad(t, machines, jobsOf(jobOf(last, 0, 0, taskOf(0, 1, 0))), 0)
	refuseLoad(t, machines, jobsOf(jobOf(last-1, 0, 0, taskOf(0, 2, 0))), 0)
	refuseLoad(t, machines, jobsOf(jobOf(last-1, 0, 0, taskOf(0, 1, 0), taskOf(0, 1, 0))), 0)
	// MaxHours is just where the second machine shuts.
	checkLoad(t, machines, jobsOf(jobOf(last-8, 0, 0, taskOf(1, 6, 0))), []int{0}, slotsOf(0, 0, 1, last-8, last)...)
	refuseLoad(t, machines, jobsOf(jobOf(last-8, 0, 0, taskOf(1, 7, 0))), 0)
	refuseLoad(t, machines, jobsOf(jobOf(last-7, 0, 0, taskOf(1, 6, 0))), 0)
	// One that is refused behind others that are not leaves nothing of them.
	both := jobsOf(jobOf(0, 0, 0, taskOf(0, 5, 0)), jobOf(0, 0, 0, taskOf(0, 5, 0), taskOf(1, 1, 0)), jobOf(last, 0, 0, taskOf(1, 1, 0)))
	for _, order := range [][]int{{0, 1, 2}, {2, 1, 0}, {1, 2, 0}} {
		refuseLoad(t, machines, both, order...)
	}
	full := jobsOf(jobOf(0, 0, 0, slices.Repeat([]impl.Task{taskOf(0, mostTaskHours, 0)}, 8)...), jobOf(0, 0, 0, taskOf(0, 500, 0), taskOf(0, 499, 0)), jobOf(0, 0, 0, taskOf(0, 1, 0)))
	got := checkLoad(t, machines, full, []int{0, 1, 2}, wantSlots(machines, full, []int{0, 1, 2})...)
	if got[len(got)-1].End != last {
		t.Errorf("the last end is %v", got[len(got)-1])
	}
	full[2].Tasks[0].Hours++
	refuseLoad(t, machines, full, 0, 1, 2)
	refuseLoad(t, machines, full, 2, 1, 0)
}

func wantSlots(machines []impl.Machine, jobs []impl.Job, order []int) []impl.Slot {
	slots, _ := wantLoad(machines, jobs, order)
	return slots
}

func TestSomeLoads(t *testing.T) {
	chance := rand.New(rand.NewSource(193))
	told, none := 0, 0
	for range 6000 {
		machines := someShops(chance)
		jobs := someJobs(chance, len(machines))
		order := chance.Perm(len(jobs))
		if len(order) > 0 && chance.Intn(8) == 0 {
			order[chance.Intn(len(order))] = chance.Intn(len(order)+2) - 1
		}
		if loadAsWanted(t, machines, jobs, order) {
			told++
		} else {
			none++
		}
	}
	if told < 2500 || none < 1000 {
		t.Errorf("%d told, %d not", told, none)
	}
}

// A job added at the end of the order moves nothing of what was loaded, wherever its own place is.
func TestAJobAddedMovesNothing(t *testing.T) {
	chance := rand.New(rand.NewSource(194))
	told := 0
	for range 3000 {
		machines := someShops(chance)
		jobs := someJobs(chance, len(machines))
		order := chance.Perm(len(jobs))
		slots, ok := impl.Load(machines, jobs, order)
		if !ok || len(jobs) < 2 {
			continue
		}
		last := order[len(order)-1]
		fewer := slices.Delete(copyJobs(jobs), last, last+1)
		ahead := slices.Clone(order[:len(order)-1])
		for i, job := range ahead {
			if job > last {
				ahead[i]--
			}
		}
		without, ok := impl.Load(machines, fewer, ahead)
		for i, s := range without {
			without[i].Job = order[slices.Index(ahead, s.Job)]
		}
		if !ok || !slices.Equal(without, slots[:len(without)]) || len(without)+len(jobs[last].Tasks) != len(slots) {
			t.Errorf("Load(%v, %v, %v) = %v; without job %d it is %v, %v", machines, jobs, order, slots, last, without, ok)
		}
		told++
	}
	if told < 1000 {
		t.Errorf("%d told", told)
	}
}

// As many jobs with as many tasks as there may be.
func TestTheGreatestLoad(t *testing.T) {
	machines := slices.Repeat(shopsOf(shopOf(0, 23, 1), shopOf(6, 24, 2), openAlways(5)), impl.MaxMachines/3)
	jobs := []impl.Job{}
	for job := range impl.MaxJobs {
		j := jobOf(job*7, job*9, job%5)
		for task := range impl.MaxStepsOf {
			j.Tasks = append(j.Tasks, taskOf((job*5+task*7)%impl.MaxMachines, 1+(job+task)%12, (job+task)%10))
		}
		jobs = append(jobs, j)
	}
	for _, order := range [][]int{daysFrom(0, impl.MaxJobs), impl.Rank(jobs, 2), impl.Rank(jobs, 3)} {
		if slots, ok := impl.Load(machines, jobs, order); !ok || len(slots) != impl.MaxJobs*impl.MaxStepsOf {
			t.Errorf("%d slots, %v", len(slots), ok)
		}
		loadAsWanted(t, machines, jobs, order)
	}
}

// The shop by hand, with machines, jobs and tasks behind the lists that are right in none.
func roomyShop() ([]impl.Machine, []impl.Job, []int) {
	machines, jobs := handShop()
	for i := range jobs {
		jobs[i].Tasks = append(jobs[i].Tasks, taskOf(-7, -7, -7))[:len(jobs[i].Tasks)]
	}
	machines = append(machines, shopOf(-7, -7, -7))[:2]
	jobs = append(jobs, jobOf(-7, -7, -7, taskOf(-7, -7, -7)))[:3]
	return machines, jobs, withRoom(2, 1, 0)
}

// All that lies in the lists and behind them.
func shopRoom(machines []impl.Machine, jobs []impl.Job) ([]impl.Machine, []impl.Job) {
	jobs = slices.Clone(jobs[:cap(jobs)])
	for i, j := range jobs {
		jobs[i].Tasks = slices.Clone(j.Tasks[:cap(j.Tasks)])
	}
	return slices.Clone(machines[:cap(machines)]), jobs
}

func spoilSlots(slots []impl.Slot) {
	for i := range slots[:cap(slots)] {
		slots[:cap(slots)][i] = impl.Slot{Job: -9, Task: -9, Machine: -9, Begin: -9, End: -9}
	}
}

func TestLoadLeavesItsArguments(t *testing.T) {
	machines, jobs, order := roomyShop()
	keptMachines, keptJobs := shopRoom(machines, jobs)
	keptOrder := roomOf(order)
	for range 3 {
		spoilSlots(checkLoad(t, machines, jobs, order, slotsOf(
			2, 0, 1, 9, 13, 2, 1, 0, 13, 36, 2, 2, 1, 36, 37,
			1, 0, 0, 36, 39,
			0, 0, 0, 39, 58, 0, 1, 1, 58, 63)...))
		checkLoadOk(t, true, machines, jobs)
		refuseLoad(t, machines, jobs, order[:4]...)
		refuseShop(t, machines[:3], jobs)
		refuseShop(t, machines, jobs[:4])
	}
	nowMachines, nowJobs := shopRoom(machines, jobs)
	if !slices.Equal(nowMachines, keptMachines) || !sameJobs(nowJobs, keptJobs) || !slices.Equal(roomOf(order), keptOrder) {
		t.Errorf("the arguments were written into: %v, %v, %v", nowMachines, nowJobs, roomOf(order))
	}
}
