package tests

import (
	"math"
	"math/rand"
	"slices"
	"testing"

	"loop.example/g00040/impl"
)

const (
	dayHours      = 24
	mostSetup     = 100
	mostTaskHours = 500
	mostFamily    = 9
	mostJobWeight = 1000
)

var noHours = []int{math.MinInt, -impl.MaxHours, -2, -1, impl.MaxHours + 1, impl.MaxHours + 2, 2 * impl.MaxHours, math.MaxInt}

var noSetups = []int{math.MinInt, -mostSetup, -2, -1, mostSetup + 1, mostSetup + 2, math.MaxInt}

var noTaskHours = []int{math.MinInt, -mostTaskHours, -1, 0, mostTaskHours + 1, mostTaskHours + 2, math.MaxInt}

var noFamilies = []int{math.MinInt, -mostFamily, -2, -1, mostFamily + 1, mostFamily + 2, math.MaxInt}

var noJobWeights = []int{math.MinInt, -mostJobWeight, -2, -1, mostJobWeight + 1, mostJobWeight + 2, math.MaxInt}

// Open and Shut of a machine that is none.
var noOpens = [][2]int{
	{-1, 8}, {-24, 0}, {-1, 0}, {-2, -1}, {math.MinInt, 8}, {math.MinInt, math.MaxInt}, {0, 25}, {23, 25}, {24, 25}, {0, math.MaxInt}, {-1, 25},
	{0, 0}, {8, 8}, {23, 23}, {24, 24}, {9, 8}, {24, 8}, {16, 0}, {24, 23}, {25, 26}, {8, -1}, {0, -1}, {math.MaxInt, math.MinInt}, {8, math.MinInt},
}

func shopOf(open, shut, setup int) impl.Machine {
	return impl.Machine{Open: open, Shut: shut, Setup: setup}
}

// A machine that is never shut.
func openAlways(setup int) impl.Machine { return shopOf(0, dayHours, setup) }

func shopsOf(machines ...impl.Machine) []impl.Machine { return machines }

func taskOf(machine, hours, family int) impl.Task {
	return impl.Task{Machine: machine, Hours: hours, Family: family}
}

func jobOf(ready, due, weight int, tasks ...impl.Task) impl.Job {
	return impl.Job{Ready: ready, Due: due, Weight: weight, Tasks: tasks}
}

func jobsOf(jobs ...impl.Job) []impl.Job { return jobs }

func manyJobs(count int) []impl.Job {
	jobs := []impl.Job{}
	for range count {
		jobs = append(jobs, jobOf(0, 1, 1, taskOf(0, 1, 0)))
	}
	return jobs
}

func manyTasks(count int) []impl.Task { return slices.Repeat([]impl.Task{taskOf(0, 1, 0)}, count) }

func copyJobs(jobs []impl.Job) []impl.Job {
	copied := slices.Clone(jobs)
	for i := range copied {
		copied[i].Tasks = slices.Clone(copied[i].Tasks)
	}
	return copied
}

func sameJob(a, b impl.Job) bool {
	return a.Ready == b.Ready && a.Due == b.Due && a.Weight == b.Weight && slices.Equal(a.Tasks, b.Tasks)
}

func sameJobs(a, b []impl.Job) bool { return slices.EqualFunc(a, b, sameJob) }

func jobsWith(jobs []impl.Job, change func(jobs []impl.Job)) []impl.Job {
	changed := copyJobs(jobs)
	change(changed)
	return changed
}

// Two machines, and jobs that go over both.
func handShop() ([]impl.Machine, []impl.Job) {
	jobs := jobsOf(
		jobOf(0, 10, 2, taskOf(0, 3, 1), taskOf(1, 5, 0)),
		jobOf(2, 20, 1, taskOf(0, 2, 1)),
		jobOf(9, 40, 3, taskOf(1, 4, 2), taskOf(0, 6, 3), taskOf(1, 1, 2)),
	)
	return shopsOf(shopOf(8, 16, 1), openAlways(0)), jobs
}

// From none up to most.
func upTo(n, most int) bool { return placeAmong(n, most+1) }

func wantMachineOk(m impl.Machine) bool {
	return upTo(m.Open, dayHours-1) && upTo(m.Shut, dayHours) && m.Shut > m.Open && upTo(m.Setup, mostSetup)
}

// Its machines aside.
func wantJobOk(j impl.Job) bool {
	for _, t := range j.Tasks {
		if t.Hours == 0 || !upTo(t.Hours, mostTaskHours) || !upTo(t.Family, mostFamily) {
			return false
		}
	}
	return upTo(j.Ready, impl.MaxHours) && upTo(j.Due, impl.MaxHours) && upTo(j.Weight, mostJobWeight) && len(j.Tasks) != 0 && len(j.Tasks) <= impl.MaxStepsOf
}

func wantJobsOk(jobs []impl.Job) bool {
	return len(jobs) <= impl.MaxJobs && !slices.ContainsFunc(jobs, func(j impl.Job) bool { return !wantJobOk(j) })
}

func wantLoadOk(machines []impl.Machine, jobs []impl.Job) bool {
	for _, m := range machines {
		if !wantMachineOk(m) {
			return false
		}
	}
	for _, j := range jobs {
		for _, t := range j.Tasks {
			if !placeAmong(t.Machine, len(machines)) {
				return false
			}
		}
	}
	return len(machines) != 0 && len(machines) <= impl.MaxMachines && wantJobsOk(jobs)
}

func checkLoadOk(t *testing.T, want bool, machines []impl.Machine, jobs []impl.Job) {
	t.Helper()
	if got := impl.LoadOk(machines, jobs); got != want {
		t.Errorf("LoadOk(%v, %v) = %v", machines, jobs, got)
	}
	if other := wantLoadOk(machines, jobs); other != want {
		t.Errorf("the other way LoadOk(%v, %v) = %v", machines, jobs, other)
	}
}

// Machines or jobs that are not right, of which Load and Best tell nothing either.
func refuseShop(t *testing.T, machines []impl.Machine, jobs []impl.Job) {
	t.Helper()
	checkLoadOk(t, false, machines, jobs)
	order := daysFrom(0, len(jobs))
	if got, ok := impl.Load(machines, jobs, order); ok || len(got) != 0 {
		t.Errorf("Load(%v, %v, %v) = %v, %v", machines, jobs, order, got, ok)
	}
	if got, ok := impl.Load(machines, jobs, nil); ok || len(got) != 0 {
		t.Errorf("Load(%v, %v, nothing) = %v, %v", machines, jobs, got, ok)
	}
	if got, late := impl.Best(machines, jobs); len(got) != 0 || late != -1 {
		t.Errorf("Best(%v, %v) = %v, %d", machines, jobs, got, late)
	}
}

// Jobs that are none on whatever machines: Rank and Lateness tell nothing of them.
func refuseJobs(t *testing.T, jobs []impl.Job) {
	t.Helper()
	machines, _ := handShop()
	refuseShop(t, machines, jobs)
	if wantJobsOk(jobs) {
		t.Errorf("the other way the jobs %v are right", jobs)
	}
	for rule := 1; rule <= 4; rule++ {
		if got := impl.Rank(jobs, rule); len(got) != 0 {
			t.Errorf("Rank(%v, %d) = %v", jobs, rule, got)
		}
	}
	for _, slots := range [][]impl.Slot{nil, {{End: impl.MaxHours}}} {
		if late, last := impl.Lateness(jobs, slots); late != 0 || last != 0 {
			t.Errorf("Lateness(%v, %v) = %d, %d", jobs, slots, late, last)
		}
	}
}

// Jobs that Rank and Lateness take, on whatever machines.
func takeJobs(t *testing.T, jobs []impl.Job) {
	t.Helper()
	for rule := 1; rule <= 4; rule++ {
		if got := impl.Rank(jobs, rule); len(got) != len(jobs) {
			t.Errorf("Rank(%v, %d) = %v", jobs, rule, got)
		}
	}
	if len(jobs) == 0 {
		return
	}
	end := impl.MaxHours
	if late, last := impl.Lateness(jobs, []impl.Slot{{End: end}}); late != jobs[0].Weight*(end-jobs[0].Due) || last != end {
		t.Errorf("Lateness(%v, one slot) = %d, %d", jobs, late, last)
	}
}

// Each job of the shop in turn is changed.
func eachJob(change func(j *impl.Job)) [][]impl.Job {
	_, jobs := handShop()
	all := [][]impl.Job{}
	for at := range jobs {
		all = append(all, jobsWith(jobs, func(jobs []impl.Job) { change(&jobs[at]) }))
	}
	return all
}

// Each task of each job of the shop in turn is changed.
func eachTask(change func(t *impl.Task)) [][]impl.Job {
	_, jobs := handShop()
	all := [][]impl.Job{}
	for at := range jobs {
		for task := range jobs[at].Tasks {
			all = append(all, jobsWith(jobs, func(jobs []impl.Job) { change(&jobs[at].Tasks[task]) }))
		}
	}
	return all
}

func refuseEach(t *testing.T, all [][]impl.Job) {
	t.Helper()
	for _, jobs := range all {
		refuseJobs(t, jobs)
	}
}

func takeEach(t *testing.T, all [][]impl.Job) {
	t.Helper()
	machines, _ := handShop()
	for _, jobs := range all {
		checkLoadOk(t, true, machines, jobs)
		takeJobs(t, jobs)
	}
}

func TestLimitsOfLoading(t *testing.T) {
	limits := [4]int{impl.MaxMachines, impl.MaxJobs, impl.MaxStepsOf, impl.MaxHours}
	if limits != [4]int{12, 40, 8, 5000} {
		t.Errorf("the limits are %v", limits)
	}
}

func TestLoadOkByHand(t *testing.T) {
	machines, jobs := handShop()
	checkLoadOk(t, true, machines, jobs)
	checkLoadOk(t, false, machines[:1], jobs)
	checkLoadOk(t, true, machines[:1], jobs[1:2])
	checkLoadOk(t, true, machines, nil)
	checkLoadOk(t, false, nil, nil)
	refuseShop(t, nil, jobs)
}

func TestHowManyMachinesThereMayBe(t *testing.T) {
	for _, count := range []int{0, 1, 2, impl.MaxMachines - 1, impl.MaxMachines, impl.MaxMachines + 1, impl.MaxMachines + 2, 300} {
		machines := slices.Repeat(shopsOf(openAlways(1)), count)
		for _, jobs := range [][]impl.Job{nil, manyJobs(1), manyJobs(2)} {
			if count == 0 || count > impl.MaxMachines {
				refuseShop(t, machines, jobs)
			} else {
				checkLoadOk(t, true, machines, jobs)
			}
		}
	}
}

func TestHowManyJobsThereMayBe(t *testing.T) {
	machines, _ := handShop()
	for _, count := range []int{0, 1, 2, impl.MaxJobs - 1, impl.MaxJobs} {
		checkLoadOk(t, true, machines, manyJobs(count))
		takeJobs(t, manyJobs(count))
	}
	for _, count := range []int{impl.MaxJobs + 1, impl.MaxJobs + 2, 500} {
		refuseJobs(t, manyJobs(count))
	}
}

func TestWhenMachinesMayBeOpen(t *testing.T) {
	_, jobs := handShop()
	for open := -3; open <= 28; open++ {
		for shut := -3; shut <= 28; shut++ {
			for at := range 2 {
				machines, _ := handShop()
				machines[at].Open, machines[at].Shut = open, shut
				checkLoadOk(t, open >= 0 && open <= 23 && shut <= 24 && shut > open, machines, jobs)
			}
		}
	}
	for _, no := range noOpens {
		for at := range 2 {
			machines, _ := handShop()
			machines[at].Open, machines[at].Shut = no[0], no[1]
			refuseShop(t, machines, jobs)
			refuseShop(t, machines, nil)
		}
	}
}

func TestSetupsOfMachines(t *testing.T) {
	for at := range 2 {
		for _, setup := range []int{0, 1, mostSetup - 1, mostSetup} {
			machines, jobs := handShop()
			machines[at].Setup = setup
			checkLoadOk(t, true, machines, jobs)
		}
		for _, none := range noSetups {
			machines, jobs := handShop()
			machines[at].Setup = none
			refuseShop(t, machines, jobs)
			refuseShop(t, machines, nil)
		}
	}
}

func TestNumbersOfJobs(t *testing.T) {
	for _, n := range []int{0, 1, impl.MaxHours - 1, impl.MaxHours} {
		takeEach(t, eachJob(func(j *impl.Job) { j.Ready = n }))
		takeEach(t, eachJob(func(j *impl.Job) { j.Due = n }))
	}
	for _, none := range noHours {
		refuseEach(t, eachJob(func(j *impl.Job) { j.Ready = none }))
		refuseEach(t, eachJob(func(j *impl.Job) { j.Due = none }))
	}
	for _, n := range []int{0, 1, mostJobWeight - 1, mostJobWeight} {
		takeEach(t, eachJob(func(j *impl.Job) { j.Weight = n }))
	}
	for _, none := range noJobWeights {
		refuseEach(t, eachJob(func(j *impl.Job) { j.Weight = none }))
	}
}

func TestHowManyTasksAJobMayHave(t *testing.T) {
	for _, count := range []int{1, 2, impl.MaxStepsOf - 1, impl.MaxStepsOf} {
		takeEach(t, eachJob(func(j *impl.Job) { j.Tasks = manyTasks(count) }))
	}
	for _, count := range []int{0, impl.MaxStepsOf + 1, impl.MaxStepsOf + 2, 500} {
		refuseEach(t, eachJob(func(j *impl.Job) { j.Tasks = manyTasks(count) }))
	}
	refuseEach(t, eachJob(func(j *impl.Job) { j.Tasks = nil }))
	machines, _ := handShop()
	most := manyJobs(impl.MaxJobs)
	for at := range most {
		most[at].Tasks = manyTasks(impl.MaxStepsOf)
	}
	checkLoadOk(t, true, machines, most)
	takeJobs(t, most)
}

func TestNumbersOfTasks(t *testing.T) {
	for _, n := range []int{1, 2, mostTaskHours - 1, mostTaskHours} {
		takeEach(t, eachTask(func(t *impl.Task) { t.Hours = n }))
	}
	for _, none := range noTaskHours {
		refuseEach(t, eachTask(func(t *impl.Task) { t.Hours = none }))
	}
	for _, n := range []int{0, 1, mostFamily - 1, mostFamily} {
		takeEach(t, eachTask(func(t *impl.Task) { t.Family = n }))
	}
	for _, none := range noFamilies {
		refuseEach(t, eachTask(func(t *impl.Task) { t.Family = none }))
	}
}

func TestMachinesOfTasks(t *testing.T) {
	takeEach(t, eachTask(func(t *impl.Task) { t.Machine = 0 }))
	takeEach(t, eachTask(func(t *impl.Task) { t.Machine = 1 }))
	machines, _ := handShop()
	// Rank and Lateness leave machines aside.
	for _, none := range []int{math.MinInt, -2, -1, 2, 3, impl.MaxMachines, math.MaxInt} {
		for _, jobs := range eachTask(func(t *impl.Task) { t.Machine = none }) {
			refuseShop(t, machines, jobs)
			takeJobs(t, jobs)
		}
	}
	for count := 1; count <= impl.MaxMachines; count++ {
		several := slices.Repeat(shopsOf(openAlways(0)), count)
		for machine := -1; machine <= count; machine++ {
			jobs := jobsOf(jobOf(0, 0, 0, taskOf(0, 1, 0), taskOf(machine, 1, 0)))
			checkLoadOk(t, placeAmong(machine, count), several, jobs)
		}
	}
}

// Machines that are right; in hours that they are open they differ much.
func someShops(chance *rand.Rand) []impl.Machine {
	machines := []impl.Machine{}
	for range 1 + chance.Intn([]int{2, 4, impl.MaxMachines}[chance.Intn(3)]) {
		open := chance.Intn(dayHours)
		shut := open + 1 + chance.Intn(dayHours-open)
		if chance.Intn(3) == 0 {
			open, shut = 0, dayHours
		}
		machines = append(machines, shopOf(open, shut, chance.Intn([]int{1, 3, 8, mostSetup + 1}[chance.Intn(4)])))
	}
	return machines
}

// Right jobs on so many machines.
func someJobs(chance *rand.Rand, machines int) []impl.Job {
	jobs := []impl.Job{}
	mostHours := []int{3, 12, 60, mostTaskHours}[chance.Intn(4)]
	families := 1 + chance.Intn([]int{2, 4, mostFamily + 1}[chance.Intn(3)])
	for range chance.Intn([]int{4, 9, impl.MaxJobs + 1}[chance.Intn(3)]) {
		j := jobOf(chance.Intn(100), chance.Intn(10*mostHours), chance.Intn(5))
		for range 1 + chance.Intn([]int{1, 3, impl.MaxStepsOf}[chance.Intn(3)]) {
			j.Tasks = append(j.Tasks, taskOf(chance.Intn(machines), 1+chance.Intn(mostHours), chance.Intn(families)))
		}
		jobs = append(jobs, j)
	}
	return jobs
}

func spoilTask(chance *rand.Rand, t *impl.Task) {
	switch chance.Intn(3) {
	case 0:
		t.Machine = []int{-1, impl.MaxMachines, math.MinInt, math.MaxInt}[chance.Intn(4)]
	case 1:
		t.Hours = noTaskHours[chance.Intn(len(noTaskHours))]
	case 2:
		t.Family = noFamilies[chance.Intn(len(noFamilies))]
	}
}

func spoilJob(chance *rand.Rand, j *impl.Job) {
	switch chance.Intn(5) {
	case 0:
		j.Ready = noHours[chance.Intn(len(noHours))]
	case 1:
		j.Due = noHours[chance.Intn(len(noHours))]
	case 2:
		j.Weight = noJobWeights[chance.Intn(len(noJobWeights))]
	case 3:
		j.Tasks = nil
	case 4:
		spoilTask(chance, &j.Tasks[chance.Intn(len(j.Tasks))])
	}
}

func spoilShop(chance *rand.Rand, m *impl.Machine) {
	if chance.Intn(2) == 0 {
		m.Setup = noSetups[chance.Intn(len(noSetups))]
		return
	}
	no := noOpens[chance.Intn(len(noOpens))]
	m.Open, m.Shut = no[0], no[1]
}

func TestSomeShops(t *testing.T) {
	chance := rand.New(rand.NewSource(191))
	for range 4000 {
		machines := someShops(chance)
		jobs := someJobs(chance, len(machines))
		checkLoadOk(t, true, machines, jobs)
		if len(jobs) > 0 && chance.Intn(2) == 0 {
			spoilJob(chance, &jobs[chance.Intn(len(jobs))])
		} else {
			spoilShop(chance, &machines[chance.Intn(len(machines))])
		}
		refuseShop(t, machines, jobs)
	}
}
