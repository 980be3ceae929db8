package tests

import (
	"math"
	"math/rand"
	"slices"
	"testing"

	"loop.example/g00040/impl"
)

const mostSlots = 400

// Job and End and so on; the other fields say nothing that could be.
func endsOf(pairs ...int) []impl.Slot {
	slots := []impl.Slot{}
	for i := 0; i < len(pairs); i += 2 {
		slots = append(slots, impl.Slot{Job: pairs[i], Task: -5, Machine: 99, Begin: math.MaxInt, End: pairs[i+1]})
	}
	return slots
}

// Due, Weight and so on.
func weighedJobs(pairs ...int) []impl.Job {
	jobs := []impl.Job{}
	for i := 0; i < len(pairs); i += 2 {
		jobs = append(jobs, jobOf(0, pairs[i], pairs[i+1], taskOf(0, 1, 0)))
	}
	return jobs
}

// wantLateness lays a job's Due among the ends of its slots: it is late by how far the last of all these is behind the Due.
func wantLateness(jobs []impl.Job, slots []impl.Slot) (int, int) {
	if !wantJobsOk(jobs) || len(slots) > mostSlots {
		return 0, 0
	}
	all, ends := []int{0}, map[int][]int{}
	for _, s := range slots {
		if !placeAmong(s.Job, len(jobs)) || !upTo(s.End, impl.MaxHours) {
			return 0, 0
		}
		all, ends[s.Job] = append(all, s.End), append(ends[s.Job], s.End)
	}
	late := 0
	for at, j := range jobs {
		late += j.Weight * (slices.Max(append(ends[at], j.Due)) - j.Due)
	}
	return late, slices.Max(all)
}

func checkLateness(t *testing.T, jobs []impl.Job, slots []impl.Slot, late, last int) {
	t.Helper()
	if l, e := impl.Lateness(jobs, slots); l != late || e != last {
		t.Errorf("Lateness(%v, %v) = %d, %d; want %d, %d", jobs, slots, l, e, late, last)
	}
	if l, e := wantLateness(jobs, slots); l != late || e != last {
		t.Errorf("the other way Lateness(%v, %v) = %d, %d; want %d, %d", jobs, slots, l, e, late, last)
	}
}

func refuseLateness(t *testing.T, jobs []impl.Job, slots []impl.Slot) {
	t.Helper()
	checkLateness(t, jobs, slots, 0, 0)
}

func TestLatenessByHand(t *testing.T) {
	jobs := weighedJobs(10, 2, 20, 1, 5, 7)
	checkLateness(t, jobs, endsOf(0, 12, 0, 17, 1, 14), 14, 17)
	checkLateness(t, jobs, endsOf(0, 12, 0, 17, 1, 14, 2, 6), 21, 17)
	checkLateness(t, jobs, endsOf(0, 10, 1, 20, 2, 5), 0, 20)
	checkLateness(t, jobs, endsOf(0, 11, 1, 21, 2, 6), 10, 21)
	checkLateness(t, jobs, endsOf(0, 9, 1, 19, 2, 4), 0, 19)
}

func TestSlotsOfAJobOutOfOrder(t *testing.T) {
	jobs := weighedJobs(10, 2, 20, 1)
	for _, slots := range [][]impl.Slot{endsOf(0, 12, 0, 15, 0, 3), endsOf(0, 15, 0, 12, 0, 3), endsOf(0, 3, 0, 15, 0, 12), endsOf(0, 15, 0, 3, 0, 15)} {
		checkLateness(t, jobs, slots, 10, 15)
		checkLateness(t, jobs, append(endsOf(1, 30), slots...), 20, 30)
		checkLateness(t, jobs, append(slots, endsOf(1, 30)...), 20, 30)
		checkLateness(t, jobs, slices.Insert(slots, 1, endsOf(1, 30, 1, 2)...), 20, 30)
	}
}

func TestJobsWithoutSlots(t *testing.T) {
	jobs := weighedJobs(0, 9, 10, 2, 0, 1000)
	checkLateness(t, jobs, nil, 0, 0)
	checkLateness(t, jobs, []impl.Slot{}, 0, 0)
	checkLateness(t, jobs, endsOf(1, 13), 6, 13)
	checkLateness(t, jobs, endsOf(0, 0, 1, 0), 0, 0)
	checkLateness(t, jobs, endsOf(0, 1), 9, 1)
	checkLateness(t, nil, nil, 0, 0)
	checkLateness(t, []impl.Job{}, []impl.Slot{}, 0, 0)
	refuseLateness(t, nil, endsOf(0, 5))
}

func TestDoneAroundItsDue(t *testing.T) {
	for _, due := range []int{0, 1, 2, 77, impl.MaxHours - 1, impl.MaxHours} {
		for _, weight := range []int{0, 1, 3, mostJobWeight} {
			jobs := weighedJobs(due, weight)
			checkLateness(t, jobs, endsOf(0, due), 0, due)
			if due > 0 {
				checkLateness(t, jobs, endsOf(0, due-1), 0, due-1)
			}
			if due < impl.MaxHours {
				checkLateness(t, jobs, endsOf(0, due+1), weight, due+1)
				checkLateness(t, jobs, endsOf(0, impl.MaxHours), weight*(impl.MaxHours-due), impl.MaxHours)
			}
		}
	}
}

func TestJobsThatAreLateTogether(t *testing.T) {
	jobs := weighedJobs(1, 1, 2, 10, 3, 100, 4, 0)
	checkLateness(t, jobs, endsOf(0, 5, 1, 5, 2, 5, 3, 5), 4+30+200, 5)
	// One that is done ahead of its Due makes up for none that is late.
	checkLateness(t, jobs, endsOf(0, 0, 1, 0, 2, 4, 3, 5), 100, 5)
	checkLateness(t, jobs, endsOf(0, 2, 1, 1, 2, 0, 3, 900), 1, 900)
	most := weighedJobs(slices.Repeat([]int{0, mostJobWeight}, impl.MaxJobs)...)
	slots := []impl.Slot{}
	for at := range most {
		slots = append(slots, endsOf(at, impl.MaxHours)...)
	}
	checkLateness(t, most, slots, impl.MaxJobs*mostJobWeight*impl.MaxHours, impl.MaxHours)
}

func TestHowManySlotsThereMayBe(t *testing.T) {
	jobs := weighedJobs(10, 2, 20, 1)
	for _, count := range []int{1, 2, 320, mostSlots - 1, mostSlots} {
		checkLateness(t, jobs, slices.Repeat(endsOf(1, 25), count), 5, 25)
	}
	for _, count := range []int{mostSlots + 1, mostSlots + 2, 3000} {
		refuseLateness(t, jobs, slices.Repeat(endsOf(1, 25), count))
	}
}

func TestSlotsThatAreNone(t *testing.T) {
	jobs := weighedJobs(10, 2, 20, 1)
	for _, end := range noHours {
		refuseLateness(t, jobs, endsOf(0, end))
		refuseLateness(t, jobs, endsOf(0, 12, 1, end))
		refuseLateness(t, jobs, endsOf(0, end, 1, 22))
		refuseLateness(t, weighedJobs(10, 0), endsOf(0, end))
	}
	for _, job := range []int{math.MinInt, -2, -1, 2, 3, impl.MaxJobs, math.MaxInt} {
		refuseLateness(t, jobs, endsOf(job, 12))
		refuseLateness(t, jobs, endsOf(0, 12, job, 12))
		refuseLateness(t, jobs, endsOf(job, 0, 0, 12))
	}
	checkLateness(t, jobs, endsOf(0, impl.MaxHours, 1, 0), 2*(impl.MaxHours-10), impl.MaxHours)
	checkLateness(t, jobs, endsOf(1, impl.MaxHours, 0, 0), impl.MaxHours-20, impl.MaxHours)
}

func TestOtherFieldsOfSlots(t *testing.T) {
	jobs := weighedJobs(10, 2, 20, 1)
	for _, n := range []int{math.MinInt, -1, 0, 1, 7, impl.MaxHours + 1, math.MaxInt} {
		for _, s := range []impl.Slot{{Job: 0, End: 13, Task: n}, {Job: 0, End: 13, Machine: n}, {Job: 0, End: 13, Begin: n}, {Job: 0, End: 13, Task: n, Machine: n, Begin: n}} {
			checkLateness(t, jobs, []impl.Slot{s}, 6, 13)
			checkLateness(t, jobs, append(endsOf(1, 23), s), 9, 23)
		}
	}
}

func TestLatenessOfJobsThatAreNone(t *testing.T) {
	for _, jobs := range append(eachJob(func(j *impl.Job) { j.Due = -1 }), eachTask(func(t *impl.Task) { t.Hours = 0 })...) {
		refuseLateness(t, jobs, endsOf(0, 50, 1, 60, 2, 70))
		refuseLateness(t, jobs, nil)
	}
	slots := endsOf(0, 50, 1, 60)
	checkLateness(t, manyJobs(impl.MaxJobs), slots, 49+59, 60)
	refuseLateness(t, manyJobs(impl.MaxJobs+1), slots)
	refuseLateness(t, manyJobs(impl.MaxJobs+1), nil)
	// Their machines are left aside.
	for _, machine := range []int{math.MinInt, -1, impl.MaxMachines, math.MaxInt} {
		jobs := jobsWith(manyJobs(2), func(jobs []impl.Job) { jobs[1].Tasks[0].Machine = machine })
		checkLateness(t, jobs, slots, 49+59, 60)
	}
}

func TestJobsOfWeight0NeverCount(t *testing.T) {
	chance := rand.New(rand.NewSource(196))
	for range 2000 {
		machines := someShops(chance)
		jobs := someJobs(chance, len(machines))
		slots, ok := impl.Load(machines, jobs, chance.Perm(len(jobs)))
		if !ok {
			continue
		}
		late, last := impl.Lateness(jobs, slots)
		other := copyJobs(jobs)
		for at := range other {
			if other[at].Weight == 0 {
				other[at].Due = chance.Intn(impl.MaxHours + 1)
			}
		}
		checkLateness(t, other, slots, late, last)
		for at := range other {
			other[at].Weight = 0
		}
		checkLateness(t, other, slots, 0, last)
	}
}

func TestSomeLateness(t *testing.T) {
	chance := rand.New(rand.NewSource(197))
	late, none := 0, 0
	for range 6000 {
		jobs := someJobs(chance, 3)
		slots := []impl.Slot{}
		most := []int{30, impl.MaxHours + 1}[chance.Intn(2)]
		for range chance.Intn(12) {
			slots = append(slots, endsOf(chance.Intn(len(jobs)+1), chance.Intn(most))...)
		}
		if len(jobs) > 0 {
			slots = slotsWhere(slots, func(s impl.Slot) bool { return s.Job < len(jobs) || chance.Intn(9) == 0 })
			if chance.Intn(9) == 0 {
				spoilJob(chance, &jobs[chance.Intn(len(jobs))])
			}
		}
		wantLate, wantLast := wantLateness(jobs, slots)
		checkLateness(t, jobs, slots, wantLate, wantLast)
		if wantLate > 0 {
			late++
		} else if wantLast == 0 {
			none++
		}
	}
	if late < 1500 || none < 500 {
		t.Errorf("%d late, %d without a last end", late, none)
	}
}

func TestLatenessLeavesItsArguments(t *testing.T) {
	machines, jobs, _ := roomyShop()
	_, kept := shopRoom(machines, jobs)
	slots := append(endsOf(0, 12, 2, 50), endsOf(-7, -7, -7, -7)...)[:2]
	keptSlots := slices.Clone(slots[:cap(slots)])
	for range 2 {
		checkLateness(t, jobs, slots, 2*2+10*3, 50)
		refuseLateness(t, jobs, slots[:3])
		refuseLateness(t, jobs[:4], slots)
	}
	if _, now := shopRoom(machines, jobs); !sameJobs(now, kept) || !slices.Equal(slots[:cap(slots)], keptSlots) {
		t.Errorf("the arguments were written into: %v, %v", now, slots[:cap(slots)])
	}
}
