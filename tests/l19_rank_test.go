package tests

import (
	"math"
	"math/rand"
	"slices"
	"testing"

	"loop.example/g00040/impl"
)

var eachRule = []int{1, 2, 3, 4}

var noRules = []int{math.MinInt, -4, -1, 0, 5, 6, math.MaxInt}

// Due, Hours, Weight and so on: jobs of one task each.
func duesAndHours(threes ...int) []impl.Job {
	jobs := []impl.Job{}
	for i := 0; i < len(threes); i += 3 {
		jobs = append(jobs, jobOf(0, threes[i], threes[i+2], taskOf(0, threes[i+1], 0)))
	}
	return jobs
}

func hoursOf(j impl.Job) int {
	all := 0
	for _, t := range j.Tasks {
		all += t.Hours
	}
	return all
}

// Does a job come ahead of another one by what the rule goes by?
func ranksAhead(j, other impl.Job, rule int) bool {
	switch rule {
	case 1:
		return j.Due < other.Due
	case 2:
		return hoursOf(j) < hoursOf(other)
	case 3:
		return j.Weight > other.Weight
	}
	return j.Due+hoursOf(other) < other.Due+hoursOf(j)
}

// wantRank lays each job behind as many as come ahead of it: nothing is sorted.
func wantRank(jobs []impl.Job, rule int) []int {
	if !wantJobsOk(jobs) || !slices.Contains(eachRule, rule) {
		return nil
	}
	order := repeated(-1, len(jobs))
	for at, j := range jobs {
		ahead := 0
		for place, other := range jobs {
			if ranksAhead(other, j, rule) || place < at && !ranksAhead(j, other, rule) {
				ahead++
			}
		}
		order[ahead] = at
	}
	return order
}

func checkRank(t *testing.T, jobs []impl.Job, rule int, want ...int) []int {
	t.Helper()
	got := impl.Rank(jobs, rule)
	if !slices.Equal(got, want) {
		t.Errorf("Rank(%v, %d) = %v; want %v", jobs, rule, got, want)
	}
	if other := wantRank(jobs, rule); !slices.Equal(other, want) {
		t.Errorf("the other way Rank(%v, %d) = %v; want %v", jobs, rule, other, want)
	}
	return got
}

func rankAsWanted(t *testing.T, jobs []impl.Job) {
	t.Helper()
	for _, rule := range eachRule {
		checkRank(t, jobs, rule, wantRank(jobs, rule)...)
	}
}

func TestRankByHand(t *testing.T) {
	jobs := duesAndHours(30, 5, 2, 10, 9, 4, 20, 1, 3, 12, 12, 1)
	checkRank(t, jobs, 1, 1, 3, 2, 0)
	checkRank(t, jobs, 2, 2, 0, 1, 3)
	checkRank(t, jobs, 3, 1, 2, 0, 3)
	checkRank(t, jobs, 4, 3, 1, 2, 0)
	_, shop := handShop()
	checkRank(t, shop, 1, 0, 1, 2)
	checkRank(t, shop, 2, 1, 0, 2)
	checkRank(t, shop, 3, 2, 0, 1)
	checkRank(t, shop, 4, 0, 1, 2)
}

func TestRankOfJobsThatAreAlike(t *testing.T) {
	// Alike in all, and in what one rule goes by alone.
	alike := duesAndHours(7, 3, 2, 7, 3, 2, 7, 3, 2, 7, 3, 2)
	for _, rule := range eachRule {
		checkRank(t, alike, rule, 0, 1, 2, 3)
	}
	checkRank(t, duesAndHours(7, 9, 0, 7, 3, 5, 6, 9, 0, 7, 1, 9), 1, 2, 0, 1, 3)
	checkRank(t, duesAndHours(9, 3, 0, 7, 3, 5, 6, 2, 0, 5, 3, 9), 2, 2, 0, 1, 3)
	checkRank(t, duesAndHours(9, 9, 2, 7, 3, 2, 6, 2, 3, 5, 1, 2), 3, 2, 0, 1, 3)
	checkRank(t, duesAndHours(9, 7, 0, 7, 5, 2, 6, 5, 3, 4, 2, 9), 4, 2, 0, 1, 3)
	// More than a dozen, of which only some are alike.
	many := []impl.Job{}
	for i := range impl.MaxJobs {
		many = append(many, duesAndHours(100+i%3, 10+i%3, 3-i%3)...)
	}
	want := []int{}
	for rest := range 3 {
		for i := rest; i < impl.MaxJobs; i += 3 {
			want = append(want, i)
		}
	}
	for _, rule := range []int{1, 2, 3} {
		checkRank(t, many, rule, want...)
	}
	checkRank(t, many, 4, daysFrom(0, impl.MaxJobs)...)
}

func TestRankByAllTasks(t *testing.T) {
	// The hours of all tasks together count, not those of the first, the last or the greatest one.
	jobs := jobsOf(
		jobOf(0, 100, 0, taskOf(0, 9, 0)),
		jobOf(0, 100, 0, taskOf(0, 1, 0), taskOf(1, 8, 0), taskOf(0, 1, 0)),
		jobOf(0, 100, 0, taskOf(0, 4, 0), taskOf(0, 4, 0)),
		jobOf(0, 100, 0, slices.Repeat([]impl.Task{taskOf(0, 1, 0)}, 7)...),
	)
	checkRank(t, jobs, 2, 3, 2, 0, 1)
	checkRank(t, jobs, 4, 1, 0, 2, 3)
	// Ready counts for nothing.
	for at := range jobs {
		jobs[at].Ready = 50 * at
	}
	rankAsWanted(t, jobs)
	checkRank(t, jobs, 2, 3, 2, 0, 1)
	checkRank(t, jobs, 1, 0, 1, 2, 3)
}

func TestWaitsBelow0(t *testing.T) {
	checkRank(t, duesAndHours(0, 1, 0, 5, 1, 0, 0, 2, 0), 4, 2, 0, 1)
	checkRank(t, duesAndHours(3, 5, 0, 0, 1, 0, 9, 9, 0, 4, 9, 0, 0, 2, 0), 4, 3, 0, 4, 1, 2)
	longest := jobOf(0, 0, 0, slices.Repeat([]impl.Task{taskOf(0, mostTaskHours, 0)}, impl.MaxStepsOf)...)
	latest := jobOf(0, impl.MaxHours, 0, taskOf(0, 1, 0))
	checkRank(t, jobsOf(latest, longest, latest, longest), 4, 1, 3, 0, 2)
	checkRank(t, jobsOf(latest, longest, latest, longest), 2, 0, 2, 1, 3)
}

func TestRulesThatAreNone(t *testing.T) {
	_, jobs := handShop()
	for _, rule := range noRules {
		checkRank(t, jobs, rule)
		checkRank(t, nil, rule)
		checkRank(t, manyJobs(1), rule)
	}
}

func TestHowManyAreRanked(t *testing.T) {
	for _, rule := range eachRule {
		checkRank(t, nil, rule)
		for _, count := range []int{0, 1, 2, impl.MaxJobs - 1, impl.MaxJobs} {
			checkRank(t, manyJobs(count), rule, daysFrom(0, count)...)
		}
		for _, count := range []int{impl.MaxJobs + 1, impl.MaxJobs + 2, 500} {
			checkRank(t, manyJobs(count), rule)
		}
	}
}

func TestRankLeavesMachinesAside(t *testing.T) {
	jobs := duesAndHours(30, 5, 2, 10, 9, 4, 20, 1, 3)
	for _, machine := range []int{math.MinInt, -1, 0, 11, impl.MaxMachines, 1000000, math.MaxInt} {
		for at := range jobs {
			changed := jobsWith(jobs, func(jobs []impl.Job) { jobs[at].Tasks[0].Machine = machine })
			checkRank(t, changed, 1, 1, 2, 0)
			checkRank(t, changed, 2, 2, 0, 1)
			checkRank(t, changed, 3, 1, 2, 0)
			checkRank(t, changed, 4, 1, 2, 0)
		}
	}
}

func TestSomeRanks(t *testing.T) {
	chance := rand.New(rand.NewSource(195))
	for range 5000 {
		jobs := someJobs(chance, 1+chance.Intn(impl.MaxMachines))
		if len(jobs) > 0 && chance.Intn(5) == 0 {
			spoilJob(chance, &jobs[chance.Intn(len(jobs))])
		}
		rankAsWanted(t, jobs)
		for _, rule := range eachRule {
			if wantJobsOk(jobs) && !isOrder(impl.Rank(jobs, rule), len(jobs)) {
				t.Errorf("Rank(%v, %d) = %v is no order", jobs, rule, impl.Rank(jobs, rule))
			}
		}
	}
}

func TestRankLeavesItsArguments(t *testing.T) {
	machines, jobs, _ := roomyShop()
	_, kept := shopRoom(machines, jobs)
	for range 2 {
		spoilList(checkRank(t, jobs, 1, 0, 1, 2))
		spoilList(checkRank(t, jobs, 2, 1, 0, 2))
		spoilList(checkRank(t, jobs, 3, 2, 0, 1))
		spoilList(checkRank(t, jobs, 4, 0, 1, 2))
		checkRank(t, jobs[:4], 1)
	}
	if _, now := shopRoom(machines, jobs); !sameJobs(now, kept) {
		t.Errorf("the jobs were written into: %v", now)
	}
}
