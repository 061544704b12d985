package stand_test

import (
	"math/rand"
	"slices"
	"testing"

	"headword/api"
	"headword/stand"
)

// examinePlan compares Run and Standing of a plan with what they are to return.
func examinePlan(t *testing.T, j stand.Job, plan []int, settings int, stands [][]int, want api.Errno) {
	t.Helper()
	if n, e := stand.Run(j, plan); n != settings || e != want {
		t.Errorf("Run of %v, %.13v: %d %d, want %d %d", j, plan, n, e, settings, want)
	}
	if l, e := stand.Standing(j, plan); !equal(l, stands) || e != want {
		t.Errorf("Standing of %v, %.13v: %v %d, want %v %d", j, plan, l, e, stands, want)
	}
}

// P6.2
func TestRunAndStanding(t *testing.T) {
	for _, x := range []struct {
		j        stand.Job
		plan     []int
		settings int
		stands   [][]int
	}{
		{jobA(), digits("--1-0"), 4, [][]int{{0}, {0, 1}, {0, 2}, {0, 2}, {1, 2}}},
		{jobA(), digits("--010"), 5, [][]int{{0}, {0, 1}, {1, 2}, {0, 2}, {1, 2}}},
		{jobB(), digits("--01"), 3, [][]int{{0}, {0}, {1}, {0}}},
		{job(2, "5454"), digits("----"), 2, [][]int{{5}, {4, 5}, {4, 5}, {4, 5}}},
		{job(5, "543210"), digits("-----3"), 6, [][]int{{5}, {4, 5}, {3, 4, 5}, {2, 3, 4, 5}, {1, 2, 3, 4, 5}, {0, 1, 2, 4, 5}}},
		{job(1, ""), nil, 0, nil},
	} {
		examinePlan(t, x.j, x.plan, x.settings, x.stands, api.OK)
	}
}

// P6.2, R1, R2
func TestErrorsOfPlans(t *testing.T) {
	for _, x := range []struct {
		j    stand.Job
		plan []int
		want api.Errno
	}{
		{jobA(), digits("--"), api.ErrShape},
		{jobA(), digits("--1-"), api.ErrShape},
		{jobA(), digits("--1-0-"), api.ErrShape},
		{jobA(), nil, api.ErrShape},
		{jobA(), digits("99"), api.ErrShape}, // the shape comes before the numbers
		{jobA(), make([]int, 100000), api.ErrShape},
		{job(1, ""), digits("-"), api.ErrShape},
		{jobA(), digits("0-1-0"), api.ErrOver}, // nothing stands
		{jobA(), digits("-01-0"), api.ErrOver}, // there is room
		{jobA(), digits("--110"), api.ErrOver}, // the page stands
		{jobA(), digits("--120"), api.ErrOver},
		{jobA(), list(-2, -1, 1, -1, 0), api.ErrOver},
		{jobA(), list(-1, 1<<62, 1, -1, 0), api.ErrOver},
		{jobA(), list(-1, -1<<63, 1, -1, 0), api.ErrOver},
		{jobA(), digits("----0"), api.ErrNone}, // one must be distributed
		{jobA(), digits("--2-0"), api.ErrNone}, // the page that is set does not stand yet
		{jobA(), digits("--1-1"), api.ErrNone}, // distributed before
		{jobA(), digits("--3-0"), api.ErrNone},
		{jobA(), digits("--6-0"), api.ErrNone},
		{jobA(), list(-1, -1, -2, -1, 0), api.ErrNone},
		{jobA(), list(-1, -1, 1<<62, -1, 0), api.ErrNone},
		{jobA(), list(-1, -1, -1<<63, -1, 0), api.ErrNone},
		{jobA(), digits("--11-"), api.ErrOver}, // the first time with an error counts
		{jobA(), digits("-0--0"), api.ErrOver},
		{jobA(), digits("---10"), api.ErrNone},
		{jobB(), digits("-001"), api.ErrOver},
		{jobB(), digits("--1-"), api.ErrNone},
	} {
		examinePlan(t, x.j, x.plan, 0, nil, x.want)
	}
}

// listsOf returns all lists of so many numbers from -2 to 4.
func listsOf(many int) [][]int {
	lists := [][]int{nil}
	for range many {
		var longer [][]int
		for _, l := range lists {
			for number := -2; number <= 4; number++ {
				longer = append(longer, append(slices.Clone(l), number))
			}
		}
		lists = longer
	}
	return lists
}

// P6.2: all plans of short jobs, right and wrong.
func TestAllPlans(t *testing.T) {
	found := map[api.Errno]int{}
	for many := range 4 {
		plans := append(listsOf(many), listsOf(many + 1)[0])
		for _, j := range jobsOf(many) {
			for _, plan := range plans {
				settings, stands, want := slowRun(j, plan)
				examinePlan(t, j, plan, settings, stands, want)
				found[want]++
			}
		}
	}
	if len(found) != 4 {
		t.Errorf("errors %v", found)
	}
}

// P6.2: plans of long jobs, with one wrong number or none.
func TestDrawnPlans(t *testing.T) {
	r := rand.New(rand.NewSource(2))
	found := map[api.Errno]int{}
	for _, j := range drawJobs(2, 200) {
		plans := slowPlans(j)
		for range 20 {
			plan := slices.Clone(plans[r.Intn(len(plans))])
			settings, stands, want := slowRun(j, plan)
			examinePlan(t, j, plan, settings, stands, want)
			if len(plan) > 0 {
				plan[r.Intn(len(plan))] = r.Intn(9) - 2
			}
			settings, stands, want = slowRun(j, plan)
			examinePlan(t, j, plan, settings, stands, want)
			found[want]++
		}
	}
	if found[api.OK] == 0 || found[api.ErrOver] == 0 || found[api.ErrNone] == 0 {
		t.Errorf("errors %v", found)
	}
}
