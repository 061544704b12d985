package sheet_test

import (
	"math/rand"
	"slices"
	"testing"

	"headword/api"
	"headword/sheet"
)

// examinePlan compares what the functions with a plan return with what they are to return.
func examinePlan(t *testing.T, j job, plan []int, left []int, groups [][]int) {
	t.Helper()
	if e := sheet.Valid(j.size, j.pieces, plan); e != api.OK {
		t.Errorf("Valid of %v, %v: %d", j, plan, e)
	}
	if l, e := sheet.Left(j.size, j.pieces, plan); !slices.Equal(l, left) || e != api.OK {
		t.Errorf("Left of %v, %v: %v %d, want %v", j, plan, l, e, left)
	}
	if l, e := sheet.Groups(j.size, j.pieces, plan); !equal(l, groups) || e != api.OK {
		t.Errorf("Groups of %v, %v: %v %d, want %v", j, plan, l, e, groups)
	}
}

// P9.2, P9.3
func TestValidLeftAndGroups(t *testing.T) {
	for _, x := range []struct {
		job
		plan, left []int
		groups     [][]int
	}{
		{jobA(), list(0, 1, 1, 0, 2), list(0, 0, 7), lists(list(0, 3), list(1, 2), list(4))},
		{jobA(), list(0, 1, 2, 3, 4), list(5, 4, 6, 5, 7), lists(list(0), list(1), list(2), list(3), list(4))},
		{jobA(), list(0, 1, 0, 2, 1), list(1, 1, 5), lists(list(0, 2), list(1, 4), list(3))},
		{jobB(), list(0, 0, 1, 0, 1, 1), list(2, 0), lists(list(0, 1, 3), list(2, 4, 5))},
		{jobD(), list(0, 1, 2, 2), list(3, 3, 2), lists(list(0), list(1), list(2, 3))},
		{job{10, nil}, nil, nil, nil},
		{job{10, []int{}}, []int{}, nil, nil},
		{job{1, list(1)}, list(0), list(0), lists(list(0))},
		{job{24, list(24, 1, 23)}, list(0, 1, 1), list(0, 0), lists(list(0), list(1, 2))},
		{job{24, list(3, 3, 3, 3, 3, 3, 3, 3)}, make([]int, 8), list(0), lists(list(0, 1, 2, 3, 4, 5, 6, 7))},
		{job{1, list(1, 1, 1, 1, 1, 1, 1, 1)}, list(0, 1, 2, 3, 4, 5, 6, 7), make([]int, 8), lists(list(0), list(1), list(2), list(3), list(4), list(5), list(6), list(7))},
	} {
		examinePlan(t, x.job, x.plan, x.left, x.groups)
	}
}

// P9.2, R1, R2
func TestErrorsOfPlans(t *testing.T) {
	for _, x := range []struct {
		plan []int
		want api.Errno
	}{
		{nil, api.ErrShape},
		{list(0, 1), api.ErrShape},
		{list(0, 0, 0, 0), api.ErrShape}, // over as well
		{list(0, 1, 1, 0), api.ErrShape},
		{list(0, 1, 1, 0, 2, 2), api.ErrShape},
		{list(-1), api.ErrShape}, // how many there are comes first
		{list(7, 7, 7, 7, 7, 7), api.ErrShape},
		{make([]int, 100000), api.ErrShape},
		{list(1, 0, 0, 0, 0), api.ErrOrder},
		{list(0, 2, 0, 0, 0), api.ErrOrder},
		{list(0, 0, 1, 1, 3), api.ErrOrder},
		{list(0, 1, 0, 3, 2), api.ErrOrder},
		{list(0, 1<<63-1, 0, 0, 0), api.ErrOrder},
		{list(1<<63-1, 0, 0, 0, 0), api.ErrOrder},
		{list(0, 0, 0, 0, 2), api.ErrOrder}, // over as well
		{list(0, -1, 0, 0, 0), api.ErrNone},
		{list(-1, 0, 1, 2, 3), api.ErrNone},
		{list(-1<<63, 0, 0, 0, 0), api.ErrNone},
		{list(0, 0, 0, 0, -1), api.ErrNone},
		{list(0, 2, -1, 0, 0), api.ErrOrder}, // the first number with an error counts
		{list(0, -1, 9, 0, 0), api.ErrNone},
		{list(0, 0, 1, 1, 2), api.ErrOver},
		{list(0, 0, 0, 0, 0), api.ErrOver},
		{list(0, 1, 2, 1, 3), api.ErrOver},
		{list(0, 1, 2, 3, 1), api.OK},
		{list(0, 1, 2, 0, 0), api.ErrOver},
	} {
		if x.want == api.OK {
			examinePlan(t, jobA(), x.plan, slowLeft(jobA(), x.plan), slowGroups(x.plan))
			continue
		}
		examinePlanError(t, jobA(), x.plan, x.want)
	}
	examinePlanError(t, job{10, nil}, list(0), api.ErrShape)
	examinePlanError(t, job{1, list(1, 1)}, list(0, 0), api.ErrOver)
	examinePlanError(t, job{24, list(12, 13)}, list(0, 0), api.ErrOver)
}

// examinePlanOfAnyError compares the functions with a plan, right or wrong, with what they are to return.
func examinePlanOfAnyError(t *testing.T, j job, plan []int) api.Errno {
	t.Helper()
	e := slowValid(j, plan)
	if e == api.OK {
		examinePlan(t, j, plan, slowLeft(j, plan), slowGroups(plan))
	} else {
		examinePlanError(t, j, plan, e)
	}
	return e
}

// P9.2, P9.3, M1: of few pieces all plans, right or wrong.
func TestAllPlans(t *testing.T) {
	for _, j := range []job{{9, nil}, {9, list(9)}, {2, list(1, 1)}, {2, list(2, 1)}, {3, list(1, 1, 2)}, {3, list(1, 1, 1)}, {7, list(3, 4, 5)}, {8, list(3, 4, 5, 2)}} {
		for many := range 5 {
			for _, plan := range numbersOf(many, -1, len(j.pieces)+1) {
				examinePlanOfAnyError(t, j, plan)
			}
		}
	}
}

// P9.2, P9.3, M1
func TestPlansOfManyJobs(t *testing.T) {
	r := rand.New(rand.NewSource(1))
	found := map[api.Errno]int{}
	for _, j := range manyJobs(1) {
		all := allPlans[len(j.pieces)]
		for range 20 {
			plan := slices.Clone(all[r.Intn(len(all))])
			found[examinePlanOfAnyError(t, j, plan)]++
			if len(plan) > 0 {
				plan[r.Intn(len(plan))] += r.Intn(5) - 2
				found[examinePlanOfAnyError(t, j, plan)]++
			}
		}
	}
	if found[api.OK] < 1000 || found[api.ErrNone] < 100 || found[api.ErrOrder] < 100 || found[api.ErrOver] < 1000 {
		t.Errorf("so often plans have each error: %v", found)
	}
}

// examineGroups compares Plan with what it is to return.
func examineGroups(t *testing.T, j job, groups [][]int, want []int, e api.Errno) {
	t.Helper()
	if plan, f := sheet.Plan(j.size, j.pieces, groups); !slices.Equal(plan, want) || f != e {
		t.Errorf("Plan of %v, %.9v: %v %d, want %v %d", j, groups, plan, f, want, e)
	}
}

// P9.4, R1, R2
func TestPlan(t *testing.T) {
	for _, x := range []struct {
		groups [][]int
		plan   []int
		e      api.Errno
	}{
		{lists(list(4), list(2, 1), list(3, 0)), list(0, 1, 1, 0, 2), api.OK},
		{lists(list(0, 3), list(1, 2), list(4)), list(0, 1, 1, 0, 2), api.OK},
		{lists(list(4), list(3), list(2), list(1), list(0)), list(0, 1, 2, 3, 4), api.OK},
		{lists(list(4, 1), list(0), list(3, 2)), list(0, 1, 2, 2, 1), api.OK},
		{nil, nil, api.ErrShape},
		{[][]int{}, nil, api.ErrShape},
		{lists(list(0, 3), list(1, 2)), nil, api.ErrShape},
		{lists(list(0, 3), list(2), list(4)), nil, api.ErrShape},
		{lists(list(0, 1, 2), list(4)), nil, api.ErrShape}, // over as well
		{lists(list(0, 3), nil, list(1, 2), list(4)), nil, api.ErrShape},
		{lists(list(0, 3), list(1, 2), list(4), list()), nil, api.ErrShape},
		{lists(nil, list(0, 3), list(1, 2), list(4)), nil, api.ErrShape},
		{lists(nil, list(9)), nil, api.ErrShape},
		{lists(nil, list(0, 0)), nil, api.ErrShape},
		{make([][]int, 100000), nil, api.ErrShape},
		{lists(list(9), nil), nil, api.ErrNone}, // the first group with an error counts
		{lists(list(0, 0), nil), nil, api.ErrTwice},
		{lists(list(0, 0), list(9)), nil, api.ErrTwice},
		{lists(list(-1), list(0, 0)), nil, api.ErrNone},
		{lists(list(0, 5)), nil, api.ErrNone},
		{lists(list(0, 3), list(1, 2), list(5)), nil, api.ErrNone},
		{lists(list(0, 3), list(1, 2), list(4, -1)), nil, api.ErrNone},
		{lists(list(1<<63 - 1)), nil, api.ErrNone},
		{lists(list(-1 << 63)), nil, api.ErrNone},
		{lists(list(0, 3, 9, 0)), nil, api.ErrNone}, // the first number with an error counts
		{lists(list(0, 0, 9)), nil, api.ErrTwice},
		{lists(list(0), list(0, 9)), nil, api.ErrTwice},
		{lists(list(0, 3), list(3)), nil, api.ErrTwice},
		{lists(list(0, 3), list(1, 2), list(4), list(0)), nil, api.ErrTwice},
		{lists(list(0), list(1), list(2), list(3), list(4, 4)), nil, api.ErrTwice},
		{lists(list(4), list(3), list(4)), nil, api.ErrTwice},
		{lists(make([]int, 100000)), nil, api.ErrTwice},
		{lists(list(0, 1), list(2), list(3), list(4)), nil, api.ErrOver},
		{lists(list(4), list(3), list(2), list(1, 0)), nil, api.ErrOver},
		{lists(list(4, 3, 2, 1, 0)), nil, api.ErrOver},
	} {
		examineGroups(t, jobA(), x.groups, x.plan, x.e)
	}
	examineGroups(t, job{10, nil}, nil, nil, api.OK)
	examineGroups(t, job{10, nil}, lists(nil), nil, api.ErrShape)
	examineGroups(t, job{10, nil}, lists(list(0)), nil, api.ErrNone)
	examineGroups(t, job{24, list(12, 12)}, lists(list(1, 0)), list(0, 0), api.OK)
	examineGroups(t, job{24, list(12, 13)}, lists(list(1, 0)), nil, api.ErrOver)
}

// groupsOf returns the groups that a list tells, in which one number stands between each two groups.
func groupsOf(l []int, between int) [][]int {
	groups := lists(nil)
	for _, number := range l {
		if number == between {
			groups = append(groups, nil)
		} else {
			groups[len(groups)-1] = append(groups[len(groups)-1], number)
		}
	}
	return groups
}

// P9.4, M1: of few pieces all groups, right or wrong, with few numbers.
func TestPlanOfAllGroups(t *testing.T) {
	found := map[api.Errno]int{}
	for _, j := range []job{{9, nil}, {9, list(9)}, {2, list(1, 1)}, {2, list(2, 1)}, {3, list(2, 1, 1)}, {7, list(3, 4, 5)}} {
		for many := range 6 {
			for _, l := range numbersOf(many, -2, len(j.pieces)) {
				groups := groupsOf(l, -2)
				want, e := slowPlan(j, groups)
				found[e]++
				examineGroups(t, j, groups, want, e)
			}
		}
	}
	if found[api.OK] < 20 || found[api.ErrShape] < 100 || found[api.ErrNone] < 100 || found[api.ErrTwice] < 100 || found[api.ErrOver] < 10 {
		t.Errorf("so often Plan returns each error: %v", found)
	}
}

// P9.4
func TestPlanOfManyGroups(t *testing.T) {
	r := rand.New(rand.NewSource(2))
	found := map[api.Errno]int{}
	for _, j := range manyJobs(2) {
		many := len(j.pieces)
		for range 10 {
			// An order, with the ends of groups in some places, and perhaps a number that is not in its place.
			var l []int
			for _, number := range drawOrder(r, many) {
				if len(l) > 0 && r.Intn(3) > 0 {
					l = append(l, -2)
				}
				l = append(l, number)
			}
			if len(l) > 0 && r.Intn(3) == 0 {
				l[r.Intn(len(l))] = r.Intn(many+3) - 2
			}
			groups := groupsOf(l, -2)
			want, e := slowPlan(j, groups)
			found[e]++
			examineGroups(t, j, groups, want, e)
		}
	}
	if found[api.OK] < 500 || found[api.ErrShape] < 100 || found[api.ErrNone] < 100 || found[api.ErrTwice] < 100 || found[api.ErrOver] < 500 {
		t.Errorf("so often Plan returns each error: %v", found)
	}
}
