package table_test

import (
	"math/rand"
	"slices"
	"testing"

	"headword/api"
	"headword/table"
)

// examineWithin compares Within with what it is to return.
func examineWithin(t *testing.T, l [][]int, plan []int, want api.Errno) {
	t.Helper()
	if e := table.Within(l, plan); e != want {
		t.Errorf("Within of %v, %.9v: %d, want %d", l, plan, e, want)
	}
}

// P11.2, R1
func TestWithin(t *testing.T) {
	for _, x := range []struct {
		plan []int
		want api.Errno
	}{
		{list(0, 1, 2), api.OK},
		{list(1, 2, 0), api.OK},
		{list(0, 2, 1), api.ErrLost},
		{list(1, 0, 2), api.ErrLost},
		{list(2, 0, 1), api.ErrLost},
		{list(2, 1, 0), api.ErrLost},
		{nil, api.ErrShape},
		{list(), api.ErrShape},
		{list(0, 1), api.ErrShape},
		{list(0, 1, 2, 3), api.ErrShape},
		{list(0, 1, 2, 0), api.ErrShape},
		{list(9), api.ErrShape}, // the shape comes before the numbers
		{list(0, 0), api.ErrShape},
		{list(0, 0, 0, 0), api.ErrShape},
		{list(-1, -1, -1, -1), api.ErrShape},
		{make([]int, 100000), api.ErrShape},
		{list(0, 3, 1), api.ErrNone},
		{list(3, 0, 1), api.ErrNone},
		{list(0, 1, 3), api.ErrNone},
		{list(-1, 0, 1), api.ErrNone},
		{list(0, -1, 0), api.ErrNone}, // the first number with an error counts
		{list(3, 3, 3), api.ErrNone},
		{list(3, 0, 0), api.ErrNone},
		{list(-1, -1, 0), api.ErrNone},
		{list(1<<63-1, 0, 1), api.ErrNone},
		{list(0, 1, -1<<63), api.ErrNone},
		{list(2, 0, 3), api.ErrNone}, // a place with 0 does not matter before
		{list(0, 0, 1), api.ErrTwice},
		{list(0, 1, 0), api.ErrTwice},
		{list(0, 1, 1), api.ErrTwice},
		{list(2, 2, 2), api.ErrTwice},
		{list(1, 1, 9), api.ErrTwice},
		{list(2, 2, -1), api.ErrTwice},
		{list(2, 0, 0), api.ErrTwice},
	} {
		examineWithin(t, tableA(), x.plan, x.want)
	}
	examineWithin(t, flat(1, 9), list(0), api.OK)
	examineWithin(t, flat(1, 0), list(0), api.ErrLost)
	examineWithin(t, flat(1, 0), list(1), api.ErrNone)
	examineWithin(t, flat(1, 0), nil, api.ErrShape)
	examineWithin(t, tableC(), list(0, 1, 2), api.ErrLost)
	examineWithin(t, tableOf(2, 1, 0, 0, 1), list(1, 0), api.ErrLost)
	examineWithin(t, tableOf(2, 1, 0, 1, 1), list(1, 0), api.ErrLost) // one 0 is enough
	examineWithin(t, tableOf(2, 1, 1, 0, 1), list(1, 0), api.ErrLost)
	examineWithin(t, tableOf(2, 0, 1, 1, 0), list(1, 0), api.OK)
	examineWithin(t, flat(4, 1), list(3, 1, 0, 2), api.OK)
	examineWithin(t, flat(4, 1), list(3, 1, 0, 4), api.ErrNone)
	examineWithin(t, flat(4, 1), list(3, 1, 0, 3), api.ErrTwice)
}

// P11.2, M1: all lists of numbers as plans.
func TestWithinOfAllLists(t *testing.T) {
	found := map[api.Errno]int{}
	for _, l := range append(drawTables(4, 200), edgeTables()...) {
		for many := range len(l) + 2 {
			if many > 4 { // the shape alone counts
				examineWithin(t, l, make([]int, many), api.ErrShape)
				continue
			}
			for _, plan := range numbersOf(many, len(l)+2) {
				for i := range plan {
					plan[i]--
				}
				want := slowWithin(l, plan)
				examineWithin(t, l, plan, want)
				found[want]++
			}
		}
	}
	for _, e := range []api.Errno{api.OK, api.ErrShape, api.ErrNone, api.ErrTwice, api.ErrLost} {
		if found[e] < 500 {
			t.Errorf("so often Within returns each error: %v", found)
		}
	}
}

// examinePlans compares First, Count and Weight with what they are to return; none is the first plan if there is none.
func examinePlans(t *testing.T, l [][]int, first []int, count, weight int) {
	t.Helper()
	e := api.OK
	if len(first) == 0 {
		e = api.ErrLost
	}
	if plan, f := table.First(l); !slices.Equal(plan, first) || f != e {
		t.Errorf("First of %v: %v %d, want %v %d", l, plan, f, first, e)
	}
	if n, f := table.Count(l); n != count || f != api.OK {
		t.Errorf("Count of %v: %d %d, want %d", l, n, f, count)
	}
	if n, f := table.Weight(l); n != weight || f != api.OK {
		t.Errorf("Weight of %v: %d %d, want %d", l, n, f, weight)
	}
}

// P11.2, P11.3, R2
func TestFirstAndCountAndWeight(t *testing.T) {
	for _, x := range []struct {
		table         [][]int
		first         []int
		count, weight int
	}{
		{tableA(), list(0, 1, 2), 2, 2},
		{tableB(), list(0, 1, 2), 6, 16},
		{tableC(), nil, 0, 0},
		{flat(1, 0), nil, 0, 0},
		{flat(1, 1), list(0), 1, 1},
		{flat(1, 9), list(0), 1, 9},
		{flat(2, 0), nil, 0, 0},
		{flat(2, 3), list(0, 1), 2, 18},
		{flat(3, 1), list(0, 1, 2), 6, 6},
		{flat(4, 1), list(0, 1, 2, 3), 24, 24},
		{flat(4, 9), list(0, 1, 2, 3), 24, 157464},
		{tableOf(2, 0, 3, 4, 0), list(1, 0), 1, 12},
		{tableOf(2, 2, 1, 1, 2), list(0, 1), 2, 5},
		{tableOf(2, 1, 2, 3, 4), list(0, 1), 2, 10},
		{tableOf(2, 1, 2, 3, 0), list(1, 0), 1, 6},
		{tableOf(2, 1, 0, 1, 0), nil, 0, 0},
		{tableOf(2, 9, 9, 0, 0), nil, 0, 0},
		{tableOf(3, 1, 2, 3, 4, 5, 6, 7, 8, 9), list(0, 1, 2), 6, 450},
		{tableOf(3, 1, 1, 1, 1, 1, 0, 1, 0, 0), list(2, 1, 0), 1, 1}, // others begin with 0 or 1
		{tableOf(3, 1, 1, 1, 1, 0, 0, 1, 1, 0), list(2, 0, 1), 1, 1},
		{tableOf(3, 1, 0, 1, 1, 1, 1, 1, 1, 0), list(0, 2, 1), 3, 3},
		{tableOf(4, 0, 0, 0, 2, 0, 0, 3, 0, 0, 4, 0, 0, 5, 0, 0, 0), list(3, 2, 1, 0), 1, 120},
		{tableOf(4, 0, 1, 1, 1, 1, 0, 1, 1, 1, 1, 0, 1, 1, 1, 1, 0), list(1, 0, 3, 2), 9, 9},
		{tableOf(4, 9, 9, 9, 9, 9, 9, 9, 9, 9, 9, 9, 9, 0, 0, 0, 0), nil, 0, 0},
		{tableOf(4, 9, 9, 9, 0, 9, 9, 9, 0, 9, 9, 9, 0, 9, 9, 9, 0), nil, 0, 0},
		{tableOf(4, 1, 1, 0, 0, 1, 1, 0, 0, 0, 0, 1, 1, 0, 0, 1, 1), list(0, 1, 2, 3), 4, 4},
	} {
		examinePlans(t, x.table, x.first, x.count, x.weight)
	}
}

// examineAllPlans compares First, Count and Weight of a table with slow ones, and returns how many plans are within it.
func examineAllPlans(t *testing.T, l [][]int) int {
	t.Helper()
	first, _ := slowFirst(l)
	count := len(slowPlans(l))
	examinePlans(t, l, first, count, slowWeight(l))
	return count
}

// P11.2, P11.3, M1, M3
func TestPlansOfManyTables(t *testing.T) {
	found := map[int]int{}
	for _, l := range append(manyTables(5), tablesOf(3, 3)...) {
		found[examineAllPlans(t, l)]++
	}
	for _, count := range list(0, 1, 2, 3, 4, 5, 6, 7, 8, 9, 10, 11, 12, 14, 18, 24) {
		if found[count] < 10 {
			t.Errorf("so often Count returns each number: %v", found)
		}
	}
}

// P11.2, P11.3: of four rows all places of zeros.
func TestPlansOfAllPlaces(t *testing.T) {
	r := rand.New(rand.NewSource(6))
	for _, l := range tablesOf(4, 2) {
		for _, row := range l {
			for column := range row {
				row[column] *= 1 + r.Intn(9)
			}
		}
		examineAllPlans(t, l)
	}
}
