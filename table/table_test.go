package table_test

import (
	"slices"
	"testing"

	"headword/api"
	"headword/table"
)

func TestLimits(t *testing.T) {
	limits := list(table.MaxSize, table.MaxLines, table.MaxTimes, table.MaxShares, table.MaxSum)
	if !slices.Equal(limits, list(4, 9, 36, 10, 6)) {
		t.Errorf("limits %v", limits)
	}
}

// wrongTables are tables with an error, and the error that counts.
var wrongTables = []struct {
	table [][]int
	want  api.Errno
}{
	{nil, api.ErrEmpty},
	{lists(), api.ErrEmpty},
	{make([][]int, 5), api.ErrMany}, // too many come before wrong rows
	{make([][]int, 100000), api.ErrMany},
	{flat(5, 1), api.ErrMany},
	{flat(5, 10), api.ErrMany},
	{lists(list(0), list(0), list(0), list(0), list(0)), api.ErrMany},
	{lists(nil), api.ErrShape},
	{lists(list()), api.ErrShape},
	{lists(list(1, 1)), api.ErrShape},
	{lists(list(1, 0), list(1)), api.ErrShape},
	{lists(list(1), list(1, 0)), api.ErrShape},
	{lists(list(1, 0), list(1, 0, 0)), api.ErrShape},
	{lists(list(1, 0), nil), api.ErrShape},
	{lists(list(1, 0, 0), list(0, 1, 0)), api.ErrShape},
	{lists(list(1, 0), list(0, 1), list(1, 1)), api.ErrShape},
	{lists(list(0, 0, 0, 0), list(0, 0, 0, 0), list(0, 0, 0, 0), list(0, 0, 0)), api.ErrShape},
	{lists(make([]int, 100000)), api.ErrShape},
	{lists(list(10, 10)), api.ErrShape}, // the shape comes before the numbers of a row
	{lists(list(1, 0), list(-1)), api.ErrShape},
	{lists(list(1, 0), list(1), list(10, 0)), api.ErrShape},
	{lists(list(1), list(10, 0)), api.ErrShape}, // the first row with an error counts
	{lists(list(10, 0), list(1)), api.ErrRange},
	{lists(list(0, -1), nil), api.ErrRange},
	{lists(list(1, 1), list(0, 10)), api.ErrRange},
	{lists(list(10)), api.ErrRange},
	{lists(list(-1)), api.ErrRange},
	{lists(list(1<<63 - 1)), api.ErrRange},
	{lists(list(-1 << 63)), api.ErrRange},
	{lists(list(1, 10), list(10, 1)), api.ErrRange}, // even but for that
	{lists(list(-1, 1), list(1, -1)), api.ErrRange},
	{lists(list(-1<<63, 1<<63-1), list(1<<63-1, -1<<63)), api.ErrRange},
	{lists(list(9, 9, 9), list(9, 9, 9), list(9, 9, 10)), api.ErrRange},
	{lists(list(0, 0, 0), list(0, -1, 0), list(0, 0)), api.ErrRange},
	{flat(4, 10), api.ErrRange},
	{tableOf(4, 0, 0, 0, 0, 0, 0, 0, 0, 0, 0, 0, 0, 0, 0, 0, -1), api.ErrRange},
	{tableOf(4, 9, 9, 9, 10, 9, 9, 9, 9, 9, 9, 9, 9, 9, 9, 9, 9), api.ErrRange},
}

// P11.1
func TestCheck(t *testing.T) {
	for _, l := range append(manyTables(1), tablesOf(3, 3)...) {
		if e := table.Check(l); e != api.OK {
			t.Errorf("Check of %v: %d", l, e)
		}
	}
	for _, x := range wrongTables {
		if e := table.Check(x.table); e != x.want {
			t.Errorf("Check of %.99v: %d, want %d", x.table, e, x.want)
		}
	}
}

// P11.1: each number anywhere.
func TestCheckOfAllNumbers(t *testing.T) {
	for size := 1; size <= 4; size++ {
		for place := range size * size {
			for number := -3; number < 14; number++ {
				l := flat(size, 3)
				l[place/size][place%size] = number
				want := api.ErrRange
				if number >= 0 && number <= 9 {
					want = api.OK
				}
				if e := table.Check(l); e != want {
					t.Errorf("Check of %v: %d, want %d", l, e, want)
				}
			}
		}
	}
}

// P11.1: each number of rows, and of numbers in a row.
func TestCheckOfAllShapes(t *testing.T) {
	for size := range 8 {
		for other := range 8 {
			for row := range size {
				l := flat(size, 9)
				l[row] = make([]int, other)
				want := api.OK
				switch {
				case size > 4:
					want = api.ErrMany
				case other != size:
					want = api.ErrShape
				}
				if e := table.Check(l); e != want {
					t.Errorf("Check of %v: %d, want %d", l, e, want)
				}
			}
		}
	}
}

// P11.1, R2: the error of the table comes before all other ones, and there is no result besides it.
func TestErrorsOfTables(t *testing.T) {
	for _, x := range wrongTables {
		var errors []api.Errno
		for _, numbers := range lists(nil, list(0), list(1), list(0, 1), list(1, 1), list(0, 1, 2), list(-1), list(9), make([]int, len(x.table)), make([]int, 20)) {
			errors = append(errors, table.Within(x.table, numbers), table.Proves(x.table, numbers, nil), table.Proves(x.table, nil, numbers), table.Proves(x.table, numbers, numbers))
		}
		sum, e1 := table.Even(x.table)
		first, e2 := table.First(x.table)
		count, e3 := table.Count(x.table)
		weight, e4 := table.Weight(x.table)
		rows, columns, e5 := table.Bar(x.table)
		split, e6 := table.Split(x.table)
		splits, e7 := table.Splits(x.table)
		turned, e8 := table.Turn(x.table)
		errors = append(errors, e1, e2, e3, e4, e5, e6, e7, e8)
		if slices.ContainsFunc(errors, func(e api.Errno) bool { return e != x.want }) {
			t.Errorf("%.99v: errors %v, want %d", x.table, errors, x.want)
		}
		if sum != 0 || len(first) != 0 || count != 0 || weight != 0 || len(rows) != 0 || len(columns) != 0 || len(split) != 0 || splits != 0 || len(turned) != 0 {
			t.Errorf("%.99v: %d, %v, %d, %d, %v, %v, %v, %d, %v besides an error", x.table, sum, first, count, weight, rows, columns, split, splits, turned)
		}
	}
}

// examineEven compares Even with what it is to return.
func examineEven(t *testing.T, l [][]int, want int, e api.Errno) {
	t.Helper()
	if sum, f := table.Even(l); sum != want || f != e {
		t.Errorf("Even of %v: %d %d, want %d %d", l, sum, f, want, e)
	}
}

// P11.1, R2
func TestEven(t *testing.T) {
	for _, x := range []struct {
		table [][]int
		want  int
		e     api.Errno
	}{
		{tableA(), 2, api.OK},
		{tableB(), 4, api.OK},
		{tableC(), 0, api.ErrSum},
		{flat(1, 0), 0, api.OK},
		{flat(1, 9), 9, api.OK},
		{flat(2, 9), 18, api.OK},
		{flat(3, 0), 0, api.OK},
		{flat(4, 9), 36, api.OK},
		{tableOf(2, 0, 5, 5, 0), 5, api.OK},
		{tableOf(2, 1, 0, 1, 0), 0, api.ErrSum}, // even rows only
		{tableOf(2, 1, 1, 0, 0), 0, api.ErrSum}, // even columns only
		{tableOf(2, 2, 0, 0, 1), 0, api.ErrSum},
		{tableOf(2, 0, 1, 1, 1), 0, api.ErrSum},
		{tableOf(2, 9, 9, 9, 8), 0, api.ErrSum},
		{tableOf(3, 1, 1, 1, 1, 1, 1, 1, 1, 0), 0, api.ErrSum},
		{tableOf(3, 2, 1, 0, 1, 1, 1, 1, 1, 1), 0, api.ErrSum}, // the last two columns only
		{tableOf(3, 2, 1, 1, 1, 1, 1, 0, 1, 1), 0, api.ErrSum}, // the first and the last row only
		{tableOf(3, 3, 0, 0, 0, 1, 2, 0, 2, 1), 3, api.OK},
		{tableOf(4, 1, 2, 3, 4, 2, 3, 4, 1, 3, 4, 1, 2, 4, 1, 2, 3), 10, api.OK},
		{tableOf(4, 1, 2, 3, 4, 1, 2, 3, 4, 1, 2, 3, 4, 1, 2, 3, 4), 0, api.ErrSum},
		{tableOf(4, 0, 0, 0, 0, 0, 0, 0, 0, 0, 0, 0, 0, 0, 0, 0, 1), 0, api.ErrSum},
	} {
		examineEven(t, x.table, x.want, x.e)
	}
}

// P11.1, M1
func TestEvenOfManyTables(t *testing.T) {
	found := map[api.Errno]int{}
	for _, l := range slices.Concat(manyTables(2), tablesOf(3, 3), tablesOf(2, 10)) {
		want, e := slowEven(l)
		examineEven(t, l, want, e)
		found[e]++
	}
	if found[api.OK] < 1000 || found[api.ErrSum] < 1000 {
		t.Errorf("so often Even returns each error: %v", found)
	}
}

// examineTurn compares Turn with what it is to return.
func examineTurn(t *testing.T, l, want [][]int) {
	t.Helper()
	if turned, e := table.Turn(l); !equal(turned, want) || e != api.OK {
		t.Errorf("Turn of %v: %v %d, want %v", l, turned, e, want)
	}
}

// P11.8
func TestTurn(t *testing.T) {
	examineTurn(t, tableA(), tableOf(3, 1, 0, 1, 1, 1, 0, 0, 1, 1))
	examineTurn(t, tableB(), tableB())
	examineTurn(t, tableC(), tableOf(3, 1, 1, 0, 0, 0, 1, 0, 0, 1))
	examineTurn(t, flat(1, 7), flat(1, 7))
	examineTurn(t, tableOf(2, 1, 2, 3, 4), tableOf(2, 1, 3, 2, 4))
	examineTurn(t, tableOf(4, 0, 1, 2, 3, 4, 5, 6, 7, 8, 9, 0, 1, 2, 3, 4, 5), tableOf(4, 0, 4, 8, 2, 1, 5, 9, 3, 2, 6, 0, 4, 3, 7, 1, 5))
}

// P11.8
func TestTurnOfManyTables(t *testing.T) {
	for _, l := range manyTables(3) {
		examineTurn(t, l, slowTurn(l))
	}
}
