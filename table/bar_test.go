package table_test

import (
	"math/rand"
	"slices"
	"testing"

	"headword/api"
	"headword/table"
)

// examineBar compares Bar with what it is to return.
func examineBar(t *testing.T, l [][]int, rows, columns []int, want api.Errno) {
	t.Helper()
	r, c, e := table.Bar(l)
	if !slices.Equal(r, rows) || !slices.Equal(c, columns) || e != want {
		t.Errorf("Bar of %v: %v %v %d, want %v %v %d", l, r, c, e, rows, columns, want)
	}
}

// P11.4, R2
func TestBar(t *testing.T) {
	for _, x := range []struct {
		table         [][]int
		rows, columns []int
		e             api.Errno
	}{
		{tableA(), nil, nil, api.ErrClash},
		{tableB(), nil, nil, api.ErrClash},
		{tableC(), list(0, 1), list(1, 2), api.OK},
		{flat(1, 0), list(0), list(0), api.OK},
		{flat(1, 1), nil, nil, api.ErrClash},
		{flat(2, 0), list(0), list(0, 1), api.OK},
		{flat(4, 0), list(0), list(0, 1, 2, 3), api.OK},
		{flat(4, 9), nil, nil, api.ErrClash},
		{tableOf(2, 1, 1, 0, 0), list(1), list(0, 1), api.OK},
		{tableOf(2, 0, 1, 0, 1), list(0, 1), list(0), api.OK},
		{tableOf(2, 1, 0, 1, 0), list(0, 1), list(1), api.OK},
		{tableOf(2, 0, 1, 1, 0), nil, nil, api.ErrClash},
		{tableOf(3, 0, 1, 1, 0, 1, 1, 0, 1, 1), list(0, 1, 2), list(0), api.OK},
		{tableOf(3, 1, 1, 1, 0, 0, 1, 0, 0, 1), list(1, 2), list(0, 1), api.OK},
		{tableOf(3, 0, 0, 1, 1, 1, 1, 0, 0, 1), list(0, 2), list(0, 1), api.OK},
		{tableOf(3, 0, 0, 1, 0, 0, 1, 0, 0, 1), list(0, 1), list(0, 1), api.OK}, // the first of the shortest
		{tableOf(3, 0, 0, 1, 0, 0, 1, 0, 0, 0), list(2), list(0, 1, 2), api.OK}, // a shorter one behind
		{tableOf(3, 0, 0, 0, 0, 0, 0, 1, 1, 1), list(0), list(0, 1, 2), api.OK},
		{tableOf(4, 1, 1, 0, 0, 1, 1, 0, 0, 1, 0, 0, 0, 1, 1, 1, 1), list(0, 1, 2), list(2, 3), api.OK},
		{tableOf(4, 1, 0, 0, 0, 1, 0, 0, 0, 1, 1, 1, 1, 1, 1, 1, 1), list(0, 1), list(1, 2, 3), api.OK},
		{tableOf(4, 1, 1, 1, 1, 1, 0, 0, 0, 1, 1, 1, 1, 1, 0, 0, 0), list(1, 3), list(1, 2, 3), api.OK},
		{tableOf(4, 1, 1, 1, 1, 0, 1, 1, 0, 0, 1, 1, 0, 0, 1, 1, 0), list(1, 2, 3), list(0, 3), api.OK},
		{tableOf(4, 9, 9, 9, 0, 9, 9, 9, 0, 9, 9, 9, 0, 9, 9, 9, 0), list(0, 1, 2, 3), list(3), api.OK},
		{tableOf(4, 9, 9, 9, 9, 9, 9, 9, 9, 9, 9, 9, 9, 0, 0, 0, 0), list(3), list(0, 1, 2, 3), api.OK},
	} {
		examineBar(t, x.table, x.rows, x.columns, x.e)
	}
}

// P11.4, M3: all places of zeros in tables of up to four rows.
func TestBarOfAllPlaces(t *testing.T) {
	r := rand.New(rand.NewSource(7))
	found := map[int]int{}
	for _, l := range slices.Concat(tablesOf(1, 2), tablesOf(2, 2), tablesOf(3, 2), tablesOf(4, 2)) {
		for _, row := range l {
			for column := range row {
				row[column] *= 1 + r.Intn(9)
			}
		}
		rows, columns, e := slowBar(l)
		examineBar(t, l, rows, columns, e)
		found[len(rows)]++
	}
	for many := range 5 {
		if found[many] < 10 {
			t.Errorf("so often Bar returns each number of rows: %v", found)
		}
	}
}

// P11.4, M3
func TestBarOfManyTables(t *testing.T) {
	for _, l := range append(manyTables(8), tablesOf(3, 3)...) {
		rows, columns, e := slowBar(l)
		examineBar(t, l, rows, columns, e)
	}
}

// examineProves compares Proves with what it is to return.
func examineProves(t *testing.T, l [][]int, rows, columns []int, want api.Errno) {
	t.Helper()
	if e := table.Proves(l, rows, columns); e != want {
		t.Errorf("Proves of %v, %.9v, %.9v: %d, want %d", l, rows, columns, e, want)
	}
}

// P11.4, R1
func TestProves(t *testing.T) {
	for _, x := range []struct {
		rows, columns []int
		want          api.Errno
	}{
		{list(0, 1), list(1, 2), api.OK},
		{list(0), list(1, 2), api.ErrProof}, // too few
		{list(1), list(1, 2), api.ErrProof},
		{list(0, 1), list(1), api.ErrProof},
		{list(0, 1), list(2), api.ErrProof},
		{list(0, 1), nil, api.ErrProof},
		{nil, list(1, 2), api.ErrProof},
		{nil, nil, api.ErrProof},
		{nil, list(0, 1, 2), api.ErrProof}, // all of one kind are not more than rows
		{list(0, 1, 2), nil, api.ErrProof},
		{list(0, 2), list(1, 2), api.ErrProof}, // numbers above 0
		{list(1, 2), list(1, 2), api.ErrProof},
		{list(0, 1), list(0, 1), api.ErrProof},
		{list(0, 1), list(0, 2), api.ErrProof},
		{list(0, 1), list(0, 1, 2), api.ErrProof},
		{list(0, 1, 2), list(1, 2), api.ErrProof},
		{list(0, 1, 2), list(0, 1, 2), api.ErrProof},
		{list(0, 1, 2), list(0), api.ErrProof},
		{list(1, 0), list(1, 2), api.ErrOrder},
		{list(0, 0), list(1, 2), api.ErrOrder},
		{list(0, 1, 1), list(1, 2), api.ErrOrder},
		{list(0, 1), list(2, 1), api.ErrOrder},
		{list(0, 1), list(1, 1), api.ErrOrder},
		{list(0, 1), list(1, 2, 2), api.ErrOrder},
		{list(0, 1, 0), list(1, 2), api.ErrOrder},
		{nil, list(2, 1), api.ErrOrder},
		{list(0, 3), list(1, 2), api.ErrNone},
		{list(3), list(1, 2), api.ErrNone},
		{list(-1), list(1, 2), api.ErrNone},
		{list(0, -1), list(1, 2), api.ErrNone}, // none comes before the order
		{list(0, 1, 3), list(1, 2), api.ErrNone},
		{list(0, 1), list(1, 3), api.ErrNone},
		{list(0, 1), list(1, -1), api.ErrNone},
		{list(0, 1), list(-1, 1, 2), api.ErrNone},
		{nil, list(3), api.ErrNone},
		{list(0, 1<<63-1), nil, api.ErrNone},
		{list(-1 << 63), nil, api.ErrNone},
		{list(0, 1), list(1, 1<<62), api.ErrNone},
		{list(1, 0, 3), nil, api.ErrOrder}, // the first number with an error counts
		{list(3, 1, 0), nil, api.ErrNone},
		{list(1, 0), list(3), api.ErrOrder}, // rows come before columns
		{list(3), list(2, 1), api.ErrNone},
		{list(0, 1), list(2, 1, 3), api.ErrOrder},
		{list(0, 1), list(3, 2, 1), api.ErrNone},
		{make([]int, 100000), make([]int, 100000), api.ErrOrder},
	} {
		examineProves(t, tableC(), x.rows, x.columns, x.want)
	}
	examineProves(t, flat(1, 0), list(0), list(0), api.OK)
	examineProves(t, flat(1, 1), list(0), list(0), api.ErrProof)
	examineProves(t, flat(3, 0), list(0, 1, 2), list(0, 1, 2), api.OK)
	examineProves(t, flat(3, 0), list(2), list(0, 1, 2), api.OK) // any block is one
	examineProves(t, flat(3, 0), list(2), list(0, 1), api.ErrProof)
	examineProves(t, flat(4, 0), list(1, 3), list(0, 2, 3), api.OK)
	examineProves(t, flat(4, 0), list(1, 3), list(0, 3), api.ErrProof)
	examineProves(t, flat(4, 0), list(1, 3), list(0, 2, 4), api.ErrNone)
	examineProves(t, tableA(), list(0), list(2), api.ErrProof)
}

// P11.4, M4: all lists of up to two rows, right or wrong, with all lists of up to two columns.
func TestProvesOfAllLists(t *testing.T) {
	found := map[api.Errno]int{}
	for _, l := range [][][]int{tableA(), tableC(), flat(1, 0), flat(1, 3), flat(2, 0), tableOf(2, 1, 0, 1, 0), tableOf(2, 0, 1, 0, 0), flat(3, 0), flat(3, 1), tableOf(3, 0, 0, 2, 0, 0, 1, 0, 0, 0)} {
		var all [][]int
		for many := range 3 {
			for _, numbers := range numbersOf(many, len(l)+2) {
				for i := range numbers {
					numbers[i]--
				}
				all = append(all, numbers)
			}
		}
		for _, rows := range all {
			for _, columns := range all {
				want := slowProves(l, rows, columns)
				examineProves(t, l, rows, columns, want)
				found[want]++
			}
		}
	}
	for _, e := range []api.Errno{api.OK, api.ErrNone, api.ErrOrder, api.ErrProof} {
		if found[e] < 20 {
			t.Errorf("so often Proves returns each error: %v", found)
		}
	}
}

// P11.4, M4: all rows and columns, in ascending order.
func TestProvesOfManyTables(t *testing.T) {
	found := map[api.Errno]int{}
	for _, l := range slices.Concat(smallTables(), drawTables(9, 1000), drawEven(10, 100), edgeTables()) {
		for _, rows := range allNumbers[len(l)] {
			for _, columns := range allNumbers[len(l)] {
				want := slowProves(l, rows, columns)
				examineProves(t, l, rows, columns, want)
				found[want]++
			}
		}
	}
	if found[api.OK] < 1000 || found[api.ErrProof] < 1000 {
		t.Errorf("so often Proves returns each error: %v", found)
	}
}
