package table_test

import (
	"math/rand"
	"slices"
	"testing"

	"headword/api"
	"headword/table"
)

func even(t *testing.T, l [][]int) int {
	t.Helper()
	sum, e := table.Even(l)
	if e != api.OK {
		t.Fatalf("Even of %v: %d", l, e)
	}
	return sum
}

func count(t *testing.T, l [][]int) int {
	t.Helper()
	n, e := table.Count(l)
	if e != api.OK {
		t.Fatalf("Count of %v: %d", l, e)
	}
	return n
}

func weight(t *testing.T, l [][]int) int {
	t.Helper()
	n, e := table.Weight(l)
	if e != api.OK {
		t.Fatalf("Weight of %v: %d", l, e)
	}
	return n
}

func split(t *testing.T, l [][]int) []table.Share {
	t.Helper()
	all, e := table.Split(l)
	if e != api.OK {
		t.Fatalf("Split of %v: %d", l, e)
	}
	return all
}

// P11.9
func TestEvenTablesHavePlans(t *testing.T) {
	for _, l := range manyEven(14) {
		_, e := table.First(l)
		if sum := even(t, l); (sum > 0) != (e == api.OK) || sum == 0 && e != api.ErrLost {
			t.Errorf("First of %v: %d", l, e)
		}
		through := flat(len(l), 0)
		for _, plan := range allPlans[len(l)] {
			if table.Within(l, plan) == api.OK {
				for row, column := range plan {
					through[row][column]++
				}
			}
		}
		for row := range l {
			for column, number := range l[row] {
				if (number > 0) != (through[row][column] > 0) {
					t.Errorf("%v: so many plans go through each number: %v", l, through)
				}
			}
		}
		if len(split(t, l)) == 0 && even(t, l) > 0 {
			t.Errorf("%v is added up by no plans", l)
		}
	}
}

// P11.10
func TestSplitsAreFew(t *testing.T) {
	found := map[int]int{}
	for _, l := range manyEven(15) {
		all := split(t, l)
		most := (len(l)-1)*(len(l)-1) + 1
		if len(all) > most {
			t.Errorf("Split of %v: %v", l, all)
		}
		if len(all) == most {
			found[len(l)]++
		}
		times := 0
		for i, s := range all {
			times += s.Times
			isSame := func(other table.Share) bool { return slices.Equal(s.Plan, other.Plan) }
			if slices.ContainsFunc(all[:i], isSame) || s.Times < 1 {
				t.Errorf("Split of %v: %v", l, all)
			}
		}
		if times != even(t, l) {
			t.Errorf("Split of %v: %v, together %d times", l, all, times)
		}
	}
	for size := 1; size <= 4; size++ {
		if found[size] < 5 {
			t.Errorf("so often tables of each size have the most shares: %v", found)
		}
	}
}

// P11.11
func TestBlocksProveThatThereIsNoPlan(t *testing.T) {
	found := map[bool]int{}
	for _, l := range slices.Concat(smallTables(), drawTables(16, 1000), drawEven(17, 200), edgeTables()) {
		isProved := false
		for _, rows := range allNumbers[len(l)] {
			for _, columns := range allNumbers[len(l)] {
				isProved = isProved || table.Proves(l, rows, columns) == api.OK
			}
		}
		none := count(t, l) == 0
		if isProved != none {
			t.Errorf("%v: no plan is within it: %t, some block proves it: %t", l, none, isProved)
		}
		rows, columns, e := table.Bar(l)
		if (e == api.OK) != none || none && table.Proves(l, rows, columns) != api.OK {
			t.Errorf("Bar of %v: %v %v %d", l, rows, columns, e)
		}
		found[none]++
	}
	if found[false] < 500 || found[true] < 500 {
		t.Errorf("so often no plan is within a table: %v", found)
	}
}

// P11.12
func TestWeightsOfEvenTables(t *testing.T) {
	for _, l := range manyEven(18) {
		n := len(l)
		one, other := weight(t, l)*power(n, n), len(allPlans[n])*power(even(t, l), n)
		if one < other {
			t.Errorf("the weight of %v: %d, less than %d", l, one, other)
		}
		isFlat := slices.Min(slices.Concat(l...)) == slices.Max(slices.Concat(l...))
		if isFlat && one != other {
			t.Errorf("the weight of %v: %d, not %d", l, one, other)
		}
	}
	for size := 1; size <= 4; size++ {
		for number := range 10 {
			l := flat(size, number)
			if weight(t, l)*power(size, size) != len(allPlans[size])*power(even(t, l), size) {
				t.Errorf("the weight of %v: %d", l, weight(t, l))
			}
		}
	}
}

// P11.13
func TestSplitAndSum(t *testing.T) {
	for _, l := range manyEven(19) {
		examineSum(t, len(l), split(t, l), l, api.OK)
	}
}

// P11.13
func TestTurnedTwice(t *testing.T) {
	for _, l := range manyTables(20) {
		turned, e := table.Turn(l)
		if e != api.OK {
			t.Errorf("Turn of %v: %d", l, e)
		}
		examineTurn(t, turned, l)
	}
}

// P11.13
func TestWhatSharesAddUpToIsEven(t *testing.T) {
	r := rand.New(rand.NewSource(21))
	found := 0
	for range 5000 {
		size := 1 + r.Intn(4)
		all := drawShares(r, size)
		times := 0
		for _, s := range all {
			times += s.Times
		}
		l, e := table.Sum(size, all)
		if e == api.ErrOver {
			continue
		}
		found++
		if e != api.OK || even(t, l) != times {
			t.Errorf("Sum of %v: %v %d", all, l, e)
		}
	}
	if found < 1000 {
		t.Errorf("shares are added up only %d times", found)
	}
}

// whatStays returns the sum, how many plans, the weight and how many splits a table has, with the errors.
func whatStays(l [][]int) [8]int {
	sum, e1 := table.Even(l)
	plans, e2 := table.Count(l)
	all, e3 := table.Weight(l)
	splits, e4 := table.Splits(l)
	return [8]int{sum, int(e1), plans, int(e2), all, int(e3), splits, int(e4)}
}

// examineAlike examines that what stays is the same in two tables.
func examineAlike(t *testing.T, l, other [][]int) {
	t.Helper()
	if one, two := whatStays(l), whatStays(other); one != two {
		t.Errorf("%v has %v, %v has %v", l, one, other, two)
	}
}

// ordered returns a table whose rows, and columns, come in another order.
func ordered(l [][]int, rows, columns []int) [][]int {
	all := flat(len(l), 0)
	for row := range l {
		for column := range l {
			all[row][column] = l[rows[row]][columns[column]]
		}
	}
	return all
}

// P11.14: few tables in all orders of rows, and in all orders of columns.
func TestAllOrders(t *testing.T) {
	for _, l := range append(drawEven(22, 20), edgeTables()...) {
		same := allPlans[len(l)][0]
		for _, order := range allPlans[len(l)] {
			examineAlike(t, l, ordered(l, order, same))
			examineAlike(t, l, ordered(l, same, order))
		}
	}
}

// P11.14
func TestOtherOrders(t *testing.T) {
	r := rand.New(rand.NewSource(23))
	for _, l := range manyTables(24) {
		examineAlike(t, l, ordered(l, r.Perm(len(l)), r.Perm(len(l))))
		turned, _ := table.Turn(l)
		examineAlike(t, l, turned)
	}
}

// P11.15
func TestMoreLines(t *testing.T) {
	found := map[bool]int{}
	for _, l := range slices.Concat(smallTables(), drawTables(25, 2000), drawEven(26, 300), edgeTables()) {
		plans, all := count(t, l), weight(t, l)
		for row := range l {
			for column := range l {
				more := clone(l)
				more[row][column]++
				if table.Check(more) != api.OK {
					continue
				}
				if count(t, more) < plans || weight(t, more) < all {
					t.Errorf("%v has %d plans and the weight %d, %v %d and %d", l, plans, all, more, count(t, more), weight(t, more))
				}
				found[weight(t, more) > all]++
			}
		}
	}
	if found[false] < 500 || found[true] < 500 {
		t.Errorf("so often a weight becomes greater: %v", found)
	}
}

// P11.16
func TestTablesWithFewSplits(t *testing.T) {
	for size := 1; size <= 4; size++ {
		examineSplits(t, flat(size, 0), 1, api.OK)
		for _, plan := range allPlans[size] {
			l := flat(size, 0)
			for row, column := range plan {
				l[row][column] = 1
			}
			examineSplits(t, l, 1, api.OK)
		}
		examineSplits(t, flat(size, 1), list(1, 1, 2, 24)[size-1], api.OK)
	}
}
