package table_test

import (
	"slices"
	"testing"

	"headword/table"
)

// examineMemory examines that a change of some lists of a result changes neither its other lists nor the next result.
func examineMemory(t *testing.T, name string, result func() [][]int) {
	t.Helper()
	r := result()
	want := clone(r)
	for i, numbers := range r {
		_ = append(numbers, 77)
		for k := range numbers {
			numbers[k] = 99
		}
		if !equal(r[i+1:], want[i+1:]) {
			t.Fatalf("%s: %v, then %v", name, want, r)
		}
	}
	_ = append(r, list(77))
	clear(r)
	if again := result(); !equal(again, want) {
		t.Fatalf("%s: %v, then %v", name, want, again)
	}
}

// plansOf returns the plans of shares.
func plansOf(all []table.Share) [][]int {
	var plans [][]int
	for _, s := range all {
		plans = append(plans, s.Plan)
	}
	return plans
}

// R4, P1: no memory is shared, no argument is changed, and equal arguments have equal results.
func TestOwnMemory(t *testing.T) {
	for _, l := range slices.Concat(tablesOf(2, 3), drawTables(27, 200), drawEven(28, 200), edgeTables()) {
		before := clone(l)
		all, _ := table.Split(l)
		shares := slices.Clone(all)
		for i := range shares {
			shares[i].Plan = slices.Clone(shares[i].Plan)
		}
		examineMemory(t, "First", func() [][]int { r, _ := table.First(l); return lists(r) })
		examineMemory(t, "Bar", func() [][]int { rows, columns, _ := table.Bar(l); return lists(rows, columns) })
		examineMemory(t, "Split", func() [][]int { r, _ := table.Split(l); return plansOf(r) })
		examineMemory(t, "Sum", func() [][]int { r, _ := table.Sum(len(l), shares); return r })
		examineMemory(t, "Turn", func() [][]int { r, _ := table.Turn(l); return r })
		if !equal(l, before) || !equalShares(all, shares) {
			t.Fatalf("the arguments %v, %v are now %v, %v", before, all, l, shares)
		}
	}
}

// R4: shares are changed without changing the next ones.
func TestOwnShares(t *testing.T) {
	for _, l := range drawEven(29, 200) {
		all := split(t, l)
		want := slices.Clone(all)
		_ = append(all, share(77, 7))
		clear(all)
		examineSplit(t, l, want, 0)
	}
}

// R4: arguments are not changed, nor is what lies behind them.
func TestArgumentsStay(t *testing.T) {
	wide := func() [][]int {
		return lists(list(2, 1, 1, 7, 7), list(1, 2, 1, 7, 7), list(1, 1, 2, 7, 7), list(7), list(7))
	}
	behind := wide()
	l := make([][]int, 0, 5)
	for _, row := range behind {
		l = append(l, row[:min(3, len(row))])
	}
	numbers := list(0, 1, 2, 7, 7)
	given := shares(share(1, 0, 1, 2, 7), share(1, 1, 2, 0, 7), share(7, 7))
	for i := range given {
		given[i].Plan = given[i].Plan[:min(3, len(given[i].Plan))]
	}
	table.Check(l[:3])
	table.Even(l[:3])
	table.Within(l[:3], numbers[:3])
	table.First(l[:3])
	table.Count(l[:3])
	table.Weight(l[:3])
	table.Bar(l[:3])
	table.Proves(l[:3], numbers[:2], numbers[1:3])
	table.Split(l[:3])
	table.Sum(3, given[:2])
	table.Splits(l[:3])
	table.Turn(l[:3])
	if !equal(behind, wide()) || !equal(l[3:], lists(list(7), list(7))) || !slices.Equal(numbers, list(0, 1, 2, 7, 7)) {
		t.Errorf("the arguments are now %v, %v", behind, numbers)
	}
	for i, want := range lists(list(0, 1, 2, 7), list(1, 2, 0, 7)) {
		if !slices.Equal(given[i].Plan[:4], want) || given[i].Times != 1 {
			t.Errorf("the shares are now %v", given)
		}
	}
	if !equalShares(given[2:], shares(share(7, 7))) {
		t.Errorf("the shares are now %v", given)
	}
}

// R4: rows that are one list are not changed either, and a table may have them.
func TestOneRowAllOver(t *testing.T) {
	row := list(1, 1, 1)
	l := lists(row, row, row)
	examineSplit(t, l, shares(share(1, 0, 1, 2), share(1, 1, 2, 0), share(1, 2, 0, 1)), 0)
	examineSplits(t, l, 2, 0)
	examineTurn(t, l, flat(3, 1))
	examinePlans(t, l, list(0, 1, 2), 6, 6)
	plan := list(1, 0)
	examineSum(t, 2, shares(table.Share{Plan: plan, Times: 2}, table.Share{Plan: plan, Times: 3}), tableOf(2, 0, 5, 5, 0), 0)
	if !slices.Equal(row, list(1, 1, 1)) || !slices.Equal(plan, list(1, 0)) {
		t.Errorf("the arguments are now %v, %v", row, plan)
	}
}

// P1: equal arguments have equal results, whatever was called between.
func TestNothingIsRemembered(t *testing.T) {
	tables := append(drawEven(30, 200), drawTables(31, 300)...)
	var firsts [][]int
	var splits [][]table.Share
	for _, l := range tables {
		first, _ := table.First(l)
		all, _ := table.Split(l)
		firsts, splits = append(firsts, first), append(splits, all)
	}
	for i, l := range slices.Backward(tables) {
		if first, _ := table.First(l); !slices.Equal(first, firsts[i]) {
			t.Errorf("First of %v: %v, then %v", l, firsts[i], first)
		}
		if all, _ := table.Split(l); !equalShares(all, splits[i]) {
			t.Errorf("Split of %v: %v, then %v", l, splits[i], all)
		}
	}
}
