package table

import (
	"slices"

	"headword/api"
)

// Split returns shares that add up to an even table.
func Split(table [][]int) ([]Share, api.Errno) {
	if _, e := Even(table); e != api.OK {
		return nil, e
	}
	shares := []Share{}
	// What is left is even, so that it has a plan as long as it has a number above 0 (P11.9).
	for plans := plansWithin(table); len(plans) > 0; plans = plansWithin(table) {
		plan := plans[0]
		times := slices.Min(numbersAt(table, plan))
		shares = append(shares, Share{plan, times})
		table = added(table, plan, -times)
	}
	return shares, api.OK
}

// added returns a table with a number added at the places of a plan.
func added(table [][]int, plan []int, number int) [][]int {
	sums := [][]int{}
	for row, column := range plan {
		numbers := slices.Clone(table[row])
		numbers[column] += number
		sums = append(sums, numbers)
	}
	return sums
}

// Sum returns the table to which shares add up.
func Sum(size int, shares []Share) ([][]int, api.Errno) {
	if size < 1 || size > MaxSize {
		return nil, api.ErrRange
	}
	if len(shares) > MaxShares {
		return nil, api.ErrMany
	}
	table := zeros(size)
	for _, share := range shares {
		if e := checkPlan(size, share.Plan); e != api.OK {
			return nil, e
		}
		if share.Times < 1 || share.Times > MaxTimes {
			return nil, api.ErrRange
		}
		table = added(table, share.Plan, share.Times)
	}
	if slices.Max(slices.Concat(table...)) > MaxLines {
		return nil, api.ErrOver
	}
	return table, api.OK
}

// Splits returns how many splits an even table has.
func Splits(table [][]int) (int, api.Errno) {
	sum, e := Even(table)
	if e != api.OK {
		return 0, e
	}
	if sum > MaxSum {
		return 0, api.ErrOver
	}
	return countSplits(table, plansWithin(table)), api.OK
}

// countSplits returns in how many ways some plans, each as many Times as one likes, add up to an even table.
func countSplits(table [][]int, plans [][]int) int {
	if together(table[0]) == 0 {
		return 1 // the table is even: nothing is left in any row
	}
	if len(plans) == 0 {
		return 0
	}
	count := 0
	for times := range slices.Min(numbersAt(table, plans[0])) + 1 {
		count += countSplits(added(table, plans[0], -times), plans[1:])
	}
	return count
}
