package table

import (
	"slices"

	"headword/api"
)

// Within returns why a list is no plan within a table, or OK.
func Within(table [][]int, plan []int) api.Errno {
	if e := Check(table); e != api.OK {
		return e
	}
	if e := checkPlan(len(table), plan); e != api.OK {
		return e
	}
	if slices.Contains(numbersAt(table, plan), 0) {
		return api.ErrLost
	}
	return api.OK
}

// checkPlan returns why a list is no plan of tables of a size, or OK.
func checkPlan(size int, plan []int) api.Errno {
	if len(plan) != size {
		return api.ErrShape
	}
	for row, column := range plan {
		if column < 0 || column >= size {
			return api.ErrNone
		}
		if slices.Contains(plan[:row], column) {
			return api.ErrTwice
		}
	}
	return api.OK
}

// numbersAt returns the numbers of a table at the places of a plan.
func numbersAt(table [][]int, plan []int) []int {
	numbers := []int{}
	for row, column := range plan {
		numbers = append(numbers, table[row][column])
	}
	return numbers
}

// walk goes through the plans within a table, in ascending order.
type walk struct {
	table [][]int
	visit func(plan []int) // what is made of each plan, which nothing else uses
}

// from visits the plans that begin with some columns.
func (w walk) from(begun []int) {
	row, size := len(begun), len(w.table)
	if row == size {
		w.visit(begun)
		return
	}
	for column := range size {
		if w.table[row][column] > 0 && !slices.Contains(begun, column) {
			w.from(append(slices.Clone(begun), column))
		}
	}
}

// plansWithin returns the plans within a table, in ascending order.
func plansWithin(table [][]int) [][]int {
	plans := [][]int{}
	walk{table, func(plan []int) { plans = append(plans, plan) }}.from(nil)
	return plans
}

// First returns the first plan within a table.
func First(table [][]int) ([]int, api.Errno) {
	if e := Check(table); e != api.OK {
		return nil, e
	}
	plans := plansWithin(table)
	if len(plans) == 0 {
		return nil, api.ErrLost
	}
	return plans[0], api.OK
}

// Count returns how many plans are within a table.
func Count(table [][]int) (int, api.Errno) {
	if e := Check(table); e != api.OK {
		return 0, e
	}
	count := 0
	walk{table, func([]int) { count++ }}.from(nil)
	return count, api.OK
}

// Weight returns the weight of a table.
func Weight(table [][]int) (int, api.Errno) {
	if e := Check(table); e != api.OK {
		return 0, e
	}
	weight := 0 // that of plans not within the table is 0
	walk{table, func(plan []int) { weight += product(numbersAt(table, plan)) }}.from(nil)
	return weight, api.OK
}

// product returns the product of numbers.
func product(numbers []int) int {
	all := 1
	for _, number := range numbers {
		all *= number
	}
	return all
}
