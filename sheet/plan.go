package sheet

import (
	"slices"

	"headword/api"
)

// Valid returns the error of a plan.
func Valid(size int, pieces, plan []int) api.Errno {
	_, e := validCut(size, pieces, plan)
	return e
}

// validCut returns the sheets of a plan, or its error.
func validCut(size int, pieces, plan []int) (cut, api.Errno) {
	if e := Check(size, pieces); e != api.OK {
		return cut{}, e
	}
	if len(plan) != len(pieces) {
		return cut{}, api.ErrShape
	}
	sheets := 0
	for _, sheet := range plan {
		if sheet < 0 {
			return cut{}, api.ErrNone
		}
		if sheet > sheets {
			return cut{}, api.ErrOrder
		}
		sheets = max(sheets, sheet+1)
	}
	c := cutOf(size, pieces, plan)
	if c.isOver() {
		return cut{}, api.ErrOver
	}
	return c, api.OK
}

// Left returns how much of each sheet is left.
func Left(size int, pieces, plan []int) ([]int, api.Errno) {
	c, e := validCut(size, pieces, plan)
	return c.left, e
}

// Groups returns the pieces of each sheet.
func Groups(size int, pieces, plan []int) ([][]int, api.Errno) {
	c, e := validCut(size, pieces, plan)
	if e != api.OK {
		return nil, e
	}
	groups := make([][]int, len(c.left))
	for number, sheet := range plan {
		groups[sheet] = append(groups[sheet], number)
	}
	return groups, api.OK
}

// Plan returns the plan that has the pieces of each group together.
func Plan(size int, pieces []int, groups [][]int) ([]int, api.Errno) {
	if e := Check(size, pieces); e != api.OK {
		return nil, e
	}
	if e := checkGroups(pieces, groups); e != api.OK {
		return nil, e
	}
	groupOf := make([]int, len(pieces))
	for group, numbers := range groups {
		for _, number := range numbers {
			groupOf[number] = group
		}
	}
	plan := planOf(groupOf)
	if c := cutOf(size, pieces, plan); c.isOver() {
		return nil, api.ErrOver
	}
	return plan, api.OK
}

// checkGroups returns the error of groups that are to have each piece once.
func checkGroups(pieces []int, groups [][]int) api.Errno {
	before := []int{}
	for _, numbers := range groups {
		if len(numbers) == 0 {
			return api.ErrShape
		}
		if e := checkNumbers(pieces, before, numbers); e != api.OK {
			return e
		}
		before = append(before, numbers...)
	}
	if len(before) < len(pieces) {
		return api.ErrShape
	}
	return api.OK
}

// checkNumbers returns the error of the first number that is not a piece, or that is there before.
func checkNumbers(pieces, before, numbers []int) api.Errno {
	for i, number := range numbers {
		if number < 0 || number >= len(pieces) {
			return api.ErrNone
		}
		if slices.Contains(before, number) || slices.Contains(numbers[:i], number) {
			return api.ErrTwice
		}
	}
	return api.OK
}

// planOf returns the plan that has together the pieces with the same number of a list, whichever numbers these are.
func planOf(list []int) []int {
	plan := []int{}
	sheets := []int{} // the number that the pieces of each sheet have in the list
	for _, number := range list {
		sheet := slices.Index(sheets, number)
		if sheet < 0 {
			sheet = len(sheets)
			sheets = append(sheets, number)
		}
		plan = append(plan, sheet)
	}
	return plan
}
