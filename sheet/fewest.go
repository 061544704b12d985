package sheet

import (
	"slices"

	"headword/api"
)

// Fewest returns the smallest number of sheets.
func Fewest(size int, pieces []int) (int, api.Errno) {
	if e := Check(size, pieces); e != api.OK {
		return 0, e
	}
	sheets, _ := best(size, pieces)
	return sheets, api.OK
}

// First returns the first plan with the fewest sheets.
func First(size int, pieces []int) ([]int, api.Errno) {
	if e := Check(size, pieces); e != api.OK {
		return nil, e
	}
	_, plans := best(size, pieces)
	return plans[0], api.OK
}

// Count returns how many plans have the fewest sheets.
func Count(size int, pieces []int) (int, api.Errno) {
	if e := Check(size, pieces); e != api.OK {
		return 0, e
	}
	_, plans := best(size, pieces)
	return len(plans), api.OK
}

// best returns the smallest number of sheets, and all plans that have it, in ascending order.
func best(size int, pieces []int) (int, [][]int) {
	// This ends, as each piece may have a sheet of its own.
	for sheets := 0; ; sheets++ {
		if plans := search(size, pieces, sheets); len(plans) > 0 {
			return sheets, plans
		}
	}
}

// search returns all plans with so many sheets at most, in ascending order.
func search(size int, pieces []int, most int) [][]int {
	plans := [][]int{}
	plan := []int{} // of the first pieces
	c := cut{size: size}
	sheet := 0 // the first one that is to be tried for the next piece
forth:
	if len(plan) == len(pieces) {
		plans = append(plans, slices.Clone(plan))
		goto back
	}
	for ; sheet <= len(c.left) && sheet < most; sheet++ {
		if length := pieces[len(plan)]; c.fits(sheet, length) {
			c.put(sheet, length)
			plan = append(plan, sheet)
			sheet = 0
			goto forth
		}
	}
back:
	if len(plan) == 0 {
		return plans
	}
	last := len(plan) - 1
	c.takeBack(plan[last], pieces[last])
	sheet = plan[last] + 1
	plan = plan[:last]
	goto forth
}
