package sheet

import (
	"cmp"
	"slices"

	"headword/api"
)

// Fall returns the falling order.
func Fall(size int, pieces []int) ([]int, api.Errno) {
	if e := Check(size, pieces); e != api.OK {
		return nil, e
	}
	order := []int{}
	for number := range pieces {
		order = append(order, number)
	}
	slices.SortStableFunc(order, func(i, j int) int { return cmp.Compare(pieces[j], pieces[i]) })
	return order, api.OK
}

// Fit returns the plan of an order.
func Fit(size int, pieces, order []int) ([]int, api.Errno) {
	if e := Check(size, pieces); e != api.OK {
		return nil, e
	}
	if len(order) != len(pieces) {
		return nil, api.ErrShape
	}
	if e := checkNumbers(pieces, nil, order); e != api.OK {
		return nil, e
	}
	c := cut{size: size}
	sheetOf := make([]int, len(pieces))
	for _, number := range order {
		sheet := 0
		for !c.fits(sheet, pieces[number]) {
			sheet++
		}
		c.put(sheet, pieces[number])
		sheetOf[number] = sheet
	}
	return planOf(sheetOf), api.OK
}
