package sheet

import "slices"

// cut is the sheets used so far.
type cut struct {
	size int
	left []int // how much of each sheet is left
}

// cutOf returns the sheets from which pieces are cut as a plan says.
func cutOf(size int, pieces, plan []int) cut {
	c := cut{size: size}
	for number, sheet := range plan {
		c.put(sheet, pieces[number])
	}
	return c
}

// fits reports whether a sheet has enough left for a piece. The sheet behind those used so far is a new one.
func (c *cut) fits(sheet, length int) bool {
	return sheet == len(c.left) || length <= c.left[sheet]
}

// put cuts a piece from a sheet.
func (c *cut) put(sheet, length int) {
	if sheet == len(c.left) {
		c.left = append(c.left, c.size)
	}
	c.left[sheet] -= length
}

// takeBack undoes the last put.
func (c *cut) takeBack(sheet, length int) {
	c.left[sheet] += length
	// A sheet from which nothing is cut was new, and so it is the last one.
	if c.left[sheet] == c.size {
		c.left = c.left[:sheet]
	}
}

// isOver reports whether more is cut from a sheet than it has.
func (c *cut) isOver() bool {
	return slices.ContainsFunc(c.left, func(left int) bool { return left < 0 })
}
