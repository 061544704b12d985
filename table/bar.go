package table

import (
	"slices"

	"headword/api"
)

// Bar returns the first of the shortest lists of rows that make a block, and all columns that make one with them.
func Bar(table [][]int) (rows, columns []int, e api.Errno) {
	if e := Check(table); e != api.OK {
		return nil, nil, e
	}
	for _, rows := range listsOfRows(len(table)) {
		columns := emptyColumns(table, rows)
		if len(rows)+len(columns) > len(table) {
			return rows, columns, api.OK
		}
	}
	// Without a block some plan is within the table (P11.11).
	return nil, nil, api.ErrClash
}

// listsOfRows returns all lists of rows in ascending order: first the shorter ones, and those of one length by R6.
func listsOfRows(size int) [][]int {
	all := [][]int{nil}
	for i := 0; i < len(all); i++ {
		rows := all[i]
		for row := range size {
			if len(rows) == 0 || row > rows[len(rows)-1] {
				all = append(all, append(slices.Clone(rows), row))
			}
		}
	}
	return all
}

// emptyColumns returns the columns of a table that have 0 in all of some rows.
func emptyColumns(table [][]int, rows []int) []int {
	columns := []int{}
	for column := range len(table) {
		hasLines := func(row int) bool { return table[row][column] > 0 }
		if !slices.ContainsFunc(rows, hasLines) {
			columns = append(columns, column)
		}
	}
	return columns
}

// Proves checks rows and columns that are to prove that no plan is within a table.
func Proves(table [][]int, rows, columns []int) api.Errno {
	if e := Check(table); e != api.OK {
		return e
	}
	for _, numbers := range [][]int{rows, columns} {
		if e := checkNumbers(len(table), numbers); e != api.OK {
			return e
		}
	}
	empty := emptyColumns(table, rows)
	hasLines := func(column int) bool { return !slices.Contains(empty, column) }
	if len(rows)+len(columns) <= len(table) || slices.ContainsFunc(columns, hasLines) {
		return api.ErrProof
	}
	return api.OK
}

// checkNumbers returns the error of numbers of rows, or of columns, in ascending order.
func checkNumbers(size int, numbers []int) api.Errno {
	for i, number := range numbers {
		if number < 0 || number >= size {
			return api.ErrNone
		}
		if i > 0 && number <= numbers[i-1] {
			return api.ErrOrder
		}
	}
	return api.OK
}
