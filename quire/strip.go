package quire

import (
	"slices"

	"headword/api"
)

// strip is a strip of paper that is being folded.
type strip struct {
	columns [][]int // from left to right; the squares of each one from its top
	turned  []bool  // of each square
	creases []byte  // 0 for one that is not made yet
}

// newStrip returns a strip that so many folds make one column.
func newStrip(folds int) *strip {
	squares := 1 << folds
	s := &strip{turned: make([]bool, squares), creases: make([]byte, squares-1)}
	for square := range squares {
		s.columns = append(s.columns, []int{square})
	}
	return s
}

// foldAll returns a strip after all its folds.
func foldAll(folds string) *strip {
	s := newStrip(len(folds))
	for i := range len(folds) {
		s.fold(folds[i])
	}
	return s
}

// pile returns the squares of the one column that is left after all folds.
func (s *strip) pile() []int {
	return s.columns[0]
}

// fold turns the right half of the columns over onto the left half.
func (s *strip) fold(way byte) {
	// What a crease becomes depends on how its square lay before this fold turns it.
	s.crease(way)
	last := len(s.columns) - 1
	folded := [][]int{}
	for i, left := range s.columns[:len(s.columns)/2] {
		right := s.turn(s.columns[last-i])
		if way == over {
			folded = append(folded, stack(right, left))
		} else {
			folded = append(folded, stack(left, right))
		}
	}
	s.columns = folded
}

// crease makes the creases of a fold, which are between the squares that it lays upon one another.
func (s *strip) crease(way byte) {
	last := len(s.columns) - 1
	at := s.columnsOfSquares()
	for i := range s.creases {
		if at[i]+at[i+1] == last {
			s.creases[i] = creaseOf(way, s.turned[i])
		}
	}
}

// creaseOf returns the crease that a fold makes at a square that was turned before, or was not.
func creaseOf(way byte, turned bool) byte {
	if (way == over) != turned {
		return valley
	}
	return hill
}

// columnsOfSquares returns for each square the index of its column.
func (s *strip) columnsOfSquares() []int {
	at := make([]int, len(s.turned))
	for i, column := range s.columns {
		for _, square := range column {
			at[square] = i
		}
	}
	return at
}

// turn returns a column turned upside down, and marks its squares.
func (s *strip) turn(column []int) []int {
	turned := make([]int, len(column))
	copy(turned, column)
	slices.Reverse(turned)
	for _, square := range turned {
		s.turned[square] = !s.turned[square]
	}
	return turned
}

// stack returns the column of a column that lies on top of another one.
func stack(top, beneath []int) []int {
	column := make([]int, len(top)+len(beneath))
	copy(column, top)
	copy(column[len(top):], beneath)
	return column
}

// Pile returns the squares from the top.
func Pile(folds string) ([]int, api.Errno) {
	if e := Check(folds); e != api.OK {
		return nil, e
	}
	return foldAll(folds).pile(), api.OK
}

// Pages returns the pages of the upper sides, and of the others.
func Pages(folds string) (upper, lower []int, e api.Errno) {
	if e := Check(folds); e != api.OK {
		return nil, nil, e
	}
	s := foldAll(folds)
	upper, lower = make([]int, len(s.turned)), make([]int, len(s.turned))
	for place, square := range s.pile() {
		above, beneath := 2*place+1, 2*place+2
		if s.turned[square] {
			above, beneath = beneath, above
		}
		upper[square], lower[square] = above, beneath
	}
	return upper, lower, api.OK
}

// Creases returns the creases.
func Creases(folds string) (string, api.Errno) {
	if e := Check(folds); e != api.OK {
		return "", e
	}
	return string(foldAll(folds).creases), api.OK
}
