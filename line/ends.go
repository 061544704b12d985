package line

import "headword/api"

// Fits returns why a list is no ends whose lines all fit, or OK.
func Fits(t Text, ends []int) api.Errno {
	_, e := spansOf(t, ends)
	return e
}

// spansOf returns the lines of ends, or the error of a text or of ends.
func spansOf(t Text, ends []int) ([]span, api.Errno) {
	if e := Check(t); e != api.OK {
		return nil, e
	}
	spans := []span{}
	before := 0
	for _, end := range ends {
		if end < 1 || end > t.last() {
			return nil, api.ErrNone
		}
		if end <= before {
			return nil, api.ErrOrder
		}
		spans = append(spans, span{before, end})
		before = end
	}
	if before != t.last() {
		return nil, api.ErrShape
	}
	for _, s := range spans {
		if !t.fits(s) {
			return nil, api.ErrOver
		}
	}
	return spans, api.OK
}

// Left returns what is left of each line.
func Left(t Text, ends []int) ([]int, api.Errno) {
	spans, e := spansOf(t, ends)
	if e != api.OK {
		return nil, e
	}
	left := []int{}
	for _, s := range spans {
		left = append(left, t.left(s))
	}
	return left, api.OK
}

// Cost returns the sum of the squares of what is left of all lines but the last one.
func Cost(t Text, ends []int) (int, api.Errno) {
	spans, e := spansOf(t, ends)
	if e != api.OK {
		return 0, e
	}
	cost := 0
	for _, s := range spans {
		cost += t.cost(s)
	}
	return cost, api.OK
}
