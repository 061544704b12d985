package press

import (
	"slices"

	"headword/api"
)

// ends is when a sheet is set, and when it is printed.
type ends struct {
	set, printed int
}

// then returns the ends of a sheet that comes just behind one with these ends.
func (before ends) then(s Sheet) ends {
	set := before.set + s.Set
	return ends{set, greatest(set, before.printed) + s.Print}
}

// endsOf returns the ends of sheets that are printed in the order of the list.
func endsOf(ordered []Sheet) []ends {
	all := []ends{}
	last := ends{}
	for _, s := range ordered {
		last = last.then(s)
		all = append(all, last)
	}
	return all
}

// timeOf returns the time of sheets that are printed in the order of the list.
func timeOf(ordered []Sheet) int {
	return endsOf(ordered)[len(ordered)-1].printed
}

// inOrder returns the sheets in an order.
func inOrder(sheets []Sheet, order []int) []Sheet {
	ordered := []Sheet{}
	for _, number := range order {
		ordered = append(ordered, sheets[number])
	}
	return ordered
}

// read returns the sheets in an order that is to be checked, or the error.
func read(sheets []Sheet, order []int) ([]Sheet, api.Errno) {
	if e := Check(sheets); e != api.OK {
		return nil, e
	}
	if len(order) != len(sheets) {
		return nil, api.ErrShape
	}
	for place, number := range order {
		if !isSheet(sheets, number) {
			return nil, api.ErrNone
		}
		if slices.Contains(order[:place], number) {
			return nil, api.ErrTwice
		}
	}
	return inOrder(sheets, order), api.OK
}

// Ends returns when sheets are set, and printed.
func Ends(sheets []Sheet, order []int) (set, printed []int, e api.Errno) {
	ordered, e := read(sheets, order)
	if e != api.OK {
		return nil, nil, e
	}
	for _, end := range endsOf(ordered) {
		set = append(set, end.set)
		printed = append(printed, end.printed)
	}
	return set, printed, api.OK
}

// Time returns the time of an order.
func Time(sheets []Sheet, order []int) (int, api.Errno) {
	ordered, e := read(sheets, order)
	if e != api.OK {
		return 0, e
	}
	return timeOf(ordered), api.OK
}

// Idle returns how many hours the press does not print.
func Idle(sheets []Sheet, order []int) (int, api.Errno) {
	ordered, e := read(sheets, order)
	if e != api.OK {
		return 0, e
	}
	return timeOf(ordered) - sum(hoursOf(printing, ordered)...), api.OK
}

// Last returns the first place whose sum is the time.
func Last(sheets []Sheet, order []int) (int, api.Errno) {
	ordered, e := read(sheets, order)
	if e != api.OK {
		return 0, e
	}
	sums := []int{}
	for place := range ordered {
		sums = append(sums, placeSum(ordered, place))
	}
	// By P7.11 the time is the greatest one of the sums, so it is there.
	return slices.Index(sums, timeOf(ordered)), api.OK
}

// placeSum returns the sum of a place.
func placeSum(ordered []Sheet, place int) int {
	return sum(hoursOf(setting, ordered[:place+1])...) + sum(hoursOf(printing, ordered[place:])...)
}
