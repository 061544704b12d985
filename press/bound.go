package press

import (
	"slices"

	"headword/api"
)

// boundOf returns the bound of a machine and a sheet.
func boundOf(sheets []Sheet, machine, k int) int {
	h, _ := sheets[k].hours(machine)
	parts := []int{h}
	for _, s := range sheets {
		here, other := s.hours(machine)
		if here < h {
			other = min(here, other)
		}
		parts = append(parts, other)
	}
	return sum(parts...)
}

// boundsOf returns the bounds of setting and each sheet, and then those of printing and each sheet.
func boundsOf(sheets []Sheet) []int {
	bounds := []int{}
	for machine := range machines {
		for k := range sheets {
			bounds = append(bounds, boundOf(sheets, machine, k))
		}
	}
	return bounds
}

// Bound returns the bound of a machine and a sheet.
func Bound(sheets []Sheet, machine, k int) (int, api.Errno) {
	if e := Check(sheets); e != api.OK {
		return 0, e
	}
	if machine < 0 || machine >= machines || !isSheet(sheets, k) {
		return 0, api.ErrNone
	}
	return boundOf(sheets, machine, k), api.OK
}

// Prove returns the first bound that is the time of a best order.
func Prove(sheets []Sheet) (machine, k int, e api.Errno) {
	if e := Check(sheets); e != api.OK {
		return 0, 0, e
	}
	// By P7.10 the time of a best order is one of the bounds.
	at := slices.Index(boundsOf(sheets), bestTime(sheets))
	return at / len(sheets), at % len(sheets), api.OK
}

// Proves checks such a bound of an order.
func Proves(sheets []Sheet, order []int, machine, k int) api.Errno {
	time, e := Time(sheets, order)
	if e != api.OK {
		return e
	}
	bound, e := Bound(sheets, machine, k)
	if e != api.OK {
		return e
	}
	if bound != time {
		return api.ErrProof
	}
	return api.OK
}
