package reign

import (
	"slices"

	"headword/api"
)

// High returns the greatest of the smallest means.
func High(l []Source, i int) (Frac, api.Errno) {
	if e := checkSource(l, i); e != api.OK {
		return Frac{}, e
	}
	smallest := []Frac{}
	for a := range i + 1 {
		means := []Frac{}
		for b := i; b < len(l); b++ {
			means = append(means, meanOf(part(l, a, b+1)))
		}
		smallest = append(smallest, slices.MinFunc(means, Frac.compare))
	}
	return slices.MaxFunc(smallest, Frac.compare), api.OK
}

// Low returns the smallest of the greatest means.
func Low(l []Source, i int) (Frac, api.Errno) {
	if e := checkSource(l, i); e != api.OK {
		return Frac{}, e
	}
	greatest := []Frac{}
	for b := i; b < len(l); b++ {
		means := []Frac{}
		for a := range i + 1 {
			means = append(means, meanOf(part(l, a, b+1)))
		}
		greatest = append(greatest, slices.MaxFunc(means, Frac.compare))
	}
	return slices.MinFunc(greatest, Frac.compare), api.OK
}

// checkSource returns the error of sources and the number of one of them.
func checkSource(l []Source, i int) api.Errno {
	if e := Check(l); e != api.OK {
		return e
	}
	if i < 0 || i >= len(l) {
		return api.ErrNone
	}
	return api.OK
}
