package sheet

import "headword/api"

// Bound returns the bound of k.
func Bound(size int, pieces []int, k int) (int, api.Errno) {
	if e := Check(size, pieces); e != api.OK {
		return 0, e
	}
	if k < 0 || k > size/2 {
		return 0, api.ErrRange
	}
	return boundOf(size, pieces, k), api.OK
}

func boundOf(size int, pieces []int, k int) int {
	sheets := 0
	tooMuch := 0 // all small pieces together, less what the halves leave
	for _, length := range pieces {
		switch {
		case length > size-k:
			sheets++
		case 2*length > size:
			sheets++
			tooMuch -= size - length
		case length >= k:
			tooMuch += length
		}
	}
	for ; tooMuch > 0; tooMuch -= size {
		sheets++
	}
	return sheets
}

// Prove returns the smallest k whose bound is the fewest sheets.
func Prove(size int, pieces []int) (int, api.Errno) {
	fewest, e := Fewest(size, pieces)
	if e != api.OK {
		return 0, e
	}
	for k := range size/2 + 1 {
		if boundOf(size, pieces, k) == fewest {
			return k, api.OK
		}
	}
	return 0, api.ErrLost
}

// Proves checks such a k for a plan.
func Proves(size int, pieces, plan []int, k int) api.Errno {
	c, e := validCut(size, pieces, plan)
	if e != api.OK {
		return e
	}
	bound, e := Bound(size, pieces, k)
	if e != api.OK {
		return e
	}
	if bound != len(c.left) {
		return api.ErrProof
	}
	return api.OK
}
