package see

import (
	"slices"

	"headword/api"
)

// circles returns all circles.
func (b Book) circles() [][]int {
	all := [][]int{}
	for _, f := range b.searchAll() {
		switch f.(type) {
		case evenCircle, oddCircle:
			all = append(all, f.words())
		}
	}
	return all
}

// Ring returns the first odd circle.
func Ring(b Book) ([]int, api.Errno) {
	if e := Check(b); e != api.OK {
		return nil, e
	}
	for _, f := range b.searchAll() {
		switch f := f.(type) {
		case oddCircle:
			return f.words(), api.OK
		}
	}
	return nil, api.ErrClash
}

// Proves checks an odd circle.
func Proves(b Book, ring []int) api.Errno {
	if e := Check(b); e != api.OK {
		return e
	}
	if len(ring) < 3 || len(ring)%2 == 0 {
		return api.ErrShape
	}
	for i, number := range ring {
		if !b.hasWord(number) {
			return api.ErrNone
		}
		if slices.Contains(ring[:i], number) {
			return api.ErrTwice
		}
	}
	for i, word := range ring {
		if !b.sees(word, ring[(i+1)%len(ring)]) {
			return api.ErrProof
		}
	}
	return api.OK
}

// Circles returns how many circles there are.
func Circles(b Book) (int, api.Errno) {
	if e := Check(b); e != api.OK {
		return 0, e
	}
	return len(b.circles()), api.OK
}

// Through returns on how many circles a reference lies.
func Through(b Book, ref int) (int, api.Errno) {
	if e := Check(b); e != api.OK {
		return 0, e
	}
	if !b.hasRef(ref) {
		return 0, api.ErrNone
	}
	return countThrough(b.circles(), b.Refs[ref]), api.OK
}

// countThrough returns on how many of the circles a reference lies.
func countThrough(circles [][]int, ref [2]int) int {
	count := 0
	for _, words := range circles {
		at := slices.Index(words, ref[0])
		if at >= 0 && words[(at+1)%len(words)] == ref[1] {
			count++
		}
	}
	return count
}

// Worst returns the reference that lies on the most circles.
func Worst(b Book) (int, api.Errno) {
	if e := Check(b); e != api.OK {
		return 0, e
	}
	circles := b.circles()
	worst, most := 0, 0
	for i, ref := range b.Refs {
		if count := countThrough(circles, ref); count > most {
			worst, most = i, count
		}
	}
	// On each circle lie some references, so there is none.
	if most == 0 {
		return 0, api.ErrLost
	}
	return worst, api.OK
}
