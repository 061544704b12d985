package fact

import (
	"slices"

	"headword/api"
)

// Shared checks shares.
func Shared(b Book, shares []int) api.Errno {
	if e := Check(b); e != api.OK {
		return e
	}
	if e := checkHalves(shares, len(b.Pairs)); e != api.OK {
		return e
	}
	if !b.isBorne(shares) {
		return api.ErrOver
	}
	return api.OK
}

// isBorne reports whether the shares of each article are not too many; shares may be only those of the first pairs.
func (b Book) isBorne(shares []int) bool {
	var together [MaxArticles]int
	for i, share := range shares {
		for _, article := range b.Pairs[i] {
			together[article] += share
		}
	}
	return slices.Max(together[:]) <= whole
}

// Shares returns the first of the shares that are worth most.
func Shares(b Book) ([]int, api.Errno) {
	if e := Check(b); e != api.OK {
		return nil, e
	}
	return best(len(b.Pairs), b.isBorne, func(worth, than int) bool { return worth > than }), api.OK
}

// Proves checks that values cost what shares are worth.
func Proves(b Book, values, shares []int) api.Errno {
	if e := Half(b, values); e != api.OK {
		return e
	}
	if e := Shared(b, shares); e != api.OK {
		return e
	}
	if sum(values) != sum(shares) {
		return api.ErrProof
	}
	return api.OK
}

// Rings returns the rings of the pairs with the share 1.
func Rings(b Book) ([][]int, api.Errno) {
	shares, e := Shares(b)
	if e != api.OK {
		return nil, e
	}
	pairs := [][2]int{}
	for i, share := range shares {
		if share == half {
			pairs = append(pairs, b.Pairs[i])
		}
	}
	return Book{b.Articles, pairs}.rings(), api.OK
}

// contradicts reports whether two articles contradict each other.
func (b Book) contradicts(one, other int) bool {
	return slices.Contains(b.Pairs, [2]int{min(one, other), max(one, other)})
}

// rings returns all rings of a book, in ascending order.
func (b Book) rings() [][]int {
	rings := [][]int{}
	var search func(ring []int)
	search = func(ring []int) {
		first, last := ring[0], ring[len(ring)-1]
		// Where the second article is smaller than the last one, there are three at least.
		if len(ring) > 1 && ring[1] < last && b.contradicts(first, last) {
			rings = append(rings, slices.Clone(ring))
		}
		for next := first + 1; next < b.Articles; next++ {
			if b.contradicts(last, next) && !slices.Contains(ring, next) {
				search(append(ring, next))
			}
		}
	}
	for first := range b.Articles {
		search([]int{first})
	}
	return rings
}
