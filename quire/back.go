package quire

import (
	"math/bits"
	"slices"

	"headword/api"
)

// Folds returns the folds that lead to creases.
func Folds(creases string) (string, api.Errno) {
	if e := checkStrip(creases); e != api.OK {
		return "", e
	}
	ways := []byte{}
	// No fold before has moved the squares that are as many as the columns now, so the crease in the middle of them is at a square that is not turned, and tells the fold.
	for columns := len(creases) + 1; columns > 1; columns /= 2 {
		ways = append(ways, foldOf(creases[columns/2-1] == valley))
	}
	folds := string(ways)
	if string(foldAll(folds).creases) != creases {
		return "", api.ErrLost
	}
	return folds, api.OK
}

// foldOf returns over or under.
func foldOf(isOver bool) byte {
	if isOver {
		return over
	}
	return under
}

// Why returns two creases that clash.
func Why(creases string) (i, j int, e api.Errno) {
	if e := checkStrip(creases); e != api.OK {
		return 0, 0, e
	}
	for one := range len(creases) {
		for other := one + 1; other < len(creases); other++ {
			if clash(creases, one, other) {
				return one, other, api.OK
			}
		}
	}
	return 0, 0, api.ErrClash
}

// Proves checks two such creases.
func Proves(creases string, i, j int) api.Errno {
	if e := checkStrip(creases); e != api.OK {
		return e
	}
	if min(i, j) < 0 || max(i, j) >= len(creases) {
		return api.ErrNone
	}
	if i >= j {
		return api.ErrOrder
	}
	if !clash(creases, i, j) {
		return api.ErrProof
	}
	return api.OK
}

// clash reports whether two creases cannot go together.
func clash(creases string, i, j int) bool {
	p, power := split(i + 1)
	q, other := split(j + 1)
	if power != other {
		return false
	}
	return (creases[i] == creases[j]) != ((q-p)%4 == 0)
}

// split returns a number above 0 as an odd one, and as how often this is to be doubled.
func split(n int) (odd, power int) {
	power = bits.TrailingZeros(uint(n))
	return n >> power, power
}

// Folded returns the folds that lead to a pile.
func Folded(pile []int) (string, api.Errno) {
	if e := checkPile(pile); e != api.OK {
		return "", e
	}
	places := make([]int, len(pile))
	for place, square := range pile {
		places[square] = place
	}
	ways := []byte{}
	// No fold before has moved the squares that are as many as the columns now. This one lays the last of them upon square 0 or beneath it, and there it stays, as square 0 is never turned.
	for columns := len(pile); columns > 1; columns /= 2 {
		ways = append(ways, foldOf(places[columns-1] < places[0]))
	}
	folds := string(ways)
	if !slices.Equal(foldAll(folds).pile(), pile) {
		return "", api.ErrLost
	}
	return folds, api.OK
}

// checkPile returns the error of a list that is to be all squares of a strip.
func checkPile(pile []int) api.Errno {
	if len(pile) > maxSquares {
		return api.ErrMany
	}
	if !isPowerOfTwo(len(pile)) {
		return api.ErrShape
	}
	seen := make([]bool, len(pile))
	for _, square := range pile {
		if square < 0 || square >= len(pile) {
			return api.ErrNone
		}
		if seen[square] {
			return api.ErrTwice
		}
		seen[square] = true
	}
	return api.OK
}
