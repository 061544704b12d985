package class

import (
	"slices"

	"headword/api"
)

// division is its two sides: the small one, and the one that has article 0.
type division struct {
	small, great side
}

// divisionOf returns the division that a side tells.
func divisionOf(articles int, numbers []int) division {
	one, other := side{}, side{}
	for number := range articles {
		if slices.Contains(numbers, number) {
			one = append(one, article(number))
		} else {
			other = append(other, article(number))
		}
	}
	if one.has(0) {
		return division{other, one}
	}
	return division{one, other}
}

// smallSides returns the small sides of divisions.
func smallSides(divisions []division) set[side] {
	sides := set[side]{}
	for _, d := range divisions {
		sides = sides.with(d.small)
	}
	return sides
}

// agrees reports whether two divisions agree. Their great sides always have article 0 in common.
func (d division) agrees(other division) bool {
	return !d.small.meets(other.small) || !d.small.meets(other.great) || !d.great.meets(other.small)
}

// agreesWithAll reports whether a division agrees with each of some.
func (d division) agreesWithAll(divisions []division) bool {
	for _, other := range divisions {
		if !d.agrees(other) {
			return false
		}
	}
	return true
}

// parts reports whether two articles are on different sides.
func (d division) parts(a, b int) bool {
	return d.small.has(article(a)) != d.small.has(article(b))
}

// clash returns the indices of the first two divisions that do not agree, if there are two.
func clash(divisions []division) (i, j int, found bool) {
	for one, d := range divisions {
		for other := one + 1; other < len(divisions); other++ {
			if !d.agrees(divisions[other]) {
				return one, other, true
			}
		}
	}
	return 0, 0, false
}

// readTwo returns divisions, and checks that two numbers are indices of them.
func readTwo(articles int, sides [][]int, i, j int) ([]division, api.Errno) {
	divisions, e := read(articles, sides)
	if e != api.OK {
		return nil, e
	}
	if min(i, j) < 0 || max(i, j) >= len(divisions) {
		return nil, api.ErrNone
	}
	return divisions, api.OK
}

// readAgreeing returns divisions any two of which agree.
func readAgreeing(articles int, sides [][]int) ([]division, api.Errno) {
	divisions, e := read(articles, sides)
	if e != api.OK {
		return nil, e
	}
	if _, _, found := clash(divisions); found {
		return nil, api.ErrLost
	}
	return divisions, api.OK
}

// Tidy returns the small sides.
func Tidy(articles int, sides [][]int) ([][]int, api.Errno) {
	divisions, e := read(articles, sides)
	if e != api.OK {
		return nil, e
	}
	return numbersOf(smallSides(divisions)), api.OK
}

// Agree reports whether two divisions agree.
func Agree(articles int, sides [][]int, i, j int) (bool, api.Errno) {
	divisions, e := readTwo(articles, sides, i, j)
	if e != api.OK {
		return false, e
	}
	return divisions[i].agrees(divisions[j]), api.OK
}

// Why returns two divisions that do not agree.
func Why(articles int, sides [][]int) (i, j int, e api.Errno) {
	divisions, e := read(articles, sides)
	if e != api.OK {
		return 0, 0, e
	}
	one, other, found := clash(divisions)
	if !found {
		return 0, 0, api.ErrClash
	}
	return one, other, api.OK
}

// Proves checks two such divisions.
func Proves(articles int, sides [][]int, i, j int) api.Errno {
	divisions, e := readTwo(articles, sides, i, j)
	if e != api.OK {
		return e
	}
	if divisions[i].agrees(divisions[j]) {
		return api.ErrProof
	}
	return api.OK
}

// Parted returns by how many divisions two articles are parted.
func Parted(articles int, sides [][]int, a, b int) (int, api.Errno) {
	divisions, e := read(articles, sides)
	if e != api.OK {
		return 0, e
	}
	if !isArticle(articles, a) || !isArticle(articles, b) {
		return 0, api.ErrNone
	}
	count := 0
	for _, d := range divisions {
		if d.parts(a, b) {
			count++
		}
	}
	return count, api.OK
}

// Pairs returns how four articles are parted into two and two.
func Pairs(articles int, sides [][]int, four []int) (int, api.Errno) {
	divisions, e := read(articles, sides)
	if e != api.OK {
		return 0, e
	}
	if len(four) != 4 {
		return 0, api.ErrShape
	}
	if e := checkArticles(articles, four); e != api.OK {
		return 0, e
	}
	found := 0
	for _, d := range divisions {
		partner := d.partner(four)
		if partner != 0 && found != 0 && partner != found {
			return 0, api.ErrLost
		}
		found = max(found, partner)
	}
	return found, api.OK
}

// partner returns the index of the one of four articles that is alone on the side of the first one with it, or 0 if they are not parted into two and two.
func (d division) partner(four []int) int {
	partner, together := 0, 0
	for i, a := range four {
		if i > 0 && !d.parts(four[0], a) {
			partner = i
			together++
		}
	}
	if together != 1 {
		return 0
	}
	return partner
}
