package class

import (
	"slices"

	"headword/api"
)

// Grow returns the tree of divisions.
func Grow(articles int, sides [][]int) (Tree, api.Errno) {
	divisions, e := readAgreeing(articles, sides)
	if e != api.OK {
		return Tree{}, e
	}
	small := smallSides(divisions)
	t := Tree{Up: make([]int, len(small)), At: make([]int, articles)}
	for i, s := range small {
		// Small sides agree if one has all of the other, or nothing of it: one article tells which.
		t.Up[i] = lowestCorner(small, func(other side) bool { return len(other) > len(s) && other.has(s[0]) })
	}
	for a := range articles {
		t.At[a] = lowestCorner(small, func(s side) bool { return s.has(article(a)) })
	}
	return t, api.OK
}

// lowestCorner returns the corner whose lane has the shortest of the small sides that fit, or corner 0 if none fits.
func lowestCorner(small set[side], fits func(s side) bool) int {
	lowest := 0
	for i, s := range small {
		if fits(s) && (lowest == 0 || len(s) < len(small[lowest-1])) {
			lowest = i + 1
		}
	}
	return lowest
}

// Valid returns the error of a tree.
func Valid(articles int, t Tree) api.Errno {
	if !isCount(articles) {
		return api.ErrRange
	}
	if len(t.Up) > MaxDivisions {
		return api.ErrMany
	}
	if len(t.At) != articles {
		return api.ErrShape
	}
	for _, number := range slices.Concat(t.Up, t.At) {
		if number < 0 || number > len(t.Up) {
			return api.ErrNone
		}
	}
	switch {
	case !t.isJoined():
		return api.ErrLost
	case t.At[0] != 0:
		return api.ErrShape
	case t.hasBareCorner():
		return api.ErrEmpty
	case !t.isInOrder():
		return api.ErrOrder
	}
	return api.OK
}

// isJoined reports whether one comes to corner 0 from each corner.
func (t Tree) isJoined() bool {
	for corner := range t.Up {
		if _, arrives := t.wayUp(corner + 1); !arrives {
			return false
		}
	}
	return true
}

// wayUp returns the corners on the way up from a corner, but corner 0, if one comes there.
func (t Tree) wayUp(corner int) (way []int, arrives bool) {
	for corner != 0 {
		if slices.Contains(way, corner) {
			return nil, false
		}
		way = append(way, corner)
		corner = t.Up[corner-1]
	}
	return way, true
}

// hasBareCorner reports whether some corner lacks an article.
func (t Tree) hasBareCorner() bool {
	for corner := range len(t.Up) + 1 {
		if t.lacksArticle(corner) {
			return true
		}
	}
	return false
}

// lacksArticle reports whether a corner has no article, but needs one. (A corner without lanes is corner 0 and has article 0.)
func (t Tree) lacksArticle(corner int) bool {
	switch t.lanes(corner) {
	case 1: // its lane would have no articles on one side
		fallthrough
	case 2: // both lanes would have the same division
		return !slices.Contains(t.At, corner)
	}
	return false
}

// lanes returns how many lanes a corner has.
func (t Tree) lanes(corner int) int {
	count := 0
	for i, above := range t.Up {
		if above == corner || i+1 == corner {
			count++
		}
	}
	return count
}

// isInOrder reports whether the small sides of the lanes ascend as their lower corners do.
func (t Tree) isInOrder() bool {
	return slices.IsSortedFunc(t.lowerSides(), func(one, other side) int { return one.compare(other) })
}

// lowerSides returns, for each corner but corner 0, the articles from which one goes up through it, or that are there.
func (t Tree) lowerSides() []side {
	sides := make([]side, len(t.Up))
	for a, corner := range t.At {
		way, _ := t.wayUp(corner)
		for _, passed := range way {
			sides[passed-1] = append(sides[passed-1], article(a))
		}
	}
	return sides
}

// Sides returns the small sides of the lanes of a tree.
func Sides(articles int, t Tree) ([][]int, api.Errno) {
	if e := Valid(articles, t); e != api.OK {
		return nil, e
	}
	return numbersOf(t.lowerSides()), api.OK
}

// Far returns how many lanes are between two articles.
func Far(articles int, t Tree, a, b int) (int, api.Errno) {
	if e := Valid(articles, t); e != api.OK {
		return 0, e
	}
	if !isArticle(articles, a) || !isArticle(articles, b) {
		return 0, api.ErrNone
	}
	one, _ := t.wayUp(t.At[a])
	other, _ := t.wayUp(t.At[b])
	// Above the corners that are on both ways, the two go up together.
	return countOutside(one, other) + countOutside(other, one), api.OK
}

// countOutside returns how many numbers of a list are not in another one.
func countOutside(list, other []int) int {
	count := 0
	for _, number := range list {
		if !slices.Contains(other, number) {
			count++
		}
	}
	return count
}
