package class

import (
	"cmp"
	"slices"
)

// ordered is what has a place in the order of R6: an article has one, and a set of what has one.
type ordered[E any] interface {
	compare(other E) int
}

// set is different elements in ascending order: a side is a set of articles, and the small sides of divisions are a set of sides.
type set[E ordered[E]] []E

// compare returns a number below, equal to or above 0 if a set is smaller than the other one, equal to it or greater.
func (s set[E]) compare(other set[E]) int {
	return slices.CompareFunc(s, other, func(one, two E) int { return one.compare(two) })
}

// place returns the index of the first element that is not smaller than another one.
func (s set[E]) place(other E) int {
	at := 0
	for at < len(s) && s[at].compare(other) < 0 {
		at++
	}
	return at
}

// has reports whether an element is there.
func (s set[E]) has(element E) bool {
	at := s.place(element)
	return at < len(s) && s[at].compare(element) == 0
}

// with returns the set with an element that it does not have.
func (s set[E]) with(element E) set[E] {
	return slices.Insert(slices.Clone(s), s.place(element), element)
}

// meets reports whether two sets have an element in common.
func (s set[E]) meets(other set[E]) bool {
	for _, element := range s {
		if other.has(element) {
			return true
		}
	}
	return false
}

// article is the number of one.
type article int

func (a article) compare(other article) int { return cmp.Compare(a, other) }

// side is a side of a division.
type side = set[article]

// numbersOf returns the numbers of sides.
func numbersOf(sides []side) [][]int {
	lists := make([][]int, len(sides))
	for i, s := range sides {
		for _, a := range s {
			lists[i] = append(lists[i], int(a))
		}
	}
	return lists
}
