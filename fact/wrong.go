package fact

import (
	"slices"

	"headword/api"
)

// Valid checks a list of wrong articles.
func Valid(b Book, wrong []int) api.Errno {
	if e := Check(b); e != api.OK {
		return e
	}
	for i, number := range wrong {
		if !b.hasArticle(number) {
			return api.ErrNone
		}
		if i > 0 && number <= wrong[i-1] {
			return api.ErrOrder
		}
	}
	if !b.isExplained(wrong) {
		return api.ErrOpen
	}
	return api.OK
}

// isExplained reports whether of each pair at least one article is wrong.
func (b Book) isExplained(wrong []int) bool {
pairs:
	for _, pair := range b.Pairs {
		for _, article := range pair {
			if slices.Contains(wrong, article) {
				continue pairs
			}
		}
		return false
	}
	return true
}

// First returns the first of the shortest lists.
func First(b Book) ([]int, api.Errno) {
	if e := Check(b); e != api.OK {
		return nil, e
	}
	return b.shortest()[0], api.OK
}

// Count returns how many shortest lists there are.
func Count(b Book) (int, api.Errno) {
	if e := Check(b); e != api.OK {
		return 0, e
	}
	return len(b.shortest()), api.OK
}

// shortest returns all shortest lists of wrong articles, in ascending order.
func (b Book) shortest() [][]int {
	lists := [][]int{}
	wrong := []int{}
	var search func(from, more int)
	search = func(from, more int) {
		if more == 0 {
			if b.isExplained(wrong) {
				lists = append(lists, slices.Clone(wrong))
			}
			return
		}
		for article := from; article < b.Articles; article++ {
			wrong = append(wrong, article)
			search(article+1, more-1)
			wrong = wrong[:len(wrong)-1]
		}
	}
	// This ends, as the list of all articles explains all pairs.
	for size := 0; len(lists) == 0; size++ {
		search(0, size)
	}
	return lists
}
