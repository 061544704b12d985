package fact

import (
	"slices"

	"headword/api"
)

// Values of articles and shares of pairs are numbers of halves.
const (
	none  = 0
	half  = 1
	whole = 2
)

// checkHalves returns the error of a list that is to be so many numbers of halves.
func checkHalves(list []int, many int) api.Errno {
	if len(list) != many {
		return api.ErrShape
	}
	for _, number := range list {
		if number < none || number > whole {
			return api.ErrRange
		}
	}
	return api.OK
}

// sum returns what values cost, or what shares are worth.
func sum(list []int) int {
	all := 0
	for _, number := range list {
		all += number
	}
	return all
}

// best returns, of all lists of so many numbers of halves that fit, the first one of those whose sum is best. There must be one, and the beginnings of one that fits must fit.
func best(size int, fits func(list []int) bool, isBetter func(sum, than int) bool) []int {
	var first []int
	list := []int{}
	var search func()
	search = func() {
		if !fits(list) {
			return
		}
		if len(list) == size {
			if first == nil || isBetter(sum(list), sum(first)) {
				first = slices.Clone(list)
			}
			return
		}
		for number := none; number <= whole; number++ {
			list = append(list, number)
			search()
			list = list[:len(list)-1]
		}
	}
	search()
	return first
}

// Half checks values.
func Half(b Book, values []int) api.Errno {
	if e := Check(b); e != api.OK {
		return e
	}
	if e := checkHalves(values, b.Articles); e != api.OK {
		return e
	}
	if !b.isPaid(values) {
		return api.ErrOpen
	}
	return api.OK
}

// isPaid reports whether the values of each pair are enough; values may be only those of the first articles, and then pairs that have others do not count.
func (b Book) isPaid(values []int) bool {
	for _, pair := range b.Pairs {
		// The second article is the greater one.
		if pair[1] < len(values) && values[pair[0]]+values[pair[1]] < whole {
			return false
		}
	}
	return true
}

// Halves returns the first of the cheapest values.
func Halves(b Book) ([]int, api.Errno) {
	if e := Check(b); e != api.OK {
		return nil, e
	}
	return best(b.Articles, b.isPaid, func(cost, than int) bool { return cost < than }), api.OK
}

// Sure returns the articles that can be taken to be wrong, or right.
func Sure(b Book) (wrong, right []int, e api.Errno) {
	values, e := Halves(b)
	if e != api.OK {
		return nil, nil, e
	}
	return articlesOf(values, whole), articlesOf(values, none), api.OK
}

// articlesOf returns the articles that have a value.
func articlesOf(values []int, value int) []int {
	articles := []int{}
	for article, other := range values {
		if other == value {
			articles = append(articles, article)
		}
	}
	return articles
}

// Rest returns the book of the others, and which they are.
func Rest(b Book) (Book, []int, api.Errno) {
	values, e := Halves(b)
	if e != api.OK {
		return Book{}, nil, e
	}
	articles := articlesOf(values, half)
	rest := Book{Articles: len(articles)}
	for _, pair := range b.Pairs {
		one, other := slices.Index(articles, pair[0]), slices.Index(articles, pair[1])
		if one >= 0 && other >= 0 {
			rest.Pairs = append(rest.Pairs, [2]int{one, other})
		}
	}
	return rest, articles, api.OK
}
