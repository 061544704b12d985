package fact_test

import (
	"math/rand"
	"slices"

	"headword/api"
	"headword/fact"
)

// The functions here try all lists and keep those that the definitions allow: the tests compare the package with them.

func errorOf[T any](_ T, e api.Errno) api.Errno { return e }

func list(l ...int) []int { return l }

// book returns a book whose pairs are written as two digits.
func book(articles int, pairs ...string) fact.Book {
	b := fact.Book{Articles: articles}
	for _, pair := range pairs {
		b.Pairs = append(b.Pairs, [2]int{int(pair[0] - '0'), int(pair[1] - '0')})
	}
	return b
}

// The books of the chapter's examples.
func bookA() fact.Book { return book(3, "01", "12") }
func bookB() fact.Book { return book(3, "01", "02", "12") }
func bookC() fact.Book { return book(6, "01", "02", "03", "34", "35", "45") }

func equalLists(a, b [][]int) bool { return slices.EqualFunc(a, b, slices.Equal[[]int]) }

func equalBooks(a, b fact.Book) bool {
	return a.Articles == b.Articles && slices.Equal(a.Pairs, b.Pairs)
}

func clone(b fact.Book) fact.Book {
	return fact.Book{Articles: b.Articles, Pairs: slices.Clone(b.Pairs)}
}

// pairsOf returns all pairs that a book of so many articles may have.
func pairsOf(articles int) [][2]int {
	var all [][2]int
	for a := range articles {
		for b := a + 1; b < articles; b++ {
			all = append(all, [2]int{a, b})
		}
	}
	return all
}

// booksOf returns all books of so many articles whose pairs ascend.
func booksOf(articles int) []fact.Book {
	var books []fact.Book
	pairs := pairsOf(articles)
	for mask := range 1 << len(pairs) {
		b := fact.Book{Articles: articles}
		for i, pair := range pairs {
			if mask>>i&1 == 1 {
				b.Pairs = append(b.Pairs, pair)
			}
		}
		books = append(books, b)
	}
	return books
}

// drawBooks returns books of all sizes, most of them large, whose pairs come in any order.
func drawBooks(seed int64, many int) []fact.Book {
	r := rand.New(rand.NewSource(seed))
	var books []fact.Book
	for range many {
		articles := max(1+r.Intn(fact.MaxArticles), 1+r.Intn(fact.MaxArticles))
		pairs := pairsOf(articles)
		r.Shuffle(len(pairs), func(i, j int) { pairs[i], pairs[j] = pairs[j], pairs[i] })
		most := min(len(pairs), fact.MaxPairs)
		books = append(books, fact.Book{Articles: articles, Pairs: pairs[:r.Intn(most+1)]})
	}
	return books
}

// manyBooks returns all books of at most 5 articles, and some others.
func manyBooks(seed int64) []fact.Book {
	books := drawBooks(seed, 400)
	for articles := 1; articles <= 5; articles++ {
		books = append(books, booksOf(articles)...)
	}
	return books
}

// sets returns all sets of so many articles, ascending.
func sets(articles int) [][]int {
	var all [][]int
	for _, l := range allOrders[articles] {
		if slices.IsSorted(l) {
			all = append(all, l)
		}
	}
	return all
}

// ordersOf returns all lists of different articles out of so many, ascending.
func ordersOf(articles int) [][]int {
	all := [][]int{nil}
	for at := 0; at < len(all); at++ {
		for article := range articles {
			if !slices.Contains(all[at], article) {
				all = append(all, append(slices.Clone(all[at]), article))
			}
		}
	}
	slices.SortFunc(all, slices.Compare)
	return all
}

// allOrders has the lists of 0, 1 and more articles, made once since there are many.
var allOrders = [fact.MaxArticles + 1][][]int{ordersOf(0), ordersOf(1), ordersOf(2), ordersOf(3), ordersOf(4), ordersOf(5), ordersOf(6), ordersOf(7)}

// halvesOf returns all lists of so many numbers from 0 to 2, ascending.
func halvesOf(size int) [][]int {
	all := [][]int{nil}
	for range size {
		var longer [][]int
		for _, l := range all {
			for number := range 3 {
				longer = append(longer, append(slices.Clone(l), number))
			}
		}
		all = longer
	}
	return all
}

// allHalves has these lists of 0, 1 and more numbers.
var allHalves = [fact.MaxPairs + 1][][]int{halvesOf(0), halvesOf(1), halvesOf(2), halvesOf(3), halvesOf(4), halvesOf(5), halvesOf(6), halvesOf(7), halvesOf(8), halvesOf(9), halvesOf(10)}

func sum(l []int) int {
	all := 0
	for _, n := range l {
		all += n
	}
	return all
}

// slowWrong reports whether a set of articles explains all pairs.
func slowWrong(b fact.Book, set []int) bool {
	for _, pair := range b.Pairs {
		if !slices.Contains(set, pair[0]) && !slices.Contains(set, pair[1]) {
			return false
		}
	}
	return true
}

// slowShortest returns all shortest lists of wrong articles.
func slowShortest(b fact.Book) [][]int {
	var lists [][]int
	for _, set := range sets(b.Articles) {
		if !slowWrong(b, set) {
			continue
		}
		if len(lists) > 0 && len(set) < len(lists[0]) {
			lists = nil
		}
		if len(lists) == 0 || len(set) == len(lists[0]) {
			lists = append(lists, set)
		}
	}
	return lists
}

// slowValues reports whether a list of numbers from 0 to 2, one for each article, is values.
func slowValues(b fact.Book, l []int) bool {
	for _, pair := range b.Pairs {
		if l[pair[0]]+l[pair[1]] < 2 {
			return false
		}
	}
	return true
}

// slowHalves returns the first of the cheapest values.
func slowHalves(b fact.Book) []int {
	var first []int
	for _, l := range allHalves[b.Articles] {
		if slowValues(b, l) && (first == nil || sum(l) < sum(first)) {
			first = l
		}
	}
	return first
}

// slowBorne reports whether a list of numbers from 0 to 2, one for each pair, is shares.
func slowBorne(b fact.Book, l []int) bool {
	for article := range b.Articles {
		together := 0
		for i, pair := range b.Pairs {
			if slices.Contains(pair[:], article) {
				together += l[i]
			}
		}
		if together > 2 {
			return false
		}
	}
	return true
}

// slowShares returns the first of the shares that are worth most.
func slowShares(b fact.Book) []int {
	var first []int
	for _, l := range allHalves[len(b.Pairs)] {
		if (first == nil || sum(l) > sum(first)) && slowBorne(b, l) {
			first = l
		}
	}
	return first
}

// slowRings returns all rings of pairs of so many articles, ascending.
func slowRings(articles int, pairs [][2]int) [][]int {
	var rings [][]int
	for _, l := range allOrders[articles] {
		if len(l) < 3 || slices.Min(l) != l[0] || l[1] > l[len(l)-1] {
			continue
		}
		if !slices.ContainsFunc(pairsOn(l), func(pair [2]int) bool { return !slices.Contains(pairs, pair) }) {
			rings = append(rings, l)
		}
	}
	return rings
}

// pairsOn returns the pairs of each article of a ring and the next one, and of the last one and the first one.
func pairsOn(ring []int) [][2]int {
	var pairs [][2]int
	for i, article := range ring {
		next := ring[(i+1)%len(ring)]
		pairs = append(pairs, [2]int{min(article, next), max(article, next)})
	}
	return pairs
}

// pairsWith returns the pairs of a book that have a share.
func pairsWith(b fact.Book, shares []int, share int) [][2]int {
	var pairs [][2]int
	for i, pair := range b.Pairs {
		if shares[i] == share {
			pairs = append(pairs, pair)
		}
	}
	return pairs
}

// hasOddRing reports whether there is an odd ring among all pairs.
func hasOddRing(b fact.Book) bool {
	return slices.ContainsFunc(slowRings(b.Articles, b.Pairs), isOdd)
}

func isOdd(ring []int) bool { return len(ring)%2 == 1 }
