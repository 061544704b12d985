package see_test

import (
	"math/rand"
	"slices"

	"headword/api"
	"headword/see"
)

// The functions here follow the definitions word by word, without regard to time: the tests compare the package with them.

// number holds a result and its error, so that both are compared at once.
type number struct {
	n int
	e api.Errno
}

func asNumber(n int, e api.Errno) number        { return number{n, e} }
func errorOf[T any](_ T, e api.Errno) api.Errno { return e }

func list(l ...int) []int { return l }

// book returns a book whose references are written as pairs of digits.
func book(words int, refs ...string) see.Book {
	b := see.Book{Words: words}
	for _, ref := range refs {
		b.Refs = append(b.Refs, [2]int{int(ref[0] - '0'), int(ref[1] - '0')})
	}
	return b
}

// The books of the chapter's examples.
func bookA() see.Book { return book(3, "01", "12") }
func bookB() see.Book { return book(3, "01", "12", "20") }
func bookC() see.Book { return book(4, "01", "10", "12", "23", "32") }

func equalLists(a, b [][]int) bool { return slices.EqualFunc(a, b, slices.Equal[[]int]) }

func equalBooks(a, b see.Book) bool { return a.Words == b.Words && slices.Equal(a.Refs, b.Refs) }

func clone(b see.Book) see.Book { return see.Book{Words: b.Words, Refs: slices.Clone(b.Refs)} }

func sees(b see.Book, word, other int) bool { return slices.Contains(b.Refs, [2]int{word, other}) }

// pairs returns all references that a book of so many words may have.
func pairs(words int) [][2]int {
	var all [][2]int
	for a := range words {
		for b := range words {
			if a != b {
				all = append(all, [2]int{a, b})
			}
		}
	}
	return all
}

// booksOf returns all books of so many words, with their references ascending.
func booksOf(words int) []see.Book {
	var books []see.Book
	refs := pairs(words)
	for mask := range 1 << len(refs) {
		b := see.Book{Words: words}
		for i, ref := range refs {
			if mask>>i&1 == 1 {
				b.Refs = append(b.Refs, ref)
			}
		}
		books = append(books, b)
	}
	return books
}

// drawBook returns a book of so many words and references, which come in any order.
func drawBook(r *rand.Rand, words, refs int) see.Book {
	all := pairs(words)
	r.Shuffle(len(all), func(i, j int) { all[i], all[j] = all[j], all[i] })
	return see.Book{Words: words, Refs: all[:min(refs, len(all), see.MaxRefs)]}
}

// drawBooks returns books of all sizes.
func drawBooks(seed int64, many int) []see.Book {
	r := rand.New(rand.NewSource(seed))
	var books []see.Book
	for range many {
		books = append(books, drawBook(r, 1+r.Intn(see.MaxWords), r.Intn(see.MaxRefs+1)))
	}
	return books
}

// manyBooks returns all books of at most 4 words, and some others.
func manyBooks(seed int64) []see.Book {
	books := drawBooks(seed, 300)
	for words := 1; words <= 4; words++ {
		books = append(books, booksOf(words)...)
	}
	return books
}

// sets returns all sets of so many words, ascending.
func sets(words int) [][]int {
	var all [][]int
	for _, l := range allLists[words] {
		if slices.IsSorted(l) {
			all = append(all, l)
		}
	}
	return all
}

// listsOf returns all lists of different words out of so many, ascending.
func listsOf(words int) [][]int {
	all := [][]int{nil}
	for at := 0; at < len(all); at++ {
		for word := range words {
			if !slices.Contains(all[at], word) {
				all = append(all, append(slices.Clone(all[at]), word))
			}
		}
	}
	slices.SortFunc(all, slices.Compare)
	return all
}

// allLists has the lists of 0, 1 and more words, made once since there are many.
var allLists = [see.MaxWords + 1][][]int{listsOf(0), listsOf(1), listsOf(2), listsOf(3), listsOf(4), listsOf(5), listsOf(6), listsOf(7)}

func slowChoice(b see.Book, set []int) bool {
	for word := range b.Words {
		in := slices.Contains(set, word)
		if slices.ContainsFunc(set, func(other int) bool { return sees(b, word, other) }) == in {
			return false
		}
	}
	return true
}

func slowChoices(b see.Book) [][]int {
	var choices [][]int
	for _, set := range sets(b.Words) {
		if slowChoice(b, set) {
			choices = append(choices, set)
		}
	}
	return choices
}

// goes reports whether each word of a list sees the next one.
func goes(b see.Book, l []int) bool {
	for i := 1; i < len(l); i++ {
		if !sees(b, l[i-1], l[i]) {
			return false
		}
	}
	return true
}

func slowCircles(b see.Book) [][]int {
	var circles [][]int
	for _, l := range allLists[b.Words] {
		if len(l) >= 2 && slices.Min(l) == l[0] && goes(b, append(slices.Clone(l), l[0])) {
			circles = append(circles, l)
		}
	}
	return circles
}

// shortest returns the first of the lists with the fewest numbers.
func shortest(lists [][]int) []int {
	var first []int
	for _, l := range lists {
		if first == nil || len(l) < len(first) {
			first = l
		}
	}
	return first
}

func isOdd(circle []int) bool { return len(circle)%2 == 1 }

func isEven(circle []int) bool { return !isOdd(circle) }

func slowWay(b see.Book, articles []int, word int) []int {
	var ways [][]int
	for _, l := range allLists[b.Words] {
		if len(l) > 0 && l[0] == word && slices.Contains(articles, l[len(l)-1]) && goes(b, l) {
			ways = append(ways, l)
		}
	}
	return shortest(ways)
}

// slowThrough returns on how many of the circles a reference lies.
func slowThrough(circles [][]int, ref [2]int) int {
	count := 0
	for _, c := range circles {
		for i, word := range c {
			if ref == [2]int{word, c[(i+1)%len(c)]} {
				count++
			}
		}
	}
	return count
}

// slowNumber returns the number of a word of a book without circles.
func slowNumber(b see.Book, word int) int {
	var taken []int
	for other := range b.Words {
		if sees(b, word, other) {
			taken = append(taken, slowNumber(b, other))
		}
	}
	number := 0
	for slices.Contains(taken, number) {
		number++
	}
	return number
}
