package class_test

import (
	"math/rand"
	"slices"

	"headword/api"
	"headword/class"
)

// The functions here follow the definitions word by word, with sets of articles as bits: the tests compare the package with them.

func list(l ...int) []int { return l }

func equal(a, b [][]int) bool { return slices.EqualFunc(a, b, slices.Equal[[]int]) }

func equalTrees(a, b class.Tree) bool {
	return slices.Equal(a.Up, b.Up) && slices.Equal(a.At, b.At)
}

// book is articles, and sides of divisions.
type book struct {
	articles int
	sides    [][]int
}

// digits returns lists that are written as one digit for each number.
func digits(texts ...string) [][]int {
	var lists [][]int
	for _, text := range texts {
		var l []int
		for _, digit := range text {
			l = append(l, int(digit-'0'))
		}
		lists = append(lists, l)
	}
	return lists
}

func say(articles int, sides ...string) book { return book{articles, digits(sides...)} }

func tree(up, at string) class.Tree {
	lists := digits(up, at)
	return class.Tree{Up: lists[0], At: lists[1]}
}

// The books of the chapter's examples, and its tree.
func bookA() book       { return say(4, "12", "1", "3") }
func bookB() book       { return say(4, "01", "02") }
func bookC() book       { return say(5, "34", "0", "01") }
func treeT() class.Tree { return tree("200", "0123") }

func cloneLists(lists [][]int) [][]int {
	var clones [][]int
	for _, l := range lists {
		clones = append(clones, slices.Clone(l))
	}
	return clones
}

func clone(b book) book { return book{b.articles, cloneLists(b.sides)} }

// bitsOf returns a list of numbers as bits.
func bitsOf(l []int) int {
	mask := 0
	for _, number := range l {
		mask |= 1 << number
	}
	return mask
}

// listOf returns bits as a list of numbers.
func listOf(mask int) []int {
	var l []int
	for number := range 16 {
		if mask>>number&1 == 1 {
			l = append(l, number)
		}
	}
	return l
}

// sidesOf returns both sides of a division, as bits.
func sidesOf(articles int, side []int) [2]int {
	mask := bitsOf(side)
	return [2]int{mask, 1<<articles - 1 - mask}
}

// slowSmall returns the side that does not have article 0.
func slowSmall(articles int, side []int) []int {
	both := sidesOf(articles, side)
	if both[0]&1 == 0 {
		return listOf(both[0])
	}
	return listOf(both[1])
}

// slowAgree reports whether two divisions agree.
func slowAgree(articles int, one, other []int) bool {
	for _, s := range sidesOf(articles, one) {
		for _, t := range sidesOf(articles, other) {
			if s&t == 0 {
				return true
			}
		}
	}
	return false
}

// slowTidy returns all small sides, ascending.
func slowTidy(b book) [][]int {
	var small [][]int
	for _, side := range b.sides {
		small = append(small, slowSmall(b.articles, side))
	}
	slices.SortFunc(small, slices.Compare)
	return small
}

// slowClashes returns all lists of two indices of divisions that do not agree, ascending.
func slowClashes(b book) [][2]int {
	var all [][2]int
	for i := range b.sides {
		for j := i + 1; j < len(b.sides); j++ {
			if !slowAgree(b.articles, b.sides[i], b.sides[j]) {
				all = append(all, [2]int{i, j})
			}
		}
	}
	return all
}

// slowMost tries all lists of indices.
func slowMost(b book) []int {
	clashes := slowClashes(b)
	var most []int
	for mask := range 1 << len(b.sides) {
		if slices.ContainsFunc(clashes, func(c [2]int) bool { return mask>>c[0]&1 == 1 && mask>>c[1]&1 == 1 }) {
			continue
		}
		l := listOf(mask)
		if len(l) > len(most) || len(l) == len(most) && slices.Compare(l, most) < 0 {
			most = l
		}
	}
	return most
}

// smallSidesOf returns the small sides of all divisions of so many articles, ascending.
func smallSidesOf(articles int) [][]int {
	var all [][]int
	for mask := 2; mask < 1<<articles; mask += 2 {
		all = append(all, listOf(mask))
	}
	slices.SortFunc(all, slices.Compare)
	return all
}

// smallSides has those of 0, 1 and more articles, made once since they are asked for often.
var smallSides = [class.MaxArticles + 1][][]int{2: smallSidesOf(2), 3: smallSidesOf(3), 4: smallSidesOf(4), 5: smallSidesOf(5), 6: smallSidesOf(6), 7: smallSidesOf(7), 8: smallSidesOf(8)}

// slowFill adds the smallest division that agrees with all, again and again.
func slowFill(b book) [][]int {
	full := slowTidy(b)
	for {
		next := slices.IndexFunc(smallSides[b.articles], func(s []int) bool {
			return !slices.ContainsFunc(full, func(t []int) bool { return slices.Equal(s, t) || !slowAgree(b.articles, s, t) })
		})
		if next < 0 {
			return full
		}
		full = append(full, smallSides[b.articles][next])
		slices.SortFunc(full, slices.Compare)
	}
}

// slowParted returns by how many divisions two articles are parted.
func slowParted(b book, one, other int) int {
	count := 0
	for _, side := range b.sides {
		if slices.Contains(side, one) != slices.Contains(side, other) {
			count++
		}
	}
	return count
}

// slowPairs returns the ways in which four articles are parted into two and two.
func slowPairs(b book, four []int) []int {
	var ways []int
	for way := 1; way <= 3; way++ {
		first := 1<<four[0] | 1<<four[way]
		all := bitsOf(four)
		if slices.ContainsFunc(b.sides, func(side []int) bool {
			mask := bitsOf(side) & all
			return mask == first || mask == all-first
		}) {
			ways = append(ways, way)
		}
	}
	return ways
}

// fours returns all lists of four of so many articles, ascending.
func fours(articles int) [][]int {
	var all [][]int
	for mask := range 1 << articles {
		if l := listOf(mask); len(l) == 4 {
			all = append(all, l)
		}
	}
	return all
}

// goesThrough reports whether one goes up from a corner, which counts, through another one.
func goesThrough(t class.Tree, from, through int) bool {
	for range len(t.Up) + 1 {
		if from == through {
			return true
		}
		if from > 0 {
			from = t.Up[from-1]
		}
	}
	return false
}

// slowLanes returns the small sides of the lanes above corners 1, 2 and so on.
func slowLanes(t class.Tree) [][]int {
	lanes := make([][]int, len(t.Up))
	for i := range t.Up {
		for a, corner := range t.At {
			if goesThrough(t, corner, i+1) {
				lanes[i] = append(lanes[i], a)
			}
		}
	}
	return lanes
}

// slowValid returns the error of a tree of at most 13 lanes and 2 to 8 articles.
func slowValid(articles int, t class.Tree) api.Errno {
	if len(t.At) != articles {
		return api.ErrShape
	}
	lanes := make([]int, len(t.Up)+1)
	for _, l := range [][]int{t.Up, t.At} {
		for _, number := range l {
			if number < 0 || number >= len(lanes) {
				return api.ErrNone
			}
		}
	}
	for corner := range lanes {
		if !goesThrough(t, corner, 0) {
			return api.ErrLost
		}
	}
	if t.At[0] != 0 {
		return api.ErrShape
	}
	for i, above := range t.Up {
		lanes[above]++
		lanes[i+1]++
	}
	for corner, many := range lanes {
		if many < 3 && !slices.Contains(t.At, corner) {
			return api.ErrEmpty
		}
	}
	told := slowLanes(t)
	for k, s := range told {
		smaller := 0
		for _, other := range told {
			if slices.Compare(other, s) < 0 {
				smaller++
			}
		}
		if smaller != k {
			return api.ErrOrder
		}
	}
	return api.OK
}

// slowFar goes from the corner of an article along lanes until it comes to that of the other one.
func slowFar(t class.Tree, one, other int) int {
	reached := []int{t.At[one]}
	for far := 0; ; far++ {
		if slices.Contains(reached, t.At[other]) {
			return far
		}
		for _, corner := range slices.Clone(reached) {
			for i, above := range t.Up {
				if above == corner {
					reached = append(reached, i+1)
				} else if i+1 == corner {
					reached = append(reached, above)
				}
			}
		}
	}
}

// booksOf returns all books of so many articles whose divisions are told by small sides, ascending.
func booksOf(articles int) []book {
	var books []book
	small := smallSides[articles]
	for mask := range 1 << len(small) {
		b := book{articles: articles}
		for _, at := range listOf(mask) {
			b.sides = append(b.sides, small[at])
		}
		books = append(books, b)
	}
	return books
}

// retell returns a book with the same divisions in another order, told by any of their sides.
func retell(r *rand.Rand, b book) book {
	told := book{articles: b.articles}
	for _, at := range r.Perm(len(b.sides)) {
		told.sides = append(told.sides, listOf(sidesOf(b.articles, b.sides[at])[r.Intn(2)]))
	}
	return told
}

// drawBooks returns books, most of them large. They have some divisions that agree, and about a half of them some others.
func drawBooks(seed int64, many int) []book {
	r := rand.New(rand.NewSource(seed))
	var books []book
	for range many {
		b := book{articles: max(2+r.Intn(class.MaxArticles-1), 2+r.Intn(class.MaxArticles-1))}
		b.draw(r, r.Intn(class.MaxDivisions+1), slowAgree)
		if r.Intn(2) == 0 {
			b.draw(r, r.Intn(class.MaxDivisions+1-len(b.sides)), func(int, []int, []int) bool { return true })
		}
		books = append(books, retell(r, b))
	}
	return books
}

// draw adds some divisions, if there are as many that go together with all others.
func (b *book) draw(r *rand.Rand, many int, fit func(articles int, one, other []int) bool) {
	all := smallSides[b.articles]
	for _, at := range r.Perm(len(all)) {
		clashes := func(s []int) bool { return slices.Equal(s, all[at]) || !fit(b.articles, s, all[at]) }
		if many > 0 && !slices.ContainsFunc(b.sides, clashes) {
			b.sides = append(b.sides, all[at])
			many--
		}
	}
}

// manyBooks returns all books of at most 4 articles, and some others.
func manyBooks(seed int64) []book {
	books := drawBooks(seed, 400)
	for articles := 2; articles <= 4; articles++ {
		books = append(books, booksOf(articles)...)
	}
	return books
}

// agreeingBooks returns those of many books whose divisions agree.
func agreeingBooks(seed int64) []book {
	return slices.DeleteFunc(manyBooks(seed), func(b book) bool { return len(slowClashes(b)) > 0 })
}
