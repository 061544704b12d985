package volume_test

import (
	"math/rand"
	"slices"

	"headword/api"
	"headword/volume"
)

// The functions here follow the definitions word by word, and try all cuts and all lists of stretches: the tests compare the package with them.

func list(l ...int) []int { return l }

func lists(l ...[]int) [][]int { return l }

// pairs returns stretches, told one number after the other.
func pairs(l ...int) [][2]int {
	var all [][2]int
	for i := 0; i < len(l); i += 2 {
		all = append(all, [2]int{l[i], l[i+1]})
	}
	return all
}

// articles returns articles, each told as its Least and Most.
func articles(l ...int) []volume.Article {
	var all []volume.Article
	for i := 0; i < len(l); i += 2 {
		all = append(all, volume.Article{Least: l[i], Most: l[i+1]})
	}
	return all
}

func book(room, floor int, l ...int) volume.Book {
	return volume.Book{Articles: articles(l...), Room: room, Floor: floor}
}

// fixed returns a book of articles whose lengths are known.
func fixed(room, floor int, lengths ...int) volume.Book {
	b := volume.Book{Room: room, Floor: floor}
	for _, length := range lengths {
		b.Articles = append(b.Articles, volume.Article{Least: length, Most: length})
	}
	return b
}

// The books of the chapter's examples.
func bookA() volume.Book { return book(7, 2, 2, 3, 1, 4, 2, 2, 3, 5, 1, 1) }
func bookB() volume.Book { return book(7, 0, 1, 8) }

// withArticles returns a book with other articles.
func withArticles(b volume.Book, l []volume.Article) volume.Book {
	return volume.Book{Articles: l, Room: b.Room, Floor: b.Floor}
}

// withRoom returns a book with other room and another floor.
func withRoom(b volume.Book, room, floor int) volume.Book {
	return volume.Book{Articles: b.Articles, Room: room, Floor: floor}
}

// clone returns a book that shares no memory with another one.
func clone(b volume.Book) volume.Book { return withArticles(b, slices.Clone(b.Articles)) }

// errorOf returns the error of a call that has one result beside it.
func errorOf[T any](_ T, e api.Errno) api.Errno { return e }

// allCuts has, for each number of articles, all cuts, ascending; made once since they are asked for often.
var allCuts = func() (all [volume.MaxArticles + 1][][]int) {
	for n := 1; n < len(all); n++ {
		for set := range 1 << (n - 1) {
			var ends []int
			for end := 1; end < n; end++ {
				if set>>(end-1)&1 == 1 {
					ends = append(ends, end)
				}
			}
			all[n] = append(all[n], append(ends, n))
		}
		slices.SortFunc(all[n], slices.Compare)
	}
	return all
}()

func cutsOf(b volume.Book) [][]int { return allCuts[len(b.Articles)] }

// slowVolume returns the numbers of the articles of a volume.
func slowVolume(ends []int, number int) []int {
	var numbers []int
	for article := range ends[number] {
		if number == 0 || article >= ends[number-1] {
			numbers = append(numbers, article)
		}
	}
	return numbers
}

// slowLines returns how many lines some articles have together, at least and at most.
func slowLines(b volume.Book, numbers []int) (least, most int) {
	for _, article := range numbers {
		least += b.Articles[article].Least
		most += b.Articles[article].Most
	}
	return least, most
}

// some reports whether some volume of a cut is such a one.
func some(b volume.Book, ends []int, is func(least, most int) bool) (int, bool) {
	for number := range ends {
		if is(slowLines(b, slowVolume(ends, number))) {
			return number, true
		}
	}
	return 0, false
}

func slowMay(b volume.Book, ends []int) (int, bool) {
	return some(b, ends, func(_, most int) bool { return most > b.Room })
}

func slowMust(b volume.Book, ends []int) (int, bool) {
	return some(b, ends, func(least, _ int) bool { return least > b.Room })
}

func slowThin(b volume.Book, ends []int) (int, bool) {
	return some(b, ends, func(least, _ int) bool { return least < b.Floor })
}

// slowEnds returns the error of ends.
func slowEnds(b volume.Book, ends []int) api.Errno {
	n := len(b.Articles)
	for i, end := range ends {
		if end < 1 || end > n {
			return api.ErrNone
		}
		if i > 0 && end <= ends[i-1] {
			return api.ErrOrder
		}
	}
	if len(ends) == 0 || ends[len(ends)-1] != n {
		return api.ErrShape
	}
	return api.OK
}

// slowHolds returns the error of a cut that is to hold.
func slowHolds(b volume.Book, ends []int) api.Errno {
	if e := slowEnds(b, ends); e != api.OK {
		return e
	}
	if _, is := slowMay(b, ends); is {
		return api.ErrOver
	}
	return api.OK
}

// slowSafe returns the error of a cut that is to be safe.
func slowSafe(b volume.Book, ends []int) api.Errno {
	if e := slowHolds(b, ends); e != api.OK {
		return e
	}
	if _, is := slowThin(b, ends); is {
		return api.ErrOpen
	}
	return api.OK
}

// slowHolding returns the cuts that hold, ascending.
func slowHolding(b volume.Book) [][]int {
	var all [][]int
	for _, ends := range cutsOf(b) {
		if slowHolds(b, ends) == api.OK {
			all = append(all, ends)
		}
	}
	return all
}

// slowSafeCuts returns the safe cuts, ascending.
func slowSafeCuts(b volume.Book) [][]int {
	var all [][]int
	for _, ends := range cutsOf(b) {
		if slowSafe(b, ends) == api.OK {
			all = append(all, ends)
		}
	}
	return all
}

// shortest returns the shortest ones of some cuts.
func shortest(cuts [][]int) [][]int {
	var all [][]int
	for _, ends := range cuts {
		if len(all) > 0 && len(ends) < len(all[0]) {
			all = nil
		}
		if len(all) == 0 || len(ends) == len(all[0]) {
			all = append(all, ends)
		}
	}
	return all
}

// slowFewest returns what Fewest is to return.
func slowFewest(b volume.Book) ([]int, api.Errno) {
	all := shortest(slowHolding(b))
	if len(all) == 0 {
		return nil, api.ErrLost
	}
	return all[len(all)-1], api.OK
}

// slowCut returns what Cut is to return.
func slowCut(b volume.Book) ([]int, api.Errno) {
	all := shortest(slowSafeCuts(b))
	if len(all) == 0 {
		return nil, api.ErrLost
	}
	return all[0], api.OK
}

// slowIsStretch reports whether two articles, the first one smaller, are a stretch.
func slowIsStretch(b volume.Book, first, last int) bool {
	most := 0
	for article := first; article <= last; article++ {
		most += b.Articles[article].Most
	}
	return most > b.Room
}

// slowRow returns the first one of the longest lists of stretches in a row: it tells all lists, ascending, and keeps the first one that is longer than all before.
func slowRow(b volume.Book) [][2]int {
	var best [][2]int
	var goOn func(row [][2]int, from int)
	goOn = func(row [][2]int, from int) {
		if len(row) > len(best) {
			best = slices.Clone(row)
		}
		for first := from; first < len(b.Articles); first++ {
			for last := first + 1; last < len(b.Articles); last++ {
				if slowIsStretch(b, first, last) {
					goOn(append(row[:len(row):len(row)], [2]int{first, last}), last)
				}
			}
		}
	}
	goOn(nil, 0)
	return best
}

// slowWhy returns what Why is to return.
func slowWhy(b volume.Book) ([][2]int, api.Errno) {
	if len(slowHolding(b)) == 0 {
		return nil, api.ErrLost
	}
	if slowHolds(b, list(len(b.Articles))) == api.OK {
		return nil, api.ErrClash
	}
	return slowRow(b), api.OK
}

// slowProves returns what Proves is to return.
func slowProves(b volume.Book, volumes int, stretches [][2]int) api.Errno {
	n := len(b.Articles)
	if volumes < 1 {
		return api.ErrRange
	}
	for i, s := range stretches {
		switch {
		case min(s[0], s[1]) < 0 || max(s[0], s[1]) >= n:
			return api.ErrNone
		case s[0] >= s[1] || i > 0 && s[0] < stretches[i-1][1]:
			return api.ErrOrder
		case !slowIsStretch(b, s[0], s[1]):
			return api.ErrProof
		}
	}
	if len(stretches)+1 < volumes {
		return api.ErrProof
	}
	return api.OK
}

// slowLevels returns, for one volume, two and more, what Level is to return.
func slowLevels(b volume.Book) []int {
	levels := slices.Repeat(list(1<<62), len(b.Articles))
	for _, ends := range cutsOf(b) {
		longest := 1
		for number := range ends {
			_, most := slowLines(b, slowVolume(ends, number))
			longest = max(longest, most)
		}
		for volumes := len(ends); volumes <= len(levels); volumes++ {
			levels[volumes-1] = min(levels[volumes-1], longest)
		}
	}
	return levels
}

// slowLimit tries one length after the other, downwards.
func slowLimit(b volume.Book, ends []int, article int) int {
	for number := range ends {
		numbers := slowVolume(ends, number)
		if !slices.Contains(numbers, article) {
			continue
		}
		for length := volume.MaxRoom; ; length-- {
			together := length
			for _, other := range numbers {
				if other != article {
					together += b.Articles[other].Most
				}
			}
			if together <= b.Room {
				return length
			}
		}
	}
	panic("no volume has the article")
}

// numbersOf returns all lists of so many numbers from low to high.
func numbersOf(many, low, high int) [][]int {
	all := lists(nil)
	for range many {
		var longer [][]int
		for _, l := range all {
			for number := low; number <= high; number++ {
				longer = append(longer, append(slices.Clone(l), number))
			}
		}
		all = longer
	}
	return all
}

// articlesOf returns all lists of so many articles with so many lines at most.
func articlesOf(many, lines int) [][]volume.Article {
	all := [][]volume.Article{nil}
	for range many {
		var longer [][]volume.Article
		for _, l := range all {
			for most := 1; most <= lines; most++ {
				for least := 1; least <= most; least++ {
					longer = append(longer, append(slices.Clone(l), volume.Article{Least: least, Most: most}))
				}
			}
		}
		all = longer
	}
	return all
}

// fewArticles returns all lists of few articles with few lines.
func fewArticles() [][]volume.Article {
	return slices.Concat(articlesOf(1, 5), articlesOf(2, 4), articlesOf(3, 3), articlesOf(4, 2), articlesOf(5, 2))
}

// fewBooks returns all books of these, with room for at most a line more than there are.
func fewBooks() []volume.Book {
	var books []volume.Book
	for _, l := range fewArticles() {
		total := 0
		for _, a := range l {
			total += a.Most
		}
		for room := 1; room <= total+1; room++ {
			for floor := range room + 1 {
				books = append(books, volume.Book{Articles: l, Room: room, Floor: floor})
			}
		}
	}
	return books
}

// drawArticle draws an article from a list of lengths.
func drawArticle(r *rand.Rand, lengths []int) volume.Article {
	one, other := lengths[r.Intn(len(lengths))], lengths[r.Intn(len(lengths))]
	return volume.Article{Least: min(one, other), Most: max(one, other)}
}

// drawLengths draws lengths of which all articles of a book have some.
func drawLengths(r *rand.Rand) []int {
	low := 1 + r.Intn(volume.MaxLines)
	high := low + r.Intn(volume.MaxLines-low+1)
	switch r.Intn(4) {
	case 0:
		low, high = 1, volume.MaxLines
	case 1:
		return list(low, high)
	case 2:
		low, high = 1, 1+r.Intn(8)
	}
	var lengths []int
	for length := low; length <= high; length++ {
		lengths = append(lengths, length)
	}
	return lengths
}

// drawBook draws a book of so many articles, most often with room for all of them, each alone.
func drawBook(r *rand.Rand, many int) volume.Book {
	b := volume.Book{}
	lengths := drawLengths(r)
	longest, total := 0, 0
	for range many {
		a := drawArticle(r, lengths)
		b.Articles = append(b.Articles, a)
		longest = max(longest, a.Most)
		total += a.Most
	}
	switch r.Intn(6) {
	case 0:
		b.Room = 1 + r.Intn(volume.MaxRoom)
	case 1:
		b.Room = longest + r.Intn(3) - 1
	case 2:
		b.Room = (longest + total) / 2
	default:
		b.Room = longest + r.Intn(2*longest+1)
	}
	b.Room = max(1, min(volume.MaxRoom, b.Room))
	switch r.Intn(5) {
	case 0:
		b.Floor = r.Intn(2)
	case 1:
		b.Floor = r.Intn(b.Room + 1)
	default:
		b.Floor = r.Intn(b.Room/2 + 1)
	}
	return b
}

// drawBooks returns books, most of them with many articles.
func drawBooks(seed int64, many int) []volume.Book {
	r := rand.New(rand.NewSource(seed))
	var books []volume.Book
	for range many {
		books = append(books, drawBook(r, max(1+r.Intn(volume.MaxArticles), 1+r.Intn(volume.MaxArticles))))
	}
	return books
}

// drawThin returns books with cuts in two of which both volumes around the middle ones are full, and these thin: of some of them (about 6 in 100), safe cuts need more volumes than Fewest has, which is rare elsewhere.
func drawThin(seed int64, many int) []volume.Book {
	r := rand.New(rand.NewSource(seed))
	var books []volume.Book
	for range many {
		room := 6 + r.Intn(20)
		floor := 3 + r.Intn(room/2-2)
		one, other, least := floor+r.Intn(room-floor), floor+r.Intn(room-floor), 1+r.Intn(floor-2)
		b := fixed(room, floor, one, room-one, least, floor-1-least, room-other, other)
		for _, middle := range list(2, 3) {
			b.Articles[middle].Most += r.Intn(room - b.Articles[middle].Least)
		}
		for range r.Intn(4) {
			b.Articles = append(b.Articles, fixed(room, floor, 1+r.Intn(room)).Articles...)
		}
		books = append(books, b)
	}
	return books
}

// edgeBooks returns the books at the limits, and those of the examples.
func edgeBooks() []volume.Book {
	ones, longs := slices.Repeat(list(1), 12), slices.Repeat(list(30), 12)
	return []volume.Book{
		bookA(), bookB(),
		fixed(1, 0, 1), fixed(1, 1, 1), fixed(1, 0, 2), fixed(100, 100, 1), fixed(100, 0, 30), fixed(29, 0, 30), fixed(30, 30, 30),
		fixed(1, 0, ones...), fixed(1, 1, ones...), fixed(2, 2, ones...), fixed(5, 3, ones...), fixed(12, 0, ones...), fixed(100, 12, ones...), fixed(100, 13, ones...),
		fixed(100, 0, longs...), fixed(30, 30, longs...), fixed(29, 0, longs...), fixed(90, 90, longs...), fixed(60, 31, longs...),
		withArticles(volume.Book{Room: 100, Floor: 3}, slices.Repeat(articles(1, 30), 12)),
		withArticles(volume.Book{Room: 100, Floor: 4}, slices.Repeat(articles(1, 30), 12)),
	}
}

// manyBooks returns all books with few articles, and some others.
func manyBooks(seed int64) []volume.Book {
	return slices.Concat(fewBooks(), drawBooks(seed, 200), drawThin(seed, 50), edgeBooks())
}

// someCuts returns all cuts of few articles, and some of many.
func someCuts(b volume.Book) [][]int {
	all := cutsOf(b)
	var some [][]int
	for i := 0; i < len(all); i += 1 + len(all)/50 {
		some = append(some, all[i])
	}
	return append(some, all[len(all)-1])
}
