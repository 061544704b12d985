package line_test

import (
	"math/rand"
	"slices"

	"headword/api"
	"headword/line"
)

// The functions here follow the definitions word by word, and try all ends: the tests compare the package with them.

func list(l ...int) []int { return l }

func lists(l ...[]int) [][]int { return l }

func text(width int, words ...int) line.Text { return line.Text{Width: width, Words: words} }

// The texts of the chapter's examples.
func textA() line.Text { return text(10, 3, 3, 4, 2, 5) }
func textB() line.Text { return text(6, 3, 2, 2, 5) }
func textC() line.Text { return text(6, 1, 1, 1, 1, 1, 1) }

// flat returns a text whose words are all as long.
func flat(width, many, length int) line.Text {
	return text(width, slices.Repeat(list(length), many)...)
}

// short returns the first numbers of a list, for messages.
func short(l []int) []int { return l[:min(len(l), 20)] }

// clone returns a text that shares no memory with another one.
func clone(x line.Text) line.Text { return text(x.Width, slices.Clone(x.Words)...) }

// beginning returns the first words of a text.
func beginning(x line.Text, many int) line.Text { return text(x.Width, x.Words[:many:many]...) }

// allEnds has, for each number of words, all ends, ascending; made once since they are asked for often.
var allEnds = func() (all [line.MaxWords + 1][][]int) {
	for n := 1; n < len(all); n++ {
		for set := range 1 << (n - 1) {
			var ends []int
			for end := 1; end < n; end++ {
				if set>>(end-1)&1 == 1 {
					ends = append(ends, end)
				}
			}
			all[n] = append(all[n], append(ends, n))
		}
		slices.SortFunc(all[n], slices.Compare)
	}
	return all
}()

func endsOf(x line.Text) [][]int { return allEnds[len(x.Words)] }

// slowLength returns how long a line is.
func slowLength(words []int) int {
	length := 0
	for i, letters := range words {
		if i > 0 {
			length++
		}
		length += letters
	}
	return length
}

// slowLines returns the words of each line.
func slowLines(x line.Text, ends []int) [][]int {
	lines := make([][]int, len(ends))
	for word, letters := range x.Words {
		number := 0
		for ends[number] <= word {
			number++
		}
		lines[number] = append(lines[number], letters)
	}
	return lines
}

// slowLefts returns what is left of each line, and whether all fit.
func slowLefts(x line.Text, ends []int) (lefts []int, fit bool) {
	for _, words := range slowLines(x, ends) {
		lefts = append(lefts, x.Width-slowLength(words))
	}
	return lefts, slices.Min(lefts) >= 0
}

// squares returns the sum of the squares of some numbers.
func squares(numbers []int) int {
	sum := 0
	for _, number := range numbers {
		sum += number * number
	}
	return sum
}

// slowEnds returns the error of ends.
func slowEnds(x line.Text, ends []int) api.Errno {
	n := len(x.Words)
	for i, end := range ends {
		if end < 1 || end > n {
			return api.ErrNone
		}
		if i > 0 && end <= ends[i-1] {
			return api.ErrOrder
		}
	}
	if len(ends) == 0 || ends[len(ends)-1] != n {
		return api.ErrShape
	}
	if _, fit := slowLefts(x, ends); !fit {
		return api.ErrOver
	}
	return api.OK
}

// slowFitting returns all ends that fit, ascending.
func slowFitting(x line.Text) [][]int {
	var all [][]int
	for _, ends := range endsOf(x) {
		if _, fit := slowLefts(x, ends); fit {
			all = append(all, ends)
		}
	}
	return all
}

// slowCost returns the cost of ends.
func slowCost(x line.Text, ends []int) int {
	lefts, _ := slowLefts(x, ends)
	return squares(lefts[:len(lefts)-1])
}

// slowBest returns the best ends, ascending, and what they cost.
func slowBest(x line.Text) (best [][]int, least int) {
	least = 1 << 62
	for _, ends := range slowFitting(x) {
		cost := slowCost(x, ends)
		if cost < least {
			best, least = nil, cost
		}
		if cost == least {
			best = append(best, ends)
		}
	}
	return best, least
}

// slowFull returns what Full is to return: the ends that fit with the most words in line 0, of these the ones with the most in line 1, and so on.
func slowFull(x line.Text) []int { return slices.MaxFunc(slowFitting(x), slices.Compare) }

// slowWhole returns the smallest sum of the squares of what is left of all lines of a text, the last one too, and the smallest place where the last line begins if it is so small.
func slowWhole(x line.Text) (sum, start int) {
	sum = 1 << 62
	for _, ends := range slowFitting(x) {
		lefts, _ := slowLefts(x, ends)
		last := 0
		if len(ends) > 1 {
			last = ends[len(ends)-2]
		}
		if now := squares(lefts); now < sum {
			sum, start = now, last
		} else if now == sum {
			start = min(start, last)
		}
	}
	return sum, start
}

// slowPrices returns what Prices and Starts are to return.
func slowPrices(x line.Text) (prices, starts []int) {
	prices = list(0)
	for many := 1; many <= len(x.Words); many++ {
		price, start := slowWhole(beginning(x, many))
		prices, starts = append(prices, price), append(starts, start)
	}
	return prices[:len(x.Words)], starts
}

// slowBound returns what Bound is to return.
func slowBound(x line.Text, prices []int) (int, api.Errno) {
	n := len(x.Words)
	if len(prices) != n {
		return 0, api.ErrShape
	}
	if slices.Min(prices) < 0 || slices.Max(prices) > 20000 {
		return 0, api.ErrRange
	}
	if prices[0] != 0 {
		return 0, api.ErrProof
	}
	bound := 1 << 62
	for i := range n {
		for j := i + 1; j <= n; j++ {
			left := x.Width - slowLength(x.Words[i:j])
			switch {
			case left < 0:
			case j == n:
				bound = min(bound, prices[i])
			case prices[j] > prices[i]+left*left:
				return 0, api.ErrProof
			}
		}
	}
	return bound, api.OK
}

// slowProves returns what Proves is to return.
func slowProves(x line.Text, ends, prices []int) api.Errno {
	if e := slowEnds(x, ends); e != api.OK {
		return e
	}
	bound, e := slowBound(x, prices)
	if e == api.OK && bound != slowCost(x, ends) {
		return api.ErrProof
	}
	return e
}

// longer returns a text with one word longer.
func longer(x line.Text, word, by int) line.Text {
	x = clone(x)
	x.Words[word] += by
	return x
}

// slowGrow returns what Grow is to return for ends that fit. It takes one word after the other from the end of a line to the front of the next one.
func slowGrow(x line.Text, ends []int, word, by int) (grown []int, at int, e api.Errno) {
	switch {
	case word < 0 || word >= len(x.Words):
		return nil, 0, api.ErrNone
	case by < 1 || by > 40:
		return nil, 0, api.ErrRange
	case x.Words[word]+by > x.Width:
		return nil, 0, api.ErrLost
	}
	lines := slowLines(longer(x, word, by), ends)
	for ends[at] <= word {
		at++
	}
	for slowLength(lines[at]) > x.Width {
		if at == len(lines)-1 {
			lines = append(lines, nil)
		}
		for slowLength(lines[at]) > x.Width {
			last := len(lines[at]) - 1
			lines[at+1] = slices.Insert(lines[at+1], 0, lines[at][last])
			lines[at] = lines[at][:last]
		}
		at++
	}
	place := 0
	for _, words := range lines {
		place += len(words)
		grown = append(grown, place)
	}
	return grown, at, api.OK
}

// numbersOf returns all lists of so many numbers from low to high.
func numbersOf(many, low, high int) [][]int {
	all := lists(nil)
	for range many {
		var more [][]int
		for _, l := range all {
			for number := low; number <= high; number++ {
				more = append(more, append(slices.Clone(l), number))
			}
		}
		all = more
	}
	return all
}

// fewTexts returns all texts of small widths with few words.
func fewTexts() []line.Text {
	var all []line.Text
	for width, most := range list(0, 10, 7, 5, 5, 4, 4, 3, 2, 2) {
		for many := 1; many <= most; many++ {
			for _, words := range numbersOf(many, 1, width) {
				all = append(all, text(width, words...))
			}
		}
	}
	return all
}

// drawText draws a text of so many words, most often short ones.
func drawText(r *rand.Rand, many int) line.Text {
	width := 1 + r.Intn(line.MaxWidth)
	high := 1 + r.Intn(width)
	if r.Intn(3) > 0 {
		high = 1 + r.Intn(max(1, width/3))
	}
	low := 1 + r.Intn(high)
	if r.Intn(2) == 0 {
		low = 1
	}
	x := text(width)
	for range many {
		x.Words = append(x.Words, low+r.Intn(high-low+1))
	}
	if r.Intn(4) == 0 {
		x.Words[r.Intn(many)] = 1 + r.Intn(width)
	}
	return x
}

// drawTexts draws texts, more often with many words than with few.
func drawTexts(seed int64, many int) []line.Text {
	r := rand.New(rand.NewSource(seed))
	var all []line.Text
	for range many {
		all = append(all, drawText(r, max(1+r.Intn(line.MaxWords), 1+r.Intn(line.MaxWords))))
	}
	return all
}

// longerTexts returns texts whose best ends have more lines than Full, which is rare elsewhere.
func longerTexts() []line.Text {
	return []line.Text{
		text(15, 10, 4, 3, 11, 3, 2, 10, 2), text(34, 18, 14, 7, 20, 8, 5, 25, 4), text(11, 6, 2, 5, 5, 2, 7, 2, 1, 9, 1),
		text(13, 7, 7, 5, 4, 8, 4, 1, 7, 2, 2), text(15, 8, 5, 7, 7, 5, 9, 3, 2, 10, 2),
	}
}

// tiedTexts returns texts with many best ends, which is rare elsewhere.
func tiedTexts() []line.Text {
	return []line.Text{
		text(4, 1, 2, 1, 3), text(4, 1, 1, 1, 3), text(5, 1, 1, 1, 1, 1, 1, 1, 5), text(4, 2, 2, 1, 2, 2, 2, 1, 2, 2, 2),
		text(6, 4, 2, 3, 2, 2, 2, 4, 1, 4, 4), text(7, 4, 1, 4, 4, 1, 4, 3, 2, 3, 4),
	}
}

// near returns texts, and those in which one word is a letter longer or shorter.
func near(texts []line.Text) []line.Text {
	var all []line.Text
	for _, x := range texts {
		all = append(all, x)
		for word, length := range x.Words {
			if length > 1 {
				all = append(all, longer(x, word, -1))
			}
			if length < x.Width {
				all = append(all, longer(x, word, 1))
			}
		}
	}
	return all
}

// edgeTexts returns the texts at the limits, and those of the examples.
func edgeTexts() []line.Text {
	return []line.Text{
		textA(), textB(), textC(),
		text(1, 1), text(40, 40), text(40, 1), text(40, 39), text(40, 40, 1, 40), text(40, 1, 40, 1), text(2, 1, 1), text(3, 1, 1),
		flat(1, 10, 1), flat(2, 10, 1), flat(3, 10, 1), flat(40, 10, 1), flat(40, 10, 40), flat(40, 10, 39), flat(40, 10, 20), flat(40, 10, 21), flat(40, 10, 19),
		flat(18, 10, 1), flat(19, 10, 1), flat(20, 10, 1), flat(40, 10, 3), flat(40, 10, 4), flat(39, 10, 3), flat(38, 10, 3),
		text(40, 1, 39, 1, 39, 1, 39, 1, 39, 1, 39), text(40, 1, 38, 1, 38, 1, 38, 1, 38, 1, 38), text(40, 40, 1, 1, 1, 1, 1, 1, 1, 1, 40),
		text(10, 1, 2, 3, 4, 5, 6, 7, 8, 9, 10), text(10, 10, 9, 8, 7, 6, 5, 4, 3, 2, 1), text(40, 1, 1, 1, 1, 1, 1, 1, 1, 1, 40), text(40, 40, 1, 1, 1, 1, 1, 1, 1, 1, 1),
	}
}

// manyTexts returns all texts with few words, and some others.
func manyTexts(seed int64) []line.Text {
	return slices.Concat(fewTexts(), drawTexts(seed, 400), edgeTexts(), near(longerTexts()), near(tiedTexts()))
}

// someTexts returns some of the texts with few words, drawn ones and those at the limits.
func someTexts(seed int64, many int) []line.Text {
	var some []line.Text
	for i, x := range fewTexts() {
		if i%7 == 0 {
			some = append(some, x)
		}
	}
	return slices.Concat(some, drawTexts(seed, many), edgeTexts(), longerTexts(), tiedTexts())
}
