package see

import "slices"

// find is what a search over references looks for: a way, an even circle or an odd one. A type switch tells which it has found.
type find interface {
	words() []int
}

// way is different words, each of which sees the next one. (No shortest way has a word twice.)
type way []int

func (w way) words() []int { return w }

// evenCircle is a way of an even number of words whose last word sees the first one, the smallest.
type evenCircle struct{ way }

// oddCircle is the same of an odd number of words.
type oddCircle struct{ way }

// search follows references from words in ascending order, and returns all that it finds on ways of different words: those of fewer words first, and those of as many words by R6.
func (b Book) search(from ...int) []find {
	ways := []way{}
	for _, word := range from {
		ways = append(ways, way{word})
	}
	found := []find{}
	for len(ways) > 0 {
		longer := []way{}
		for _, w := range ways {
			found = append(found, w)
			if b.closes(w) {
				found = append(found, circleOf(w))
			}
			longer = append(longer, b.goOn(w)...)
		}
		ways = longer
	}
	return found
}

// goOn returns the ways that go on from a way by one word, in ascending order.
func (b Book) goOn(w way) []way {
	longer := []way{}
	for word := range b.Words {
		if b.sees(w[len(w)-1], word) && !slices.Contains(w, word) {
			longer = append(longer, append(slices.Clone(w), word))
		}
	}
	return longer
}

// closes reports whether a way is a circle. Only one that begins with its smallest word counts, so that none is found twice.
func (b Book) closes(w way) bool {
	return w[0] == slices.Min(w) && b.sees(w[len(w)-1], w[0])
}

// circleOf returns a way that closes as a circle.
func circleOf(w way) find {
	if len(w)%2 == 0 {
		return evenCircle{w}
	}
	return oddCircle{w}
}

// searchAll searches from all words.
func (b Book) searchAll() []find {
	from := []int{}
	for word := range b.Words {
		from = append(from, word)
	}
	return b.search(from...)
}
