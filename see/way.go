package see

import (
	"slices"

	"headword/api"
)

// Way returns the first shortest way to an article.
func Way(b Book, articles []int, word int) ([]int, api.Errno) {
	if e := Check(b); e != api.OK {
		return nil, e
	}
	if len(articles) == 0 {
		return nil, api.ErrEmpty
	}
	if e := b.checkSet(articles); e != api.OK {
		return nil, e
	}
	if !b.hasWord(word) {
		return nil, api.ErrNone
	}
	for _, f := range b.search(word) {
		switch f := f.(type) {
		case way:
			if slices.Contains(articles, f[len(f)-1]) {
				return f.words(), api.OK
			}
		}
	}
	return nil, api.ErrLost
}

// Numbers returns the numbers of words.
func Numbers(b Book) ([]int, api.Errno) {
	if e := Check(b); e != api.OK {
		return nil, e
	}
	if len(b.circles()) > 0 {
		return nil, api.ErrClash
	}
	numbers := make([]int, b.Words)
	// Each round makes the numbers right of all words that see only words whose numbers are right. No way has more words than the book, so these are enough rounds.
	for range b.Words {
		for word := range b.Words {
			numbers[word] = b.numberOf(word, numbers)
		}
	}
	return numbers, api.OK
}

// numberOf returns the smallest number that none of the words has that a word sees.
func (b Book) numberOf(word int, numbers []int) int {
	taken := []int{}
	for _, ref := range b.Refs {
		if ref[0] == word {
			taken = append(taken, numbers[ref[1]])
		}
	}
	number := 0
	for slices.Contains(taken, number) {
		number++
	}
	return number
}
