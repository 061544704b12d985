package clerk

import (
	"cmp"
	"maps"
	"slices"
)

// book is what is known from the lines.
type book struct {
	entries  map[string]Entry   // by headwords
	accounts map[string]Account // by subscribers
	volumes  []Volume           // without their words and lines, which the entries tell
}

func newBook() book {
	return book{entries: map[string]Entry{}, accounts: map[string]Account{}}
}

// isClosed reports whether a word, or a letter, is closed.
func (b *book) isClosed(word string) bool {
	// Each volume closes at a later letter than the one before it.
	last := len(b.volumes) - 1
	return last >= 0 && word[:1] <= b.volumes[last].Letter
}

// sorted returns all entries in the order of their headwords.
func (b *book) sorted() []Entry {
	return slices.SortedFunc(maps.Values(b.entries), func(x, y Entry) int { return cmp.Compare(x.Word, y.Word) })
}

// way returns a headword, and those to which one refers on from it.
func (b *book) way(word string) []string {
	way := []string{}
	// Words never refer on in a circle: a line that would close one is refused.
	for word != "" {
		way = append(way, word)
		word = b.entries[word].See
	}
	return way
}
