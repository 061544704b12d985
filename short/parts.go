package short

import (
	"cmp"
	"maps"
	"slices"
	"strings"

	"headword/api"
)

// addParts collects all different parts of a word.
func addParts(all map[string]bool, word string) {
	parts := map[string]bool{"": true}
	for _, letter := range word {
		// Collected before they are made longer: a map must not grow while it is ranged over.
		shorter := slices.Collect(maps.Keys(parts))
		for _, part := range shorter {
			parts[part+string(letter)] = true
		}
	}
	maps.Copy(all, parts)
}

// shortestFirst compares words by how many letters they have, and words of as many letters by R6.
func shortestFirst(a, b string) int {
	return cmp.Or(cmp.Compare(len(a), len(b)), strings.Compare(a, b))
}

// partsOf returns all different parts of some words, the shortest ones first.
func partsOf(words ...string) []string {
	all := map[string]bool{}
	for _, word := range words {
		addParts(all, word)
	}
	return slices.SortedFunc(maps.Keys(all), shortestFirst)
}

// Count returns how many different parts a word has.
func Count(word string) (int, api.Errno) {
	if e := Check(word); e != api.OK {
		return 0, e
	}
	return len(partsOf(word)), api.OK
}

// Parts returns all parts of so many letters.
func Parts(word string, size int) ([]string, api.Errno) {
	if e := Check(word); e != api.OK {
		return nil, e
	}
	if size < 0 || size > len(word) {
		return nil, api.ErrRange
	}
	parts := []string{}
	for _, part := range partsOf(word) {
		if len(part) == size {
			parts = append(parts, part)
		}
	}
	return parts, api.OK
}

// Apart returns the first of the shortest words that tell two words apart.
func Apart(a, b string) (string, api.Errno) {
	if e := checkAll(a, b); e != api.OK {
		return "", e
	}
	for _, part := range partsOf(a, b) {
		if Left(a, part) != Left(b, part) {
			return part, api.OK
		}
	}
	// Of two different words, one that is not shorter is no part of the other: so these are the same.
	return "", api.ErrClash
}

// Alike reports whether two words have the same parts of at most so many letters.
func Alike(a, b string, most int) (bool, api.Errno) {
	if e := checkAll(a, b); e != api.OK {
		return false, e
	}
	if most < 0 || most > MaxWord {
		return false, api.ErrRange
	}
	part, e := Apart(a, b)
	return e == api.ErrClash || len(part) > most, api.OK
}

// Short returns the shortest part of a word that no other one has.
func Short(words []string, k int) (string, api.Errno) {
	if len(words) > MaxWords {
		return "", api.ErrMany
	}
	if e := checkAll(words...); e != api.OK {
		return "", e
	}
	if k < 0 || k >= len(words) {
		return "", api.ErrNone
	}
	for _, part := range partsOf(words[k]) {
		if !leftOfOthers(words, k, part) {
			return part, api.OK
		}
	}
	// The last part is the word itself.
	return "", api.ErrLost
}

// leftOfOthers reports whether a part is left of one of the words other than word k.
func leftOfOthers(words []string, k int, part string) bool {
	for i, word := range words {
		if i != k && Left(word, part) {
			return true
		}
	}
	return false
}

// Most returns the greatest number of parts that a word has.
func Most(letters, size int) (int, api.Errno) {
	if letters < 1 || letters > MaxLetters || size < 0 || size > MaxWord {
		return 0, api.ErrRange
	}
	// P1.12: no word has more parts than the one in which the letters come again and again.
	word := strings.Repeat(alphabet[:letters], MaxWord)[:size]
	return Count(word)
}
