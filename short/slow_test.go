package short_test

import (
	"slices"
	"strings"

	"headword/api"
)

// The functions here follow the definitions word by word, without regard to time: the tests compare the package with them.

const alphabet = "abcdef"

// number holds a result and its error, so that both are compared at once.
type number struct {
	n int
	e api.Errno
}

// text holds a result and its error.
type text struct {
	s string
	e api.Errno
}

// truth holds a result and its error.
type truth struct {
	is bool
	e  api.Errno
}

func asNumber(n int, e api.Errno) number        { return number{n, e} }
func asText(s string, e api.Errno) text         { return text{s, e} }
func asTruth(is bool, e api.Errno) truth        { return truth{is, e} }
func errorOf[T any](_ T, e api.Errno) api.Errno { return e }

// take returns the letters of a word at the indices that a mask has.
func take(word string, mask int) (part string, places []int) {
	for i := range len(word) {
		if mask>>i&1 == 1 {
			part += word[i : i+1]
			places = append(places, i)
		}
	}
	return part, places
}

// slowPlaces returns all places of each part of a word.
func slowPlaces(word string) map[string][][]int {
	all := map[string][][]int{}
	for mask := range 1 << len(word) {
		part, places := take(word, mask)
		all[part] = append(all[part], places)
	}
	return all
}

// slowParts returns all parts of a word with so many letters, ascending.
func slowParts(word string, size int) []string {
	var parts []string
	for part := range slowPlaces(word) {
		if len(part) == size {
			parts = append(parts, part)
		}
	}
	slices.Sort(parts)
	return parts
}

// slowArches returns the ends of arches: of each, the first one behind which all letters have occurred.
func slowArches(word string, letters int) []int {
	var ends []int
	begin := 0
	for end := 0; end <= len(word); end++ {
		if hasAll(word[begin:end], letters) {
			ends = append(ends, end)
			begin = end
		}
	}
	return ends
}

func hasAll(word string, letters int) bool {
	for _, letter := range alphabet[:letters] {
		if !strings.ContainsRune(word, letter) {
			return false
		}
	}
	return true
}

// wordsOf returns all words of so many letters, of the first letters, ascending.
func wordsOf(letters, size int) []string {
	words := []string{""}
	for range size {
		var longer []string
		for _, word := range words {
			for _, letter := range alphabet[:letters] {
				longer = append(longer, word+string(letter))
			}
		}
		words = longer
	}
	return words
}

// wordsUpTo returns all words of at most so many letters, the shortest ones first, and those of as many letters ascending.
func wordsUpTo(letters, most int) []string {
	var words []string
	for size := range most + 1 {
		words = append(words, wordsOf(letters, size)...)
	}
	return words
}

// firstWord returns the first word of all words of the first letters, the shortest ones first, for which a test is true.
func firstWord(letters, most int, test func(word string) bool) (string, bool) {
	for size := range most + 1 {
		for _, word := range wordsOf(letters, size) {
			if test(word) {
				return word, true
			}
		}
	}
	return "", false
}

// choose returns how many lists of n of so many indices there are.
func choose(of, n int) int {
	if n < 0 || n > of {
		return 0
	}
	result := 1
	for i := range n {
		result = result * (of - i) / (i + 1)
	}
	return result
}

func reverse(word string) string {
	bytes := []byte(word)
	slices.Reverse(bytes)
	return string(bytes)
}

// rename gives each letter another name: the one at its place in names.
func rename(word, names string) string {
	renamed := ""
	for i := range len(word) {
		renamed += names[word[i]-'a' : word[i]-'a'+1]
	}
	return renamed
}
