// Package short is layer 1: what is left of a word when letters are taken out. See shared/doc/01-short.md.
package short

import "headword/api"

// The limits.
const (
	MaxWord    = 10
	MaxLetters = 6
	MaxWords   = 8
)

// alphabet is the letters of all words, in their order.
const alphabet = "abcdef"

// Check returns the error of a word.
func Check(word string) api.Errno {
	if len(word) > MaxWord {
		return api.ErrLong
	}
	for _, letter := range word {
		if letter < 'a' || letter > 'f' {
			return api.ErrForm
		}
	}
	return api.OK
}

// checkAll returns the error of the first word that has one.
func checkAll(words ...string) api.Errno {
	for _, word := range words {
		if e := Check(word); e != api.OK {
			return e
		}
	}
	return api.OK
}

// Left reports whether a string is left of another one.
func Left(word, part string) bool {
	found := 0
	// Any strings may come here, so bytes are compared: a range over a string would take all torn characters for the same.
	for i := 0; i < len(word) && found < len(part); i++ {
		if word[i] == part[found] {
			found++
		}
	}
	return found == len(part)
}

// Holds reports whether a word has a part.
func Holds(word, part string) (bool, api.Errno) {
	if e := checkAll(word, part); e != api.OK {
		return false, e
	}
	return Left(word, part), api.OK
}

// Ways returns how many places a part has.
func Ways(word, part string) (int, api.Errno) {
	if e := checkAll(word, part); e != api.OK {
		return 0, e
	}
	// counts[n] is how many places the first n letters of the part have in what was read of the word.
	counts := make([]int, len(part)+1)
	counts[0] = 1
	for _, letter := range word {
		// From the end on, so that no letter of the word is taken twice.
		for n := len(part); n > 0; n-- {
			if rune(part[n-1]) == letter {
				counts[n] += counts[n-1]
			}
		}
	}
	return counts[len(part)], api.OK
}

// First returns the first places of a part.
func First(word, part string) ([]int, api.Errno) {
	if e := checkAll(word, part); e != api.OK {
		return nil, e
	}
	places := []int{}
	for i, letter := range word {
		if len(places) < len(part) && rune(part[len(places)]) == letter {
			places = append(places, i)
		}
	}
	if len(places) < len(part) {
		return nil, api.ErrLost
	}
	return places, api.OK
}
