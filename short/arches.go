package short

import (
	"strings"

	"headword/api"
)

// checkLetters returns the error of a word of the first letters.
func checkLetters(word string, letters int) api.Errno {
	if e := Check(word); e != api.OK {
		return e
	}
	if letters < 1 || letters > MaxLetters {
		return api.ErrRange
	}
	for _, letter := range word {
		if !strings.ContainsRune(alphabet[:letters], letter) {
			return api.ErrNone
		}
	}
	return api.OK
}

// Arches returns where the arches of a word end.
func Arches(word string, letters int) ([]int, api.Errno) {
	if e := checkLetters(word, letters); e != api.OK {
		return nil, e
	}
	ends := []int{}
	occurred := map[rune]bool{}
	for i, letter := range word {
		occurred[letter] = true
		if len(occurred) == letters {
			ends = append(ends, i+1)
			clear(occurred)
		}
	}
	return ends, api.OK
}

// Missing returns the first of the shortest words that are no parts.
func Missing(word string, letters int) (string, api.Errno) {
	if e := checkLetters(word, letters); e != api.OK {
		return "", e
	}
	// missing[i] is the result for what the word has from index i on.
	missing := make([]string, len(word)+1)
	for i := len(word); i >= 0; i-- {
		missing[i] = firstMissing(word[i:], missing[i:], letters)
	}
	return missing[0], api.OK
}

// firstMissing returns the first of the shortest words that are no parts of a rest of a word; missing has the results for the rests behind its letters.
func firstMissing(rest string, missing []string, letters int) string {
	first := ""
	for _, letter := range alphabet[:letters] {
		word := string(letter)
		if at := strings.IndexRune(rest, letter); at >= 0 {
			// The first such letter leaves the most behind it.
			word += missing[at+1]
		}
		if first == "" || shortestFirst(word, first) < 0 {
			first = word
		}
	}
	return first
}
