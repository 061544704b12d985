package short_test

import (
	"slices"
	"testing"

	"headword/api"
	"headword/short"
)

// P1.5
func TestArchesAndMissing(t *testing.T) {
	for _, x := range []struct {
		word    string
		letters int
		ends    []int
		missing string
		e       api.Errno
	}{
		{"abcab", 3, []int{3}, "cc", api.OK},
		{"abba", 2, []int{2, 4}, "aaa", api.OK},
		{"ab", 3, nil, "c", api.OK},
		{"ab", 1, nil, "", api.ErrNone},
		{"", 1, nil, "a", api.OK},
		{"", 6, nil, "a", api.OK},
		{"aaaaaaaaaa", 1, []int{1, 2, 3, 4, 5, 6, 7, 8, 9, 10}, "aaaaaaaaaaa", api.OK},
		{"bbbba", 2, []int{5}, "aa", api.OK},
		{"aab", 2, []int{3}, "ba", api.OK},
		{"abcdefabcd", 6, []int{6}, "ee", api.OK},
		{"abcde", 6, nil, "f", api.OK},
		{"abcde", 5, []int{5}, "aa", api.OK},
		{"abcde", 4, nil, "", api.ErrNone},
		{"ab", 0, nil, "", api.ErrRange},
		{"ab", 7, nil, "", api.ErrRange},
		{"", 0, nil, "", api.ErrRange},
		{"ab", -1 << 63, nil, "", api.ErrRange},
		{"ab", 1 << 62, nil, "", api.ErrRange},
	} {
		if ends, e := short.Arches(x.word, x.letters); !slices.Equal(ends, x.ends) || e != x.e {
			t.Errorf("Arches of %q, %d: %v %d, want %v %d", x.word, x.letters, ends, e, x.ends, x.e)
		}
		if got := asText(short.Missing(x.word, x.letters)); got != (text{x.missing, x.e}) {
			t.Errorf("Missing of %q, %d: %v, want %q %d", x.word, x.letters, got, x.missing, x.e)
		}
	}
}

// P1.5, P1.10: Missing has one letter more than there are arches.
func TestArchesOfAllWords(t *testing.T) {
	sizes := [short.MaxLetters + 1]int{0, 10, 10, 7, 5, 5, 4}
	for letters := 1; letters <= short.MaxLetters; letters++ {
		for _, word := range wordsUpTo(letters, sizes[letters]) {
			ends, e := short.Arches(word, letters)
			if !slices.Equal(ends, slowArches(word, letters)) || e != api.OK {
				t.Errorf("Arches of %q, %d: %v %d", word, letters, ends, e)
			}
			want, _ := firstWord(letters, len(word)+1, func(part string) bool { return !short.Left(word, part) })
			if got := asText(short.Missing(word, letters)); got != (text{want, api.OK}) || len(got.s) != len(ends)+1 {
				t.Errorf("Missing of %q, %d: %v, want %q, with %d arches", word, letters, got, want, len(ends))
			}
		}
	}
}

// P1.10: all words of n letters are parts of a word just if it has at least n arches.
func TestArchesHoldAllWords(t *testing.T) {
	for _, word := range append(wordsOf(3, 9)[:3000], "abcabcabca", "cbaabcbca", "aabbccabc", "abcabcabc") {
		ends, _ := short.Arches(word, 3)
		for n := range 5 {
			all := true
			for _, part := range wordsOf(3, n) {
				is, _ := short.Holds(word, part)
				all = all && is
			}
			if all != (len(ends) >= n) {
				t.Errorf("%q has %d arches; all words of %d letters: %v", word, len(ends), n, all)
			}
		}
	}
}
