package short_test

import (
	"slices"
	"testing"

	"headword/api"
	"headword/short"
)

// P1.4
func TestCount(t *testing.T) {
	for word, want := range map[string]int{"": 1, "a": 2, "aba": 7, "aaa": 4, "abca": 15, "abcdef": 64, "aaaaaaaaaa": 11, "ababababab": 232} {
		if got := asNumber(short.Count(word)); got != (number{want, api.OK}) {
			t.Errorf("Count of %q: %v, want %d", word, got, want)
		}
	}
}

// P1.4
func TestParts(t *testing.T) {
	for _, x := range []struct {
		word string
		size int
		want []string
		e    api.Errno
	}{
		{"abca", 2, []string{"aa", "ab", "ac", "ba", "bc", "ca"}, api.OK},
		{"aa", 1, []string{"a"}, api.OK},
		{"aa", 3, nil, api.ErrRange},
		{"aa", 2, []string{"aa"}, api.OK},
		{"aa", 0, []string{""}, api.OK},
		{"aa", -1, nil, api.ErrRange},
		{"", 0, []string{""}, api.OK},
		{"", 1, nil, api.ErrRange},
		{"cba", 1, []string{"a", "b", "c"}, api.OK},
		{"cba", 1 << 62, nil, api.ErrRange},
		{"cba", -1 << 63, nil, api.ErrRange},
	} {
		if parts, e := short.Parts(x.word, x.size); !slices.Equal(parts, x.want) || e != x.e {
			t.Errorf("Parts of %q, %d: %q %d, want %q %d", x.word, x.size, parts, e, x.want, x.e)
		}
	}
}

// P1.4
func TestPartsOfAllWords(t *testing.T) {
	for _, word := range wordsUpTo(3, 6) {
		if got, want := asNumber(short.Count(word)), len(slowPlaces(word)); got != (number{want, api.OK}) {
			t.Errorf("Count of %q: %v, want %d", word, got, want)
		}
		for size := range len(word) + 1 {
			if parts, e := short.Parts(word, size); !slices.Equal(parts, slowParts(word, size)) || e != api.OK {
				t.Errorf("Parts of %q, %d: %q %d", word, size, parts, e)
			}
		}
	}
}

// P1.6
func TestApart(t *testing.T) {
	for _, x := range []struct {
		a, b string
		want text
	}{
		{"ab", "ba", text{"ab", api.OK}},
		{"aab", "ab", text{"aa", api.OK}},
		{"a", "b", text{"a", api.OK}},
		{"b", "a", text{"a", api.OK}},
		{"a", "a", text{"", api.ErrClash}},
		{"", "", text{"", api.ErrClash}},
		{"", "f", text{"f", api.OK}},
		{"aaaaaaaaaa", "aaaaaaaaa", text{"aaaaaaaaaa", api.OK}},
	} {
		if got := asText(short.Apart(x.a, x.b)); got != x.want {
			t.Errorf("Apart of %q, %q: %v, want %v", x.a, x.b, got, x.want)
		}
	}
}

// P1.6
func TestAlike(t *testing.T) {
	for _, x := range []struct {
		a, b string
		most int
		want truth
	}{
		{"ab", "ba", 0, truth{true, api.OK}},
		{"ab", "ba", 1, truth{true, api.OK}},
		{"ab", "ba", 2, truth{false, api.OK}},
		{"ab", "ba", 10, truth{false, api.OK}},
		{"ab", "ba", 11, truth{false, api.ErrRange}},
		{"ab", "ba", -1, truth{false, api.ErrRange}},
		{"ab", "ab", 10, truth{true, api.OK}},
		{"ab", "ab", 11, truth{false, api.ErrRange}},
		{"ab", "ab", -1 << 63, truth{false, api.ErrRange}},
		{"", "", 10, truth{true, api.OK}},
	} {
		if got := asTruth(short.Alike(x.a, x.b, x.most)); got != x.want {
			t.Errorf("Alike of %q, %q, %d: %v, want %v", x.a, x.b, x.most, got, x.want)
		}
	}
}

// P1.6
func TestApartOfAllWords(t *testing.T) {
	words := wordsUpTo(3, 4)
	for _, a := range words {
		for _, b := range words {
			want, found := firstWord(3, 4, func(word string) bool { return short.Left(a, word) != short.Left(b, word) })
			e := api.OK
			if !found {
				e = api.ErrClash
			}
			if got := asText(short.Apart(a, b)); got != (text{want, e}) {
				t.Errorf("Apart of %q, %q: %v, want %q", a, b, got, want)
			}
			for most := range short.MaxWord + 1 {
				if got := asTruth(short.Alike(a, b, most)); got != (truth{!found || len(want) > most, api.OK}) {
					t.Errorf("Alike of %q, %q, %d: %v", a, b, most, got)
				}
			}
		}
	}
}

// P1.7
func TestShort(t *testing.T) {
	three := []string{"abc", "abd", "bcd"}
	for _, x := range []struct {
		words []string
		k     int
		want  text
	}{
		{three, 0, text{"ac", api.OK}},
		{three, 1, text{"ad", api.OK}},
		{three, 2, text{"cd", api.OK}},
		{three, 3, text{"", api.ErrNone}},
		{three, -1, text{"", api.ErrNone}},
		{nil, 0, text{"", api.ErrNone}},
		{[]string{"ab", "cab"}, 0, text{"", api.ErrLost}},
		{[]string{"ab", "cab"}, 1, text{"c", api.OK}},
		{[]string{"ab", "ab"}, 0, text{"", api.ErrLost}},
		{[]string{"ab", "ab"}, 1, text{"", api.ErrLost}},
		{[]string{"ab"}, 0, text{"", api.OK}}, // without other words, the empty one is enough
		{[]string{"a", ""}, 0, text{"a", api.OK}},
		{[]string{"", "a"}, 0, text{"", api.ErrLost}},
		{make([]string, 8), 0, text{"", api.ErrLost}},
		{make([]string, 9), 0, text{"", api.ErrMany}},
		{[]string{"x", "", "", "", "", "", "", "", ""}, 9, text{"", api.ErrMany}},
		{[]string{"a", "x", "aaaaaaaaaaa"}, 3, text{"", api.ErrForm}},
		{[]string{"a", "aaaaaaaaaaa", "x"}, 3, text{"", api.ErrLong}},
	} {
		if got := asText(short.Short(x.words, x.k)); got != x.want {
			t.Errorf("Short of %q, %d: %v, want %v", x.words, x.k, got, x.want)
		}
	}
}

// P1.7
func TestShortOfAllWords(t *testing.T) {
	words := wordsUpTo(2, 4)
	for _, a := range words {
		for _, b := range words {
			for _, c := range words {
				own := func(word string) bool {
					return short.Left(b, word) && !short.Left(a, word) && !short.Left(c, word)
				}
				want, found := firstWord(2, len(b), own)
				e := api.OK
				if !found {
					e = api.ErrLost
				}
				if got := asText(short.Short([]string{a, b, c}, 1)); got != (text{want, e}) {
					t.Errorf("Short of %q, %q, %q, 1: %v, want %q", a, b, c, got, want)
				}
			}
		}
	}
}

// P1.8
func TestMost(t *testing.T) {
	for _, x := range []struct {
		letters, size int
		want          number
	}{
		{2, 3, number{7, api.OK}},
		{1, 3, number{4, api.OK}},
		{3, 3, number{8, api.OK}},
		{2, 0, number{1, api.OK}},
		{6, 0, number{1, api.OK}},
		{1, 10, number{11, api.OK}},
		{2, 10, number{232, api.OK}},
		{2, 11, number{0, api.ErrRange}},
		{2, -1, number{0, api.ErrRange}},
		{0, 3, number{0, api.ErrRange}},
		{7, 3, number{0, api.ErrRange}},
		{-1 << 63, 1 << 62, number{0, api.ErrRange}},
	} {
		if got := asNumber(short.Most(x.letters, x.size)); got != x.want {
			t.Errorf("Most of %d, %d: %v, want %v", x.letters, x.size, got, x.want)
		}
	}
}

// countFast counts the parts of a word without listing them, so that all words of 10 letters can be examined.
func countFast(word string) int {
	count := 1
	var ending ['f' + 1]int // how many parts end in a letter
	for i := range len(word) {
		added := count - ending[word[i]]
		ending[word[i]] = count
		count += added
	}
	return count
}

// P1.8, P1.12: no word of so many letters has more parts, and one has so many.
func TestMostOfAllWords(t *testing.T) {
	sizes := [short.MaxLetters + 1]int{0, 10, 10, 10, 8, 7, 6}
	for letters := 1; letters <= short.MaxLetters; letters++ {
		for size := range sizes[letters] + 1 {
			want := 0
			for _, word := range wordsOf(letters, size) {
				want = max(want, countFast(word))
			}
			if got := asNumber(short.Most(letters, size)); got != (number{want, api.OK}) {
				t.Errorf("Most of %d, %d: %v, want %d", letters, size, got, want)
			}
		}
	}
}
