package short_test

import (
	"math/rand"
	"reflect"
	"slices"
	"strings"
	"testing"

	"headword/api"
	"headword/short"
)

// drawWord returns a word of so many letters, of the first letters.
func drawWord(r *rand.Rand, letters, size int) string {
	word := ""
	for range size {
		at := r.Intn(letters)
		word += alphabet[at : at+1]
	}
	return word
}

// drawWords returns words of all lengths and of few and many letters.
func drawWords(seed int64, many int) []string {
	r := rand.New(rand.NewSource(seed))
	var words []string
	for range many {
		words = append(words, drawWord(r, 1+r.Intn(short.MaxLetters), r.Intn(short.MaxWord+1)))
	}
	return words
}

// P1.9
func TestHalfAndOne(t *testing.T) {
	r := rand.New(rand.NewSource(9))
	examine := func(a, b string) {
		if part, e := short.Apart(a, b); a != b && (e != api.OK || len(part) > len(a)/2+1) {
			t.Errorf("Apart of %q, %q: %q %d", a, b, part, e)
		}
	}
	for size := range 6 {
		for _, a := range wordsOf(2, size) {
			for _, b := range wordsOf(2, size) {
				examine(a, b)
			}
		}
	}
	for range 300 {
		size, letters := r.Intn(short.MaxWord+1), 1+r.Intn(3)
		examine(drawWord(r, letters, size), drawWord(r, letters, size))
	}
	// So many letters are needed, too.
	if part, _ := short.Apart("ababababab", "bababababa"); len(part) != 6 {
		t.Errorf("Apart of ababababab and its opposite: %q", part)
	}
}

// P1.11
func TestWaysOfAllParts(t *testing.T) {
	for _, word := range drawWords(11, 200) {
		for size := range len(word) + 1 {
			parts, _ := short.Parts(word, size)
			sum := 0
			for _, part := range parts {
				ways, _ := short.Ways(word, part)
				sum += ways
			}
			if sum != choose(len(word), size) {
				t.Errorf("%q: the parts of %d letters have %d ways, want %d", word, size, sum, choose(len(word), size))
			}
		}
	}
}

// P1.12: the word of Most has as many parts as Most says.
func TestMostIsReached(t *testing.T) {
	for letters := 1; letters <= short.MaxLetters; letters++ {
		for size := range short.MaxWord + 1 {
			again := strings.Repeat(alphabet[:letters], size)[:size]
			most := asNumber(short.Most(letters, size))
			if count := asNumber(short.Count(again)); count != most {
				t.Errorf("Most of %d, %d: %v, but %q has %v", letters, size, most, again, count)
			}
		}
	}
	for _, word := range drawWords(12, 300) {
		count, _ := short.Count(word)
		if most, _ := short.Most(short.MaxLetters, len(word)); count > most {
			t.Errorf("%q has %d parts, more than %d", word, count, most)
		}
	}
}

// P1.13
func TestOpposite(t *testing.T) {
	for _, word := range drawWords(13, 60) {
		for part, places := range slowPlaces(word) {
			if got := asNumber(short.Ways(reverse(word), reverse(part))); got != (number{len(places), api.OK}) {
				t.Errorf("Ways of %q, %q: %v, want %d", reverse(word), reverse(part), got, len(places))
			}
		}
	}
}

// P1.13
func TestAlikeForAllLengths(t *testing.T) {
	words := append(wordsUpTo(2, 4), drawWords(130, 40)...)
	for _, a := range words {
		for _, b := range words {
			if got := asTruth(short.Alike(a, b, max(len(a), len(b)))); got != (truth{a == b, api.OK}) {
				t.Errorf("Alike of %q, %q: %v", a, b, got)
			}
		}
	}
}

// P1.14
func TestOtherNames(t *testing.T) {
	for _, names := range []string{"bcdefa", "fedcba", "acbedf"} {
		for _, word := range drawWords(14, 60) {
			renamed := rename(word, names)
			a, b := asNumber(short.Count(word)), asNumber(short.Count(renamed))
			if a != b {
				t.Errorf("Count of %q: %v; of %q: %v", word, a, renamed, b)
			}
			for part, places := range slowPlaces(word) {
				if got := asNumber(short.Ways(renamed, rename(part, names))); got != (number{len(places), api.OK}) {
					t.Errorf("Ways of %q, %q: %v, want %d", renamed, rename(part, names), got, len(places))
				}
			}
		}
	}
}

// P1.15: with a letter more at any place no part is lost, and there are no fewer arches.
func TestLetterMore(t *testing.T) {
	for _, word := range wordsUpTo(3, 4) {
		for at := range len(word) + 1 {
			for _, letter := range []string{"a", "b", "c"} {
				longer := word[:at] + letter + word[at:]
				for part := range slowPlaces(word) {
					if got := asTruth(short.Holds(longer, part)); got != (truth{true, api.OK}) {
						t.Errorf("Holds of %q, %q: %v", longer, part, got)
					}
				}
				before, _ := short.Arches(word, 3)
				after, _ := short.Arches(longer, 3)
				if len(after) < len(before) {
					t.Errorf("%q has %d arches, %q %d", word, len(before), longer, len(after))
				}
			}
		}
	}
}

// P1.15
func TestPartsOfParts(t *testing.T) {
	for _, word := range append(drawWords(15, 20), "abcabcabca") {
		for part := range slowPlaces(word) {
			for size := range min(len(part), 3) + 1 {
				parts, _ := short.Parts(part, size)
				for _, small := range parts {
					if !short.Left(word, small) {
						t.Errorf("%q is a part of %q, but not of %q", small, part, word)
					}
				}
			}
		}
	}
}

// callAll calls all functions and returns their results.
func callAll(a, b string, words []string, n, m int) []any {
	var results []any
	keep := func(result any, e api.Errno) { results = append(results, result, e) }
	results = append(results, short.Check(a), short.Left(a, b))
	holds, e := short.Holds(a, b)
	keep(holds, e)
	ways, e := short.Ways(a, b)
	keep(ways, e)
	first, e := short.First(a, b)
	keep(slices.Clone(first), e)
	count, e := short.Count(a)
	keep(count, e)
	parts, e := short.Parts(a, n)
	keep(slices.Clone(parts), e)
	arches, e := short.Arches(a, n)
	keep(slices.Clone(arches), e)
	missing, e := short.Missing(a, n)
	keep(missing, e)
	apart, e := short.Apart(a, b)
	keep(apart, e)
	alike, e := short.Alike(a, b, n)
	keep(alike, e)
	own, e := short.Short(words, n)
	keep(own, e)
	most, e := short.Most(n, m)
	keep(most, e)
	// A later call must not see what is done to the results of an earlier one (R4).
	scratch(first, -1)
	scratch(arches, -1)
	scratch(parts, "x")
	return results
}

func scratch[T any](list []T, x T) {
	for i := range list[:cap(list)] {
		list[:cap(list)][i] = x
	}
}

// P1, R2, R4: each function returns for all arguments, the same for equal ones, zero values besides an error; arguments stay.
func TestAllArguments(t *testing.T) {
	strs := []string{"", "a", "abca", "abcdefabcd", "ffffffffff", "abcdefabcda", "g", "A", "é", "\xff\xfe", "\x00", "a\nb", strings.Repeat("a", 5000)}
	ints := []int{-1 << 63, -1, 0, 1, 2, 3, 6, 7, 8, 10, 11, 1<<63 - 1}
	for _, a := range strs {
		for _, b := range strs {
			for i, n := range ints {
				words := []string{"ab", a, b}
				m := ints[len(ints)-1-i]
				results := callAll(a, b, words, n, m)
				if again := callAll(a, b, words, n, m); !reflect.DeepEqual(results, again) {
					t.Errorf("%.20q, %.20q, %d: %v, then %v", a, b, n, results, again)
				}
				if !slices.Equal(words, []string{"ab", a, b}) {
					t.Errorf("Short changed its words to %q", words)
				}
				examineErrors(t, results[2:])
			}
		}
	}
}

// examineErrors examines that besides each error there is a zero value.
func examineErrors(t *testing.T, results []any) {
	for i := 0; i < len(results); i += 2 {
		v := reflect.ValueOf(results[i])
		zero := v.IsZero() || v.Kind() == reflect.Slice && v.Len() == 0
		if results[i+1] != api.OK && !zero {
			t.Errorf("result %d: %v besides the error %v", i, results[i], results[i+1])
		}
	}
}
