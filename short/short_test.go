package short_test

import (
	"slices"
	"strings"
	"testing"

	"headword/api"
	"headword/short"
)

func TestLimits(t *testing.T) {
	if short.MaxWord != 10 || short.MaxLetters != 6 || short.MaxWords != 8 {
		t.Errorf("limits %d, %d, %d", short.MaxWord, short.MaxLetters, short.MaxWords)
	}
}

// P1.1
func TestCheck(t *testing.T) {
	for _, x := range []struct {
		word string
		want api.Errno
	}{
		{"", api.OK},
		{"a", api.OK},
		{"f", api.OK},
		{"abcdefabcd", api.OK},
		{"abcdefabcda", api.ErrLong},
		{strings.Repeat("a", 100000), api.ErrLong},
		{"abg", api.ErrForm},
		{"gab", api.ErrForm},
		{"A", api.ErrForm},
		{"`", api.ErrForm},
		{"a b", api.ErrForm},
		{"é", api.ErrForm},
		{"\x00", api.ErrForm},
		{"\xff", api.ErrForm},
		{"abcdefabc\n", api.ErrForm},
		{"ggggggggggg", api.ErrLong}, // too long comes before wrong letters
		{"éééééé", api.ErrLong},      // six characters, twelve bytes
		{"ééééé", api.ErrForm},
	} {
		if e := short.Check(x.word); e != x.want {
			t.Errorf("Check of %q: %d, want %d", x.word, e, x.want)
		}
	}
}

// P1.1: the error of a word comes before all other ones, that of the first word before that of the second one.
func TestErrorsOfWords(t *testing.T) {
	const long, form = "aaaaaaaaaaa", "x"
	for _, x := range []struct {
		a, b string
		want api.Errno
	}{
		{long, "a", api.ErrLong},
		{form, "a", api.ErrForm},
		{"a", long, api.ErrLong},
		{"a", form, api.ErrForm},
		{long, form, api.ErrLong},
		{form, long, api.ErrForm},
	} {
		for name, e := range map[string]api.Errno{
			"Holds": errorOf(short.Holds(x.a, x.b)),
			"Ways":  errorOf(short.Ways(x.a, x.b)),
			"First": errorOf(short.First(x.a, x.b)),
			"Apart": errorOf(short.Apart(x.a, x.b)),
			"Alike": errorOf(short.Alike(x.a, x.b, -1)),
			"Short": errorOf(short.Short([]string{x.a, x.b}, 7)),
		} {
			if e != x.want {
				t.Errorf("%s of %q, %q: %d, want %d", name, x.a, x.b, e, x.want)
			}
		}
	}
	for word, want := range map[string]api.Errno{long: api.ErrLong, form: api.ErrForm} {
		for name, e := range map[string]api.Errno{
			"Count":   errorOf(short.Count(word)),
			"Parts":   errorOf(short.Parts(word, -1)),
			"Arches":  errorOf(short.Arches(word, 0)),
			"Missing": errorOf(short.Missing(word, 0)),
		} {
			if e != want {
				t.Errorf("%s of %q: %d, want %d", name, word, e, want)
			}
		}
	}
}

// P1.2
func TestLeft(t *testing.T) {
	long := strings.Repeat("xy", 100000)
	for _, x := range []struct {
		word, part string
		want       bool
	}{
		{"day-book", "ybk", true},
		{"day-book", "kb", false},
		{"", "", true},
		{"", "a", false},
		{"a", "", true},
		{"a", "a", true},
		{"a", "aa", false},
		{"ab", "ba", false},
		{"Aa", "a", true},
		{"é", "\xa9", true}, // a byte of a character is left
		{"\xff", "\ufffd", false},
		{"\ufffd", "\xff", false},
		{"\xff", "\xfe", false},
		{"\x00\xff\x00", "\x00\x00", true},
		{long, long[1:], true},
		{long, strings.Repeat("y", 100000), true},
		{long, strings.Repeat("y", 100001), false},
	} {
		if is := short.Left(x.word, x.part); is != x.want {
			t.Errorf("Left of %.20q, %.20q: %v", x.word, x.part, is)
		}
	}
}

// P1.2
func TestHolds(t *testing.T) {
	for _, x := range []struct {
		word, part string
		want       truth
	}{
		{"abca", "ba", truth{true, api.OK}},
		{"abca", "cb", truth{false, api.OK}},
		{"abca", "", truth{true, api.OK}},
		{"abca", "abca", truth{true, api.OK}},
		{"abca", "abcaa", truth{false, api.OK}},
		{"", "", truth{true, api.OK}},
		{"day-book", "d", truth{false, api.ErrForm}},
	} {
		if got := asTruth(short.Holds(x.word, x.part)); got != x.want {
			t.Errorf("Holds of %q, %q: %v, want %v", x.word, x.part, got, x.want)
		}
	}
}

// P1.3
func TestWaysAndFirst(t *testing.T) {
	for _, x := range []struct {
		word, part string
		ways       int
		first      []int
	}{
		{"abca", "a", 2, []int{0}},
		{"abca", "aa", 1, []int{0, 3}},
		{"abca", "", 1, nil},
		{"abca", "cc", 0, nil},
		{"abca", "ca", 1, []int{2, 3}},
		{"abca", "bb", 0, nil},
		{"", "", 1, nil},
		{"", "a", 0, nil},
		{"a", "aa", 0, nil},
		{"aaaaaaaaaa", "aaaaa", 252, []int{0, 1, 2, 3, 4}},
		{"bbabab", "ab", 3, []int{2, 3}},
	} {
		if got := asNumber(short.Ways(x.word, x.part)); got != (number{x.ways, api.OK}) {
			t.Errorf("Ways of %q, %q: %v, want %d", x.word, x.part, got, x.ways)
		}
		want := api.OK
		if x.ways == 0 {
			want = api.ErrLost
		}
		if places, e := short.First(x.word, x.part); !slices.Equal(places, x.first) || e != want {
			t.Errorf("First of %q, %q: %v %d, want %v %d", x.word, x.part, places, e, x.first, want)
		}
	}
}

// P1.2, P1.3: against all lists of indices of all short words.
func TestPlacesOfAllWords(t *testing.T) {
	parts := wordsUpTo(3, 4)
	for _, word := range wordsUpTo(3, 5) {
		all := slowPlaces(word)
		for _, part := range parts {
			places := all[part]
			if got := asTruth(short.Holds(word, part)); got != (truth{len(places) > 0, api.OK}) {
				t.Errorf("Holds of %q, %q: %v", word, part, got)
			}
			if got := asNumber(short.Ways(word, part)); got != (number{len(places), api.OK}) {
				t.Errorf("Ways of %q, %q: %v", word, part, got)
			}
			first, e := short.First(word, part)
			if len(places) == 0 {
				if len(first) != 0 || e != api.ErrLost {
					t.Errorf("First of %q, %q: %v %d", word, part, first, e)
				}
			} else if want := slices.MinFunc(places, slices.Compare); !slices.Equal(first, want) || e != api.OK {
				t.Errorf("First of %q, %q: %v %d, want %v", word, part, first, e, want)
			}
		}
	}
}
