package class_test

import (
	"slices"
	"testing"

	"headword/api"
	"headword/class"
)

func TestLimits(t *testing.T) {
	if class.MaxArticles != 8 || class.MaxDivisions != 13 {
		t.Errorf("limits %d, %d", class.MaxArticles, class.MaxDivisions)
	}
}

// long returns a list that goes on and on.
func long(number int) []int { return slices.Repeat([]int{number}, 100000) }

// wrongBooks are divisions with an error, and the error that counts.
var wrongBooks = []struct {
	b    book
	want api.Errno
}{
	{say(1), api.ErrRange},
	{say(0), api.ErrRange},
	{say(9), api.ErrRange},
	{say(-1), api.ErrRange},
	{say(1 << 62), api.ErrRange},
	{say(-1 << 63), api.ErrRange},
	{say(1, "0"), api.ErrRange},
	{book{9, make([][]int, 14)}, api.ErrRange}, // the articles come first
	{book{8, make([][]int, 14)}, api.ErrMany},  // too many come before wrong ones
	{book{8, smallSides[8][:14]}, api.ErrMany},
	{book{2, make([][]int, 100000)}, api.ErrMany},
	{book{8, make([][]int, 13)}, api.ErrEmpty},
	{say(4, ""), api.ErrEmpty},
	{say(4, "1", ""), api.ErrEmpty},
	{book{4, [][]int{{}}}, api.ErrEmpty},
	{say(4, "4"), api.ErrNone},
	{say(4, "14"), api.ErrNone},
	{say(4, "01234"), api.ErrNone}, // more than all articles
	{say(2, "2"), api.ErrNone},
	{book{4, [][]int{{-1}}}, api.ErrNone},
	{book{4, [][]int{{1, -1}}}, api.ErrNone}, // no article comes before the order
	{book{4, [][]int{{-1 << 63}}}, api.ErrNone},
	{book{4, [][]int{{1, 1 << 62}}}, api.ErrNone},
	{book{8, [][]int{long(9)}}, api.ErrNone},
	{say(4, "491"), api.ErrNone}, // the first number with an error counts
	{say(4, "219"), api.ErrOrder},
	{say(4, "10"), api.ErrOrder},
	{say(4, "11"), api.ErrOrder},
	{say(4, "00"), api.ErrOrder},
	{say(4, "0122"), api.ErrOrder},
	{say(4, "01233"), api.ErrOrder},
	{book{8, [][]int{long(0)}}, api.ErrOrder},
	{say(4, "0123"), api.ErrShape},
	{say(2, "01"), api.ErrShape},
	{say(8, "1", "01234567"), api.ErrShape},
	{say(4, "1", "023"), api.ErrTwice},
	{say(4, "023", "1"), api.ErrTwice},
	{say(4, "1", "1"), api.ErrTwice},
	{say(4, "023", "023"), api.ErrTwice},
	{say(2, "0", "1"), api.ErrTwice},
	{say(4, "1", "2", "3", "12", "03"), api.ErrTwice},
	{say(4, "0123", "1", "1"), api.ErrShape}, // the first side with an error counts
	{say(4, "1", "1", ""), api.ErrTwice},
	{say(4, "1", "", "9"), api.ErrEmpty},
	{say(4, "1", "9", ""), api.ErrNone},
	{say(4, "0", "21", "0"), api.ErrOrder},
}

// P5.1
func TestCheck(t *testing.T) {
	for _, b := range []book{
		say(2), say(2, "0"), say(2, "1"), say(8), bookA(), bookB(), bookC(), say(8, "0123456"), say(8, "1234567"),
		say(3, "1", "2", "0"), say(4, "0", "1", "01", "012", "02"), {8, smallSides[8][:13]}, {8, [][]int{}},
	} {
		if e := class.Check(b.articles, b.sides); e != api.OK {
			t.Errorf("Check of %v: %d", b, e)
		}
	}
	for _, x := range wrongBooks {
		if e := class.Check(x.b.articles, x.b.sides); e != x.want {
			t.Errorf("Check of %d %.3v: %d, want %d", x.b.articles, x.b.sides, e, x.want)
		}
	}
}

// results returns all that the functions return of a book, with arguments that are wrong as well, if it has an error.
func results(b book) ([]api.Errno, bool) {
	tidy, e1 := class.Tidy(b.articles, b.sides)
	agree, e2 := class.Agree(b.articles, b.sides, -1, 99)
	i, j, e3 := class.Why(b.articles, b.sides)
	e4 := class.Proves(b.articles, b.sides, -1, 99)
	most, e5 := class.Most(b.articles, b.sides)
	grown, e6 := class.Grow(b.articles, b.sides)
	parted, e7 := class.Parted(b.articles, b.sides, -1, 99)
	pairs, e8 := class.Pairs(b.articles, b.sides, list(9))
	full, e9 := class.Fill(b.articles, b.sides)
	isZero := len(tidy)+len(most)+len(grown.Up)+len(grown.At)+len(full) == 0 && !agree && i == 0 && j == 0 && parted == 0 && pairs == 0
	return []api.Errno{e1, e2, e3, e4, e5, e6, e7, e8, e9}, isZero
}

// P5.1, R2: the error of divisions comes before all other ones, and there is no result besides it.
func TestErrorsOfDivisions(t *testing.T) {
	for _, x := range wrongBooks {
		errors, isZero := results(x.b)
		if slices.ContainsFunc(errors, func(e api.Errno) bool { return e != x.want }) || !isZero {
			t.Errorf("%d %.3v: errors %v, want %d; results %v", x.b.articles, x.b.sides, errors, x.want, !isZero)
		}
	}
}

// P1, R3: a list without elements may be nil.
func TestNilLists(t *testing.T) {
	for articles := 2; articles <= 8; articles++ {
		one, _ := class.Fill(articles, nil)
		other, e := class.Fill(articles, [][]int{})
		if !equal(one, other) || e != api.OK {
			t.Errorf("Fill of %d articles: %v, %v %d", articles, one, other, e)
		}
	}
	for _, up := range [][]int{nil, {}} {
		if e := class.Valid(2, class.Tree{Up: up, At: list(0, 0)}); e != api.OK {
			t.Errorf("Valid of a tree without lanes: %d", e)
		}
	}
}

// R4: no argument is changed.
func TestArgumentsStay(t *testing.T) {
	for _, b := range manyBooks(4) {
		before := clone(b)
		results(b)
		four := list(0, 1, 2, 3)
		class.Check(b.articles, b.sides)
		class.Agree(b.articles, b.sides, 0, 1)
		class.Proves(b.articles, b.sides, 0, 1)
		class.Parted(b.articles, b.sides, 0, 1)
		class.Pairs(b.articles, b.sides, four)
		if !equal(b.sides, before.sides) || !slices.Equal(four, list(0, 1, 2, 3)) {
			t.Fatalf("%v is now %v, %v", before, b, four)
		}
		g, _ := class.Grow(b.articles, b.sides)
		was := class.Tree{Up: slices.Clone(g.Up), At: slices.Clone(g.At)}
		class.Valid(b.articles, g)
		class.Sides(b.articles, g)
		class.Far(b.articles, g, 0, 1)
		if !equalTrees(g, was) {
			t.Fatalf("%v is now %v", was, g)
		}
	}
}

// spoil changes all elements of lists, one list after the other, and reports whether another one changed with it.
func spoil(lists [][]int) bool {
	before := cloneLists(lists)
	for i, l := range lists {
		clear(append(l, 7))
		for j := i + 1; j < len(lists); j++ {
			if !slices.Equal(lists[j], before[j]) {
				return true
			}
		}
	}
	return false
}

// R4: results share no memory with each other, nor with arguments.
func TestOwnMemory(t *testing.T) {
	for _, b := range agreeingBooks(5) {
		before := clone(b)
		g, _ := class.Grow(b.articles, b.sides)
		grown := class.Tree{Up: slices.Clone(g.Up), At: slices.Clone(g.At)}
		for name, result := range map[string]func() [][]int{
			"Tidy":  func() [][]int { l, _ := class.Tidy(b.articles, b.sides); return l },
			"Fill":  func() [][]int { l, _ := class.Fill(b.articles, b.sides); return l },
			"Sides": func() [][]int { l, _ := class.Sides(b.articles, g); return l },
			"Most":  func() [][]int { l, _ := class.Most(b.articles, b.sides); return [][]int{l} },
			"Grow":  func() [][]int { t, _ := class.Grow(b.articles, b.sides); return [][]int{t.Up, t.At} },
		} {
			lists := result()
			want := cloneLists(lists)
			if spoil(lists) {
				t.Fatalf("lists of %s of %v share memory", name, before)
			}
			if again := result(); !equal(again, want) || !equal(b.sides, before.sides) || !equalTrees(g, grown) {
				t.Fatalf("%s of %v: %v, then %v", name, before, want, again)
			}
		}
	}
}
