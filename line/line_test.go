package line_test

import (
	"slices"
	"testing"

	"headword/api"
	"headword/line"
)

func TestLimits(t *testing.T) {
	if line.MaxWidth != 40 || line.MaxWords != 10 || line.MaxCost != 20000 {
		t.Errorf("limits %d, %d, %d", line.MaxWidth, line.MaxWords, line.MaxCost)
	}
}

// wrongTexts are texts with an error, and the error that counts.
var wrongTexts = []struct {
	line.Text
	want api.Errno
}{
	{line.Text{}, api.ErrRange}, // no words, too
	{text(0, 1), api.ErrRange},
	{text(41, 1), api.ErrRange},
	{text(-1, 1), api.ErrRange},
	{text(1<<63-1, 1), api.ErrRange},
	{text(-1<<63, 1), api.ErrRange},
	{text(41, 41), api.ErrRange},
	{text(41), api.ErrRange}, // the width comes before the words
	{text(0), api.ErrRange},
	{flat(0, 11, 1), api.ErrRange},
	{flat(41, 11, 0), api.ErrRange},
	{text(5), api.ErrEmpty},
	{text(40), api.ErrEmpty},
	{line.Text{Width: 5, Words: []int{}}, api.ErrEmpty},
	{flat(3, 11, 1), api.ErrMany},
	{flat(3, 11, 0), api.ErrMany}, // too many come before wrong ones
	{flat(3, 11, 4), api.ErrMany},
	{flat(40, 100000, 1), api.ErrMany},
	{text(3, 4), api.ErrRange},
	{text(3, 0), api.ErrRange},
	{text(3, -1), api.ErrRange},
	{text(1, 2), api.ErrRange},
	{text(40, 41), api.ErrRange},
	{text(3, 1, 0), api.ErrRange},
	{text(3, 1, 4), api.ErrRange},
	{text(3, 4, 1), api.ErrRange},
	{text(3, 1, 2, 4, 1), api.ErrRange},
	{text(3, 1<<63-1), api.ErrRange},
	{text(3, -1<<63), api.ErrRange},
	{text(40, 1<<63-1, 1<<63-1), api.ErrRange},
	{text(40, 1, 1, 1, 1, 1, 1, 1, 1, 1, 41), api.ErrRange},
	{text(40, 1, 1, 1, 1, 1, 1, 1, 1, 1, 0), api.ErrRange},
	{flat(39, 10, 40), api.ErrRange},
}

// P13.1
func TestCheck(t *testing.T) {
	for _, x := range manyTexts(1) {
		if e := line.Check(x); e != api.OK {
			t.Errorf("Check of %v: %d", x, e)
		}
	}
	for _, x := range wrongTexts {
		if e := line.Check(x.Text); e != x.want {
			t.Errorf("Check of %d, %v: %d, want %d", x.Width, short(x.Words), e, x.want)
		}
	}
}

// P13.1
func TestCheckOfAllLengths(t *testing.T) {
	for width := -3; width < 45; width++ {
		for length := -3; length < 45; length++ {
			want := api.OK
			if width < 1 || width > 40 || length < 1 || length > width {
				want = api.ErrRange
			}
			for _, x := range []line.Text{text(width, length), text(width, 1, 1, length), text(width, length, 1)} {
				if e := line.Check(x); e != want {
					t.Errorf("Check of %v: %d, want %d", x, e, want)
				}
			}
		}
	}
}

// P13.1
func TestCheckOfManyWords(t *testing.T) {
	for many := range 20 {
		want := api.OK
		switch {
		case many == 0:
			want = api.ErrEmpty
		case many > 10:
			want = api.ErrMany
		}
		if e := line.Check(flat(40, many, 40)); e != want {
			t.Errorf("Check of %d words: %d, want %d", many, e, want)
		}
	}
}

// answers are the results of functions, one after the other, and their errors.
type answers struct {
	numbers []int
	errors  []api.Errno
}

func (a *answers) number(n int, e api.Errno) {
	a.numbers, a.errors = append(a.numbers, n), append(a.errors, e)
}

func (a *answers) list(l []int, e api.Errno) {
	a.numbers, a.errors = append(a.numbers, l...), append(a.errors, e)
}

func (a *answers) grown(l []int, n int, e api.Errno) {
	a.list(append(slices.Clone(l), n), e)
}

// askText asks all functions that need nothing but a text.
func (a *answers) askText(x line.Text) {
	a.list(line.First(x))
	a.number(line.Least(x))
	a.number(line.Count(x))
	a.list(line.Full(x))
	a.list(line.Prices(x))
	a.list(line.Starts(x))
}

// askEnds asks all functions with ends.
func (a *answers) askEnds(x line.Text, ends, prices []int, word, by int) {
	a.errors = append(a.errors, line.Fits(x, ends), line.Proves(x, ends, prices))
	a.list(line.Left(x, ends))
	a.number(line.Cost(x, ends))
	a.grown(line.Grow(x, ends, word, by))
}

// examineError examines that all errors are a wanted one, and that there is no result besides it.
func (a *answers) examineError(t *testing.T, x line.Text, ends []int, want api.Errno) {
	t.Helper()
	if i := slices.IndexFunc(a.errors, func(e api.Errno) bool { return e != want }); i >= 0 {
		t.Errorf("%d, %v, %v: the error %d, want %d", x.Width, short(x.Words), short(ends), a.errors[i], want)
	}
	if i := slices.IndexFunc(a.numbers, func(n int) bool { return n != 0 }); i >= 0 {
		t.Errorf("%d, %v, %v: %d besides an error", x.Width, short(x.Words), short(ends), a.numbers[i])
	}
}

// P13.1, R1, R2: the error of the text comes before all other ones, and there is no result besides it.
func TestErrorsOfTexts(t *testing.T) {
	for _, x := range wrongTexts {
		a := &answers{}
		a.askText(x.Text)
		for _, prices := range lists(nil, list(0), list(-1), list(20001), make([]int, len(x.Words)), make([]int, 20)) {
			a.number(line.Bound(x.Text, prices))
			for _, ends := range lists(nil, list(0), list(1), list(1, 1), list(99), list(-1), list(2, 1), list(len(x.Words)), list(1, 2, 3)) {
				for _, number := range list(0, 1, -1, 41, 1<<63-1, -1<<63) {
					a.askEnds(x.Text, ends, prices, number, number)
				}
			}
		}
		a.examineError(t, x.Text, nil, x.want)
		for _, l := range resultLists(x.Text) {
			if len(l) > 0 {
				t.Errorf("%d, %v: the list %v besides an error", x.Width, short(x.Words), l)
			}
		}
	}
}

// resultLists returns the lists that are returned for a text, and for the ends of one line.
func resultLists(x line.Text) [][]int {
	first, _ := line.First(x)
	full, _ := line.Full(x)
	prices, _ := line.Prices(x)
	starts, _ := line.Starts(x)
	left, _ := line.Left(x, list(len(x.Words)))
	grown, _, _ := line.Grow(x, list(len(x.Words)), 0, 1)
	return lists(first, full, prices, starts, left, grown)
}
