package line_test

import (
	"math/rand"
	"slices"
	"testing"

	"headword/api"
	"headword/line"
)

// examineEndsError examines that all functions with ends return an error, whatever else is asked, and nothing besides it.
func examineEndsError(t *testing.T, x line.Text, ends []int, want api.Errno) {
	t.Helper()
	a := &answers{}
	for _, prices := range lists(nil, make([]int, len(x.Words)), slices.Repeat(list(20001), len(x.Words)), slices.Repeat(list(1), len(x.Words))) {
		for _, number := range list(0, 1, -1, 41) {
			a.askEnds(x, ends, prices, number, number)
		}
	}
	a.examineError(t, x, ends, want)
	left, _ := line.Left(x, ends)
	grown, _, _ := line.Grow(x, ends, 0, 1)
	if len(left) > 0 || len(grown) > 0 {
		t.Errorf("%v, %v: the lists %v, %v besides an error", x, short(ends), left, grown)
	}
}

// examineFit compares Fits, Left and Cost with what they are to return of ends that fit.
func examineFit(t *testing.T, x line.Text, ends, left []int, cost int) {
	t.Helper()
	if e := line.Fits(x, ends); e != api.OK {
		t.Errorf("Fits of %v, %v: %d", x, ends, e)
	}
	if l, e := line.Left(x, ends); !slices.Equal(l, left) || e != api.OK {
		t.Errorf("Left of %v, %v: %v %d, want %v", x, ends, l, e, left)
	}
	if n, e := line.Cost(x, ends); n != cost || e != api.OK {
		t.Errorf("Cost of %v, %v: %d %d, want %d", x, ends, n, e, cost)
	}
}

// P13.2
func TestFitsLeftAndCost(t *testing.T) {
	for _, x := range []struct {
		line.Text
		ends, left []int
		cost       int
	}{
		{textA(), list(2, 4, 5), list(3, 3, 5), 18},
		{textA(), list(1, 2, 3, 4, 5), list(7, 7, 6, 8, 5), 198},
		{textA(), list(1, 3, 5), list(7, 2, 2), 53},
		{textB(), list(2, 3, 4), list(0, 4, 1), 16},
		{textB(), list(1, 3, 4), list(3, 1, 1), 10},
		{textB(), list(1, 2, 3, 4), list(3, 4, 4, 1), 41},
		{textC(), list(3, 6), list(1, 1), 1},
		{textC(), list(1, 2, 3, 4, 5, 6), list(5, 5, 5, 5, 5, 5), 125},
		{text(1, 1), list(1), list(0), 0},
		{text(40, 1), list(1), list(39), 0}, // the last line costs nothing
		{text(40, 40), list(1), list(0), 0},
		{text(40, 1, 40), list(1, 2), list(39, 0), 1521},
		{flat(19, 10, 1), list(10), list(0), 0}, // just as long as the width
		{flat(40, 10, 1), list(1, 2, 3, 4, 5, 6, 7, 8, 9, 10), slices.Repeat(list(39), 10), 13689},
		{flat(40, 10, 40), list(1, 2, 3, 4, 5, 6, 7, 8, 9, 10), slices.Repeat(list(0), 10), 0},
		{text(3, 1, 1), list(2), list(0), 0},
	} {
		examineFit(t, x.Text, x.ends, x.left, x.cost)
	}
}

// P13.2, R1, R2
func TestErrorsOfEnds(t *testing.T) {
	for _, x := range []struct {
		line.Text
		ends []int
		want api.Errno
	}{
		{textB(), nil, api.ErrShape},
		{textB(), list(), api.ErrShape},
		{textB(), list(4), api.ErrOver},
		{textB(), list(3, 4), api.ErrOver},
		{textB(), list(2, 4), api.ErrOver},
		{textB(), list(1, 4), api.ErrOver},
		{textB(), list(1, 2, 4), api.ErrOver}, // the last line
		{textB(), list(1, 3), api.ErrShape},
		{textB(), list(3), api.ErrShape}, // it does not fit either
		{textB(), list(1), api.ErrShape},
		{textB(), list(2, 2, 4), api.ErrOrder},
		{textB(), list(4, 4), api.ErrOrder},
		{textB(), list(1, 4, 4), api.ErrOrder},
		{textB(), list(3, 2), api.ErrOrder}, // the last one is not n either
		{textB(), list(4, 3, 2, 1), api.ErrOrder},
		{textB(), list(2, 1, 4), api.ErrOrder},
		{textB(), list(1, 3, 2, 4), api.ErrOrder}, // greater than the first one
		{textB(), list(0), api.ErrNone},
		{textB(), list(5), api.ErrNone},
		{textB(), list(-1), api.ErrNone},
		{textB(), list(0, 4), api.ErrNone},
		{textB(), list(1, 0, 4), api.ErrNone}, // not greater than the one before it either
		{textB(), list(1, -1), api.ErrNone},
		{textB(), list(4, 5), api.ErrNone},
		{textB(), list(1, 3, 4, 5), api.ErrNone},
		{textB(), list(3, 2, 9), api.ErrOrder}, // the first one with an error counts
		{textB(), list(9, 2, 2), api.ErrNone},
		{textB(), list(2, 2, 0), api.ErrOrder},
		{textB(), list(1<<63 - 1), api.ErrNone},
		{textB(), list(1, 1<<63-1), api.ErrNone},
		{textB(), list(1, -1<<63), api.ErrNone},
		{textB(), make([]int, 100000), api.ErrNone},
		{textB(), slices.Repeat(list(1), 100000), api.ErrOrder},
		{text(1, 1), list(1, 1), api.ErrOrder},
		{text(1, 1), list(2), api.ErrNone},
		{text(1, 1), nil, api.ErrShape},
		{text(2, 1, 1), list(2), api.ErrOver}, // too long by its blank only
		{flat(18, 10, 1), list(10), api.ErrOver},
		{flat(40, 10, 40), list(10), api.ErrOver},
		{flat(40, 10, 40), list(11), api.ErrNone},
	} {
		examineEndsError(t, x.Text, x.ends, x.want)
	}
}

// examineEnds compares what the functions with ends, right or wrong, return with what they are to return.
func examineEnds(t *testing.T, x line.Text, ends []int) api.Errno {
	t.Helper()
	e := slowEnds(x, ends)
	if e != api.OK {
		examineEndsError(t, x, ends, e)
		return e
	}
	left, _ := slowLefts(x, ends)
	examineFit(t, x, ends, left, slowCost(x, ends))
	return e
}

// examineFound examines that each error was found often enough.
func examineFound(t *testing.T, found map[api.Errno]int, least int, errors ...api.Errno) {
	t.Helper()
	for _, e := range errors {
		if found[e] < least {
			t.Errorf("so often there is each error: %v, want %d of %d", found, least, e)
		}
	}
}

// P13.2: all lists with few numbers, right or wrong.
func TestAllShortLists(t *testing.T) {
	found := map[api.Errno]int{}
	for _, x := range []line.Text{textB(), textA(), text(1, 1), text(3, 1, 1), text(3, 2, 1), text(5, 1, 2, 1), text(4, 1, 1, 1, 1), flat(7, 4, 1), flat(40, 3, 1)} {
		for many := range 5 {
			for _, ends := range numbersOf(many, -1, len(x.Words)+1) {
				found[examineEnds(t, x, ends)]++
			}
		}
	}
	examineFound(t, found, 15, api.OK, api.ErrNone, api.ErrOrder, api.ErrShape, api.ErrOver)
}

// P13.2, M1: all ends of many texts.
func TestAllEnds(t *testing.T) {
	found := map[api.Errno]int{}
	for _, x := range someTexts(2, 60) {
		for _, ends := range endsOf(x) {
			found[examineEnds(t, x, ends)]++
		}
	}
	examineFound(t, found, 1000, api.OK, api.ErrOver)
}

// change changes, takes out or puts in one number of a list.
func change(r *rand.Rand, l []int, low, high int) []int {
	l = slices.Clone(l)
	number := low + r.Intn(high-low+1)
	place := r.Intn(len(l))
	switch r.Intn(3) {
	case 0:
		l[place] = number
	case 1:
		l = slices.Delete(l, place, place+1)
	default:
		l = slices.Insert(l, place, number)
	}
	return l
}

// P13.2
func TestChangedEnds(t *testing.T) {
	r := rand.New(rand.NewSource(3))
	found := map[api.Errno]int{}
	for _, x := range drawTexts(4, 300) {
		all := slowFitting(x)
		for range 10 {
			ends := all[r.Intn(len(all))]
			found[examineEnds(t, x, change(r, ends, -1, len(x.Words)+2))]++
		}
	}
	examineFound(t, found, 50, api.OK, api.ErrNone, api.ErrOrder, api.ErrShape, api.ErrOver)
}
