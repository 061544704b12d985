package volume_test

import (
	"slices"
	"testing"

	"headword/api"
	"headword/volume"
)

// examineSafe compares Cut and Count with what they are to return.
func examineSafe(t *testing.T, b volume.Book, want []int, e api.Errno, count int) {
	t.Helper()
	if ends, f := volume.Cut(b); !slices.Equal(ends, want) || f != e {
		t.Errorf("Cut of %v: %v %d, want %v %d", b, ends, f, want, e)
	}
	if n, f := volume.Count(b); n != count || f != api.OK {
		t.Errorf("Count of %v: %d %d, want %d", b, n, f, count)
	}
}

// P10.6, R2
func TestCutAndCount(t *testing.T) {
	for _, x := range []struct {
		volume.Book
		want  []int
		count int
	}{
		{bookA(), list(1, 3, 5), 2},
		{withRoom(bookA(), 7, 0), list(1, 3, 5), 8},
		{withRoom(bookA(), 7, 3), nil, 0},
		{withRoom(bookA(), 15, 9), list(5), 1},
		{withRoom(bookA(), 15, 10), nil, 0},
		{withRoom(bookA(), 8, 3), list(2, 5), 1},
		{bookB(), nil, 0},
		{withRoom(bookB(), 8, 0), list(1), 1},
		{withRoom(bookB(), 8, 1), list(1), 1},
		{withRoom(bookB(), 8, 2), nil, 0},
		{book(7, 0, 1, 7, 1, 8), nil, 0},
		{fixed(2, 0, 1, 1, 1, 1, 1), list(1, 3, 5), 8},
		{fixed(2, 2, 1, 1, 1, 1, 1), nil, 0},
		{fixed(3, 2, 1, 1, 1, 1, 1, 1), list(3, 6), 2},
		{fixed(3, 3, 1, 1, 1, 1, 1, 1), list(3, 6), 1},
		{fixed(3, 2, 1, 1, 1, 1, 1, 1, 1), list(2, 4, 7), 3},
		{fixed(5, 2, 4, 1, 4, 1, 4, 1), list(2, 4, 6), 1},
		{fixed(5, 5, 4, 1, 4, 1, 4, 1), list(2, 4, 6), 1},
		{fixed(10, 6, 6, 4, 3, 3, 4, 6), list(1, 4, 6), 4},
		{fixed(4, 2, 4, 2, 2, 1, 3), list(1, 3, 5), 3},
		// Of the cuts with the fewest volumes none is safe, but one with more is.
		{book(10, 5, 6, 6, 4, 4, 2, 4, 2, 4, 3, 3, 5, 7), list(1, 3, 5, 6), 1},
		{fixed(10, 5, 6, 4, 2, 8, 2, 2, 8, 2, 4, 6), list(1, 3, 5, 7, 9, 10), 1},
		{book(10, 3, 1, 9, 1, 1, 4, 9, 4, 5, 1, 5), nil, 0},
		{book(10, 1, 1, 9, 1, 1, 4, 9, 4, 5, 1, 5), list(1, 3, 5), 6},
		{fixed(1, 1, slices.Repeat(list(1), 12)...), list(1, 2, 3, 4, 5, 6, 7, 8, 9, 10, 11, 12), 1},
		{fixed(12, 0, slices.Repeat(list(1), 12)...), list(12), 2048},
		{fixed(12, 1, slices.Repeat(list(1), 12)...), list(12), 2048},
		{fixed(100, 12, slices.Repeat(list(1), 12)...), list(12), 1},
		{fixed(100, 13, slices.Repeat(list(1), 12)...), nil, 0},
		{fixed(2, 0, slices.Repeat(list(1), 12)...), list(2, 4, 6, 8, 10, 12), 233},
		{fixed(100, 60, slices.Repeat(list(30), 12)...), list(3, 6, 9, 12), 12},
	} {
		e := api.OK
		if x.want == nil {
			e = api.ErrLost
		}
		if want, f := slowCut(x.Book); !slices.Equal(want, x.want) || f != e || len(slowSafeCuts(x.Book)) != x.count {
			t.Errorf("table of %v: %v %d, want %v, %d", x.Book, want, f, x.want, x.count)
		}
		examineSafe(t, x.Book, x.want, e, x.count)
	}
}

// P10.6, M1, M2, M3
func TestSafeCutsOfManyBooks(t *testing.T) {
	found := map[string]int{}
	for _, b := range slices.Concat(manyBooks(9), drawBooks(10, 600), drawThin(11, 600)) {
		want, e := slowCut(b)
		examineSafe(t, b, want, e, len(slowSafeCuts(b)))
		fewest, f := slowFewest(b)
		switch {
		case f != api.OK:
			found["none holds"]++
		case e != api.OK:
			found["none is safe"]++
		case len(want) > len(fewest):
			found["more volumes"]++
		case !slices.Equal(want, fewest):
			found["others"]++
		default:
			found["the same"]++
		}
	}
	for _, name := range []string{"none holds", "none is safe", "more volumes", "others", "the same"} {
		if found[name] < 10 {
			t.Errorf("so often Cut is beside Fewest: %v", found)
		}
	}
}
