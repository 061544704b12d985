package volume_test

import (
	"slices"
	"testing"

	"headword/api"
	"headword/volume"
)

// examineFewest compares Fewest with what it is to return.
func examineFewest(t *testing.T, b volume.Book, want []int, e api.Errno) {
	t.Helper()
	if ends, f := volume.Fewest(b); !slices.Equal(ends, want) || f != e {
		t.Errorf("Fewest of %v: %v %d, want %v %d", b, ends, f, want, e)
	}
}

// P10.3, R2
func TestFewest(t *testing.T) {
	for _, x := range []struct {
		volume.Book
		want []int
		e    api.Errno
	}{
		{bookA(), list(2, 4, 5), api.OK},
		{withRoom(bookA(), 8, 0), list(2, 5), api.OK},
		{withRoom(bookA(), 14, 0), list(4, 5), api.OK},
		{withRoom(bookA(), 15, 0), list(5), api.OK},
		{withRoom(bookA(), 5, 0), list(1, 2, 3, 4, 5), api.OK},
		{withRoom(bookA(), 4, 0), nil, api.ErrLost},
		{withRoom(bookA(), 7, 7), list(2, 4, 5), api.OK}, // the floor does not matter
		{bookB(), nil, api.ErrLost},
		{withRoom(bookB(), 8, 8), list(1), api.OK},
		{book(7, 0, 1, 7, 1, 8), nil, api.ErrLost},
		{book(7, 0, 8, 8, 1, 7), nil, api.ErrLost},
		{book(7, 0, 1, 1, 1, 8, 1, 1), nil, api.ErrLost},
		{book(10, 3, 1, 9, 1, 1, 4, 9, 4, 5, 1, 5), list(2, 3, 5), api.OK},
		{fixed(2, 0, 1, 1, 1, 1, 1), list(2, 4, 5), api.OK}, // 1, 3, 5 is smaller
		{fixed(5, 0, 2, 2, 4, 1, 5), list(2, 4, 5), api.OK},
		{fixed(1, 0, slices.Repeat(list(1), 12)...), list(1, 2, 3, 4, 5, 6, 7, 8, 9, 10, 11, 12), api.OK},
		{fixed(12, 0, slices.Repeat(list(1), 12)...), list(12), api.OK},
		{fixed(11, 0, slices.Repeat(list(1), 12)...), list(11, 12), api.OK},
		{fixed(100, 0, slices.Repeat(list(30), 12)...), list(3, 6, 9, 12), api.OK},
		{fixed(30, 0, slices.Repeat(list(30), 12)...), list(1, 2, 3, 4, 5, 6, 7, 8, 9, 10, 11, 12), api.OK},
		{fixed(29, 0, slices.Repeat(list(30), 12)...), nil, api.ErrLost},
		{fixed(1, 0, 1, 1, 1, 1, 1, 1, 1, 1, 1, 1, 1, 2), nil, api.ErrLost},
	} {
		examineFewest(t, x.Book, x.want, x.e)
	}
}

// P10.3, M3
func TestFewestOfManyBooks(t *testing.T) {
	found := map[int]int{}
	for _, b := range append(manyBooks(3), drawBooks(4, 400)...) {
		want, e := slowFewest(b)
		examineFewest(t, b, want, e)
		found[len(want)]++
	}
	for many := range 9 {
		if found[many] < 5 {
			t.Errorf("so often Fewest returns each number of volumes: %v", found)
		}
	}
}

// examineLevel compares Level with what it is to return.
func examineLevel(t *testing.T, b volume.Book, volumes, want int) {
	t.Helper()
	if n, e := volume.Level(b, volumes); n != want || e != api.OK {
		t.Errorf("Level of %v, %d: %d %d, want %d", b, volumes, n, e, want)
	}
}

// P10.5, R2
func TestLevel(t *testing.T) {
	for _, x := range []struct {
		volume.Book
		levels []int // of one volume, two and more
	}{
		{bookA(), list(15, 8, 6, 6, 5)},
		{withRoom(bookA(), 1, 1), list(15, 8, 6, 6, 5)}, // the room and the floor do not matter
		{withRoom(bookA(), 100, 100), list(15, 8, 6, 6, 5)},
		{bookB(), list(8)},
		{fixed(1, 0, 1), list(1)},
		{fixed(1, 0, 30), list(30)},
		{fixed(7, 0, 1, 1), list(2, 1)},
		{fixed(7, 0, 1, 9), list(10, 9)},
		{book(7, 0, 1, 9, 2, 3, 5, 5), list(17, 9, 9)},
		{book(7, 0, 3, 3, 1, 4, 2, 2), list(9, 6, 4)},
		{fixed(1, 0, slices.Repeat(list(1), 12)...), list(12, 6, 4, 3, 3, 2, 2, 2, 2, 2, 2, 1)},
		{fixed(1, 0, slices.Repeat(list(30), 12)...), list(360, 180, 120, 90, 90, 60, 60, 60, 60, 60, 60, 30)},
	} {
		for i, want := range x.levels {
			examineLevel(t, x.Book, i+1, want)
		}
		for _, volumes := range list(0, -1, len(x.levels)+1, len(x.levels)+2, 13, 1<<62, 1<<63-1, -1<<63) {
			if n, e := volume.Level(x.Book, volumes); n != 0 || e != api.ErrRange {
				t.Errorf("Level of %v, %d: %d %d", x.Book, volumes, n, e)
			}
		}
	}
}

// P10.5, M3
func TestLevelOfManyBooks(t *testing.T) {
	books := append(drawBooks(5, 300), edgeBooks()...)
	for _, l := range fewArticles() {
		books = append(books, volume.Book{Articles: l, Room: 1}, volume.Book{Articles: l, Room: 100, Floor: 50})
	}
	for _, b := range books {
		for i, want := range slowLevels(b) {
			examineLevel(t, b, i+1, want)
		}
	}
}
