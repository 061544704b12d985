package volume_test

import (
	"slices"
	"testing"

	"headword/api"
	"headword/volume"
)

func TestLimits(t *testing.T) {
	if volume.MaxArticles != 12 || volume.MaxLines != 30 || volume.MaxRoom != 100 {
		t.Errorf("limits %d, %d, %d", volume.MaxArticles, volume.MaxLines, volume.MaxRoom)
	}
}

// wrongBooks are books with an error, and the error that counts.
var wrongBooks = []struct {
	volume.Book
	want api.Errno
}{
	{volume.Book{}, api.ErrEmpty},
	{book(7, 2), api.ErrEmpty},
	{volume.Book{Articles: []volume.Article{}, Room: 7}, api.ErrEmpty},
	{book(0, 0), api.ErrEmpty}, // no articles come before the room
	{book(101, -1), api.ErrEmpty},
	{fixed(7, 0, slices.Repeat(list(1), 13)...), api.ErrMany},
	{fixed(7, 0, slices.Repeat(list(0), 13)...), api.ErrMany}, // too many come before wrong ones
	{fixed(0, 8, slices.Repeat(list(31), 13)...), api.ErrMany},
	{fixed(7, 0, make([]int, 100000)...), api.ErrMany},
	{book(7, 0, 0, 1), api.ErrRange},
	{book(7, 0, 0, 0), api.ErrRange},
	{book(7, 0, 1, 0), api.ErrRange},
	{book(7, 0, 1, 31), api.ErrRange},
	{book(7, 0, 31, 31), api.ErrRange},
	{book(7, 0, -1, 1), api.ErrRange},
	{book(7, 0, 1, -1), api.ErrRange},
	{book(7, 0, 31, 1), api.ErrRange}, // out of range comes before out of order
	{book(7, 0, 2, 0), api.ErrRange},
	{book(7, 0, 1<<63-1, -1<<63), api.ErrRange},
	{book(7, 0, 1, 1<<63-1), api.ErrRange},
	{book(7, 0, -1<<63, 1), api.ErrRange},
	{book(7, 0, -1<<63, 1<<63-1), api.ErrRange},
	{book(7, 0, 2, 1), api.ErrOrder},
	{book(7, 0, 30, 1), api.ErrOrder},
	{book(7, 0, 30, 29), api.ErrOrder},
	{book(7, 0, 2, 1, 0, 0), api.ErrOrder}, // the first article with an error counts
	{book(7, 0, 0, 0, 2, 1), api.ErrRange},
	{book(7, 0, 1, 1, 2, 1, 1, 31), api.ErrOrder},
	{book(7, 0, 1, 1, 1, 31, 2, 1), api.ErrRange},
	{book(7, 2, 2, 3, 1, 4, 2, 2, 3, 5, 1, 0), api.ErrRange},
	{book(7, 2, 2, 3, 1, 4, 2, 2, 3, 5, 2, 1), api.ErrOrder},
	{book(0, 0, 2, 1), api.ErrOrder}, // wrong articles come before the room and the floor
	{book(101, 0, 2, 1), api.ErrOrder},
	{book(7, 8, 2, 1), api.ErrOrder},
	{book(-1, -1, 2, 1), api.ErrOrder},
	{fixed(7, 0, 1, 1, 1, 1, 1, 1, 1, 1, 1, 1, 1, 31), api.ErrRange},
	{withRoom(bookA(), 0, 0), api.ErrRange},
	{withRoom(bookA(), 101, 2), api.ErrRange},
	{withRoom(bookA(), -1, -1), api.ErrRange},
	{withRoom(bookA(), -1<<63, -1<<63), api.ErrRange},
	{withRoom(bookA(), 1<<63-1, 0), api.ErrRange},
	{withRoom(bookA(), 1<<63-1, 1<<63-1), api.ErrRange},
	{withRoom(bookA(), 7, 8), api.ErrRange},
	{withRoom(bookA(), 7, -1), api.ErrRange},
	{withRoom(bookA(), 100, 101), api.ErrRange},
	{withRoom(bookA(), 1, 2), api.ErrRange},
	{withRoom(bookA(), 7, 1<<63-1), api.ErrRange},
	{withRoom(bookA(), 7, -1<<63), api.ErrRange},
}

// P10.1
func TestCheck(t *testing.T) {
	for _, b := range append(edgeBooks(), book(7, 7, 1, 30), book(100, 100, 30, 30), book(1, 1, 1, 1), book(1, 0, 1, 30)) {
		if e := volume.Check(b); e != api.OK {
			t.Errorf("Check of %v: %d", b, e)
		}
	}
	for _, x := range wrongBooks {
		if e := volume.Check(x.Book); e != x.want {
			t.Errorf("Check of %.99v: %d, want %d", x.Book, e, x.want)
		}
	}
}

// P10.1
func TestCheckOfAllLengths(t *testing.T) {
	for least := -2; least < 34; least++ {
		for most := -2; most < 34; most++ {
			want := api.OK
			if least < 1 || least > 30 || most < 1 || most > 30 {
				want = api.ErrRange
			} else if least > most {
				want = api.ErrOrder
			}
			for _, b := range []volume.Book{book(7, 0, least, most), book(7, 0, 1, 1, least, most), book(7, 0, least, most, 30, 30)} {
				if e := volume.Check(b); e != want {
					t.Errorf("Check of %v: %d, want %d", b, e, want)
				}
			}
		}
	}
}

// P10.1
func TestCheckOfAllRooms(t *testing.T) {
	for room := -2; room < 104; room++ {
		for floor := -2; floor < 104; floor++ {
			want := api.ErrRange
			if room >= 1 && room <= 100 && floor >= 0 && floor <= room {
				want = api.OK
			}
			if e := volume.Check(book(room, floor, 3, 30)); e != want {
				t.Errorf("Check of room for %d with the floor %d: %d, want %d", room, floor, e, want)
			}
		}
	}
}

// P10.1
func TestCheckOfManyArticles(t *testing.T) {
	for many := range 20 {
		want := api.OK
		switch {
		case many == 0:
			want = api.ErrEmpty
		case many > 12:
			want = api.ErrMany
		}
		if e := volume.Check(fixed(1, 0, slices.Repeat(list(30), many)...)); e != want {
			t.Errorf("Check of %d articles: %d, want %d", many, e, want)
		}
	}
}

// P10.1, R2: the error of the book comes before all other ones.
func TestErrorsOfBooks(t *testing.T) {
	for _, x := range wrongBooks {
		b := x.Book
		errors := list()
		for _, ends := range lists(nil, list(1), list(5), list(2, 4, 5), list(9), list(-1), list(1, 1), list(len(b.Articles)), make([]int, 20)) {
			may, e1 := volume.May(b, ends)
			must, e2 := volume.Must(b, ends)
			errors = append(errors, int(volume.Holds(b, ends)), int(volume.Safe(b, ends)), int(e1), int(e2))
			if may != 0 || must != 0 {
				t.Errorf("%.99v: %d, %d besides an error", b, may, must)
			}
			for _, article := range list(0, -1, 99) {
				limit, e := volume.Limit(b, ends, article)
				errors = append(errors, int(e))
				if limit != 0 {
					t.Errorf("%.99v: limit %d besides an error", b, limit)
				}
			}
		}
		for _, volumes := range list(-1, 0, 1, 2, 99) {
			level, e := volume.Level(b, volumes)
			errors = append(errors, int(e))
			if level != 0 {
				t.Errorf("%.99v: level %d besides an error", b, level)
			}
			for _, stretches := range [][][2]int{nil, pairs(0, 1), pairs(0, 99), pairs(1, 0)} {
				errors = append(errors, int(volume.Proves(b, volumes, stretches)))
			}
		}
		fewest, e1 := volume.Fewest(b)
		why, e2 := volume.Why(b)
		cut, e3 := volume.Cut(b)
		count, e4 := volume.Count(b)
		errors = append(errors, int(e1), int(e2), int(e3), int(e4))
		if len(fewest) != 0 || len(why) != 0 || len(cut) != 0 || count != 0 {
			t.Errorf("%.99v: %v, %v, %v, %d besides an error", b, fewest, why, cut, count)
		}
		if slices.ContainsFunc(errors, func(e int) bool { return e != int(x.want) }) {
			t.Errorf("%.99v: errors %v, want %d", b, errors, x.want)
		}
	}
}
