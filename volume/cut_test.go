package volume_test

import (
	"math/rand"
	"slices"
	"testing"

	"headword/api"
	"headword/volume"
)

// examineEndsError examines that ends have an error, whatever else is asked, and that there is no result besides it.
func examineEndsError(t *testing.T, b volume.Book, ends []int, want api.Errno) {
	t.Helper()
	may, e1 := volume.May(b, ends)
	must, e2 := volume.Must(b, ends)
	errors := list(int(volume.Holds(b, ends)), int(volume.Safe(b, ends)), int(e1), int(e2))
	results := list(may, must)
	for _, article := range list(0, len(b.Articles)-1, len(b.Articles), -1, 1<<62) {
		limit, e := volume.Limit(b, ends, article)
		errors, results = append(errors, int(e)), append(results, limit)
	}
	if slices.ContainsFunc(errors, func(e int) bool { return e != int(want) }) {
		t.Errorf("%v, %.9v: errors %v, want %d", b, ends, errors, want)
	}
	if slices.ContainsFunc(results, func(n int) bool { return n != 0 }) {
		t.Errorf("%v, %.9v: %v besides an error", b, ends, results)
	}
}

// examineHolds compares Holds and Safe with what they are to return.
func examineHolds(t *testing.T, b volume.Book, ends []int, holds, safe api.Errno) {
	t.Helper()
	if e := volume.Holds(b, ends); e != holds {
		t.Errorf("Holds of %v, %v: %d, want %d", b, ends, e, holds)
	}
	if e := volume.Safe(b, ends); e != safe {
		t.Errorf("Safe of %v, %v: %d, want %d", b, ends, e, safe)
	}
}

// examineBurst compares May and Must with the volumes that they are to return, -1 for none.
func examineBurst(t *testing.T, b volume.Book, ends []int, may, must int) {
	t.Helper()
	for _, x := range []struct {
		name string
		call func(volume.Book, []int) (int, api.Errno)
		want int
	}{{"May", volume.May, may}, {"Must", volume.Must, must}} {
		want, e := x.want, api.OK
		if want < 0 {
			want, e = 0, api.ErrClash
		}
		if n, f := x.call(b, ends); n != want || f != e {
			t.Errorf("%s of %v, %v: %d %d, want %d %d", x.name, b, ends, n, f, want, e)
		}
	}
}

// examineEnds compares what the functions with ends, right or wrong, return with what they are to return.
func examineEnds(t *testing.T, b volume.Book, ends []int) (holds, safe api.Errno) {
	t.Helper()
	holds, safe = slowHolds(b, ends), slowSafe(b, ends)
	if e := slowEnds(b, ends); e != api.OK {
		examineEndsError(t, b, ends, e)
		return holds, safe
	}
	examineHolds(t, b, ends, holds, safe)
	may, must := -1, -1
	if number, is := slowMay(b, ends); is {
		may = number
	}
	if number, is := slowMust(b, ends); is {
		must = number
	}
	examineBurst(t, b, ends, may, must)
	for article := range b.Articles {
		examineLimit(t, b, ends, article, slowLimit(b, ends, article))
	}
	for _, article := range list(-1, len(b.Articles)) {
		examineNoLimit(t, b, ends, article)
	}
	return holds, safe
}

func examineLimit(t *testing.T, b volume.Book, ends []int, article, want int) {
	t.Helper()
	if n, e := volume.Limit(b, ends, article); n != want || e != api.OK {
		t.Errorf("Limit of %v, %v, %d: %d %d, want %d", b, ends, article, n, e, want)
	}
}

func examineNoLimit(t *testing.T, b volume.Book, ends []int, article int) {
	t.Helper()
	if n, e := volume.Limit(b, ends, article); n != 0 || e != api.ErrNone {
		t.Errorf("Limit of %v, %v, %d: %d %d", b, ends, article, n, e)
	}
}

// P10.2
func TestHoldsAndSafe(t *testing.T) {
	for _, x := range []struct {
		volume.Book
		ends        []int
		holds, safe api.Errno
	}{
		{bookA(), list(2, 4, 5), api.OK, api.ErrOpen},
		{bookA(), list(1, 3, 5), api.OK, api.OK},
		{bookA(), list(2, 3, 5), api.OK, api.OK},
		{bookA(), list(1, 2, 3, 4, 5), api.OK, api.ErrOpen},
		{bookA(), list(1, 2, 3, 5), api.OK, api.ErrOpen},
		{bookA(), list(3, 5), api.ErrOver, api.ErrOver},
		{bookA(), list(2, 5), api.ErrOver, api.ErrOver},
		{bookA(), list(3, 4, 5), api.ErrOver, api.ErrOver}, // thin as well
		{bookA(), list(5), api.ErrOver, api.ErrOver},
		{bookB(), list(1), api.ErrOver, api.ErrOver},
		{fixed(8, 8, 8), list(1), api.OK, api.OK}, // as many lines as there is room for, and as the floor
		{fixed(8, 8, 9), list(1), api.ErrOver, api.ErrOver},
		{fixed(8, 8, 7), list(1), api.OK, api.ErrOpen},
		{fixed(8, 0, 1), list(1), api.OK, api.OK},
		{book(8, 3, 2, 8), list(1), api.OK, api.ErrOpen}, // thin by its Least lines only
		{book(8, 2, 2, 8), list(1), api.OK, api.OK},
		{book(8, 2, 2, 9), list(1), api.ErrOver, api.ErrOver}, // too much by its Most lines only
		{fixed(4, 2, 2, 2, 2, 2, 1), list(2, 4, 5), api.OK, api.ErrOpen},
		{fixed(4, 2, 1, 2, 2, 2, 2), list(1, 3, 5), api.OK, api.ErrOpen},
		{fixed(100, 100, slices.Repeat(list(30), 12)...), list(3, 6, 9, 12), api.OK, api.ErrOpen},
		{fixed(100, 90, slices.Repeat(list(30), 12)...), list(3, 6, 9, 12), api.OK, api.OK},
		{fixed(100, 0, slices.Repeat(list(30), 12)...), list(4, 8, 12), api.ErrOver, api.ErrOver},
	} {
		examineHolds(t, x.Book, x.ends, x.holds, x.safe)
	}
}

// P10.2, P10.7, R1, R2
func TestErrorsOfEnds(t *testing.T) {
	for _, x := range []struct {
		ends []int
		want api.Errno
	}{
		{nil, api.ErrShape},
		{list(), api.ErrShape},
		{list(2, 4), api.ErrShape},
		{list(4), api.ErrShape}, // over as well
		{list(1, 2, 3, 4), api.ErrShape},
		{list(0), api.ErrNone},
		{list(6), api.ErrNone},
		{list(-1), api.ErrNone},
		{list(0, 5), api.ErrNone},
		{list(2, 4, 6), api.ErrNone},
		{list(5, 6), api.ErrNone},
		{list(2, 0, 5), api.ErrNone}, // not a number comes before the order
		{list(2, -1), api.ErrNone},
		{list(1<<63 - 1), api.ErrNone},
		{list(-1 << 63), api.ErrNone},
		{list(1<<62, 5), api.ErrNone},
		{list(5, 1<<62), api.ErrNone},
		{make([]int, 100000), api.ErrNone},
		{list(2, 2, 5), api.ErrOrder},
		{list(3, 2, 5), api.ErrOrder},
		{list(5, 5), api.ErrOrder},
		{list(5, 4), api.ErrOrder}, // nor is the last one the number of articles
		{list(1, 1), api.ErrOrder},
		{list(2, 1, 9), api.ErrOrder}, // the first one with an error counts
		{list(9, 2, 1), api.ErrNone},
		{list(1, 2, 3, 4, 5, 5), api.ErrOrder},
		{list(1, 2, 3, 4, 5, 6), api.ErrNone},
		{slices.Repeat(list(5), 100000), api.ErrOrder},
	} {
		examineEndsError(t, bookA(), x.ends, x.want)
	}
	examineEndsError(t, bookB(), list(1, 1), api.ErrOrder)
	examineEndsError(t, bookB(), list(2), api.ErrNone)
	examineEndsError(t, bookB(), nil, api.ErrShape)
	examineEndsError(t, fixed(1, 0, slices.Repeat(list(1), 12)...), list(11), api.ErrShape)
	examineEndsError(t, fixed(1, 0, slices.Repeat(list(1), 12)...), list(12, 13), api.ErrNone)
}

// P10.7
func TestMayAndMust(t *testing.T) {
	for _, x := range []struct {
		volume.Book
		ends      []int
		may, must int
	}{
		{bookA(), list(2, 4, 5), -1, -1},
		{bookA(), list(3, 5), 0, -1},
		{bookA(), list(2, 5), 1, -1},
		{bookA(), list(1, 5), 1, -1},
		{bookA(), list(5), 0, 0},
		{bookA(), list(4, 5), 0, 0},
		{bookB(), list(1), 0, -1},
		{fixed(7, 0, 8), list(1), 0, 0},
		{fixed(7, 0, 7), list(1), -1, -1},
		{book(7, 0, 7, 8), list(1), 0, -1},
		{book(7, 7, 1, 7), list(1), -1, -1},                         // thin, but that does not matter
		{book(7, 0, 7, 7, 7, 8, 8, 8), list(1, 2, 3), 1, 2},         // one can, a later one must
		{book(7, 0, 8, 8, 7, 8, 8, 8), list(1, 2, 3), 0, 0},         // the first of two
		{book(7, 0, 1, 7, 3, 3, 4, 4, 4, 4), list(1, 3, 4), -1, -1}, // full
		{book(7, 0, 1, 7, 3, 3, 4, 5, 4, 4), list(1, 3, 4), 1, -1},
		{book(7, 0, 1, 7, 3, 3, 5, 5, 4, 4), list(1, 3, 4), 1, 1},
		{book(7, 0, 1, 7, 3, 3, 4, 4, 8, 8), list(1, 3, 4), 2, 2},
		{fixed(100, 0, slices.Repeat(list(30), 12)...), list(3, 6, 12), 2, 2},
		{fixed(100, 0, slices.Repeat(list(30), 12)...), list(3, 6, 9, 12), -1, -1},
	} {
		examineBurst(t, x.Book, x.ends, x.may, x.must)
	}
}

// P10.7
func TestLimit(t *testing.T) {
	for _, x := range []struct {
		volume.Book
		ends   []int
		limits []int // of all articles
	}{
		{bookA(), list(2, 4, 5), list(3, 4, 2, 5, 7)},
		{bookA(), list(5), list(-5, -4, -6, -3, -7)},
		{bookA(), list(3, 5), list(1, 2, 0, 6, 2)},
		{bookA(), list(1, 2, 3, 4, 5), list(7, 7, 7, 7, 7)},
		{bookB(), list(1), list(7)}, // its own lines do not matter
		{withRoom(bookB(), 1, 1), list(1), list(1)},
		{withRoom(bookB(), 100, 0), list(1), list(100)},
		{book(7, 0, 1, 7, 1, 7), list(2), list(0, 0)},
		{book(7, 0, 1, 3, 2, 5, 4, 4), list(1, 3), list(7, 3, 2)},
		{fixed(1, 0, slices.Repeat(list(30), 12)...), list(12), slices.Repeat(list(-329), 12)},
		{fixed(100, 0, slices.Repeat(list(30), 12)...), list(3, 12), list(40, 40, 40, -140, -140, -140, -140, -140, -140, -140, -140, -140)},
	} {
		for article, want := range x.limits {
			examineLimit(t, x.Book, x.ends, article, want)
		}
		for _, article := range list(-1, len(x.limits), len(x.limits)+1, 1<<62, 1<<63-1, -1<<63) {
			examineNoLimit(t, x.Book, x.ends, article)
		}
	}
}

// P10.2, P10.7, M1: of few articles all ends, right or wrong.
func TestAllEnds(t *testing.T) {
	for _, b := range []volume.Book{
		bookA(), bookB(), withRoom(bookB(), 8, 8), fixed(1, 0, 1), book(2, 2, 1, 2, 2, 3), fixed(3, 3, 3, 1),
		book(4, 2, 1, 2, 2, 3, 1, 1), book(5, 3, 1, 5, 3, 3, 2, 6), fixed(2, 1, 1, 1, 1), book(6, 2, 2, 2, 1, 4, 3, 3, 1, 5), fixed(3, 2, 1, 2, 3, 4),
	} {
		for many := range 5 {
			for _, ends := range numbersOf(many, -1, len(b.Articles)+1) {
				examineEnds(t, b, ends)
			}
		}
	}
}

// P10.2, P10.7, M1
func TestCutsOfManyBooks(t *testing.T) {
	found := map[api.Errno]int{}
	for _, b := range manyBooks(1) {
		for _, ends := range someCuts(b) {
			_, e := examineEnds(t, b, ends)
			found[e]++
		}
	}
	for _, e := range []api.Errno{api.OK, api.ErrOver, api.ErrOpen} {
		if found[e] < 1000 {
			t.Errorf("so often Safe returns each error: %v", found)
		}
	}
}

// P10.2, P10.7: cuts with a number changed, taken out or put in.
func TestWrongEndsOfManyBooks(t *testing.T) {
	r := rand.New(rand.NewSource(2))
	found := map[api.Errno]int{}
	for _, b := range append(drawBooks(2, 500), edgeBooks()...) {
		all := cutsOf(b)
		for range 10 {
			ends := slices.Clone(all[r.Intn(len(all))])
			at, number := r.Intn(len(ends)), r.Intn(len(b.Articles)+3)-1
			switch r.Intn(3) {
			case 0:
				ends[at] = number
			case 1:
				ends = slices.Delete(ends, at, at+1)
			case 2:
				ends = slices.Insert(ends, at, number)
			}
			examineEnds(t, b, ends)
			found[slowEnds(b, ends)]++
		}
	}
	for _, e := range []api.Errno{api.OK, api.ErrNone, api.ErrOrder, api.ErrShape} {
		if found[e] < 300 {
			t.Errorf("so often ends have each error: %v", found)
		}
	}
}
