package see_test

import (
	"math/rand"
	"slices"
	"testing"

	"headword/api"
	"headword/see"
)

// P2.5
func TestWay(t *testing.T) {
	long := book(7, "01", "12", "23", "34", "45", "56")
	for _, x := range []struct {
		b        see.Book
		articles []int
		word     int
		want     []int
		e        api.Errno
	}{
		{bookC(), list(3), 0, list(0, 1, 2, 3), api.OK},
		{bookC(), list(0, 3), 1, list(1, 0), api.OK},
		{bookC(), list(0), 3, nil, api.ErrLost},
		{bookC(), list(), 0, nil, api.ErrEmpty},
		{bookC(), nil, 4, nil, api.ErrEmpty}, // no articles come before a wrong word
		{bookC(), list(1, 0), 4, nil, api.ErrOrder},
		{bookC(), list(1, 1), 0, nil, api.ErrOrder},
		{bookC(), list(4), 0, nil, api.ErrNone},
		{bookC(), list(-1), 0, nil, api.ErrNone},
		{bookC(), list(1, -1), 0, nil, api.ErrNone}, // no word comes before the order
		{bookC(), list(1, 0, 4), 0, nil, api.ErrOrder},
		{bookC(), list(4, 1, 0), 0, nil, api.ErrNone},
		{bookC(), list(0), 4, nil, api.ErrNone},
		{bookC(), list(0), -1, nil, api.ErrNone},
		{bookC(), list(0), 1 << 62, nil, api.ErrNone},
		{bookC(), list(0), -1 << 63, nil, api.ErrNone},
		{bookC(), list(0, 2), 2, list(2), api.OK}, // no step
		{bookA(), list(0), 1, nil, api.ErrLost},   // not against a reference
		{long, list(6), 0, list(0, 1, 2, 3, 4, 5, 6), api.OK},
		{long, list(3, 6), 0, list(0, 1, 2, 3), api.OK},
		{book(4, "02", "01", "13", "23"), list(3), 0, list(0, 1, 3), api.OK},       // the first one of two
		{book(5, "01", "12", "23", "04", "43"), list(3), 0, list(0, 4, 3), api.OK}, // fewer steps before smaller words
		{book(5, "04", "01", "12", "43"), list(2, 3), 0, list(0, 1, 2), api.OK},    // to any article
		{book(5, "04", "01", "13", "42"), list(2, 3), 0, list(0, 1, 3), api.OK},    // the smaller way, not the smaller article
		{book(2), list(1), 0, nil, api.ErrLost},
		{book(1), list(0), 0, list(0), api.OK},
	} {
		if way, e := see.Way(x.b, x.articles, x.word); !slices.Equal(way, x.want) || e != x.e {
			t.Errorf("Way of %v, %v, %d: %v %d, want %v %d", x.b, x.articles, x.word, way, e, x.want, x.e)
		}
	}
}

// drawSet returns some words of a book, at least one, ascending.
func drawSet(r *rand.Rand, words int) []int {
	set := r.Perm(words)[:1+r.Intn(words)]
	slices.Sort(set)
	return set
}

// P2.5
func TestWayOfManyBooks(t *testing.T) {
	r := rand.New(rand.NewSource(25))
	for _, b := range manyBooks(5) {
		articles, word := drawSet(r, b.Words), r.Intn(b.Words)
		want, e := slowWay(b, articles, word), api.OK
		if want == nil {
			e = api.ErrLost
		}
		if way, f := see.Way(b, articles, word); !slices.Equal(way, want) || f != e {
			t.Errorf("Way of %v, %v, %d: %v %d, want %v %d", b, articles, word, way, f, want, e)
		}
	}
}

// P2.6
func TestNumbers(t *testing.T) {
	for _, x := range []struct {
		b    see.Book
		want []int
		e    api.Errno
	}{
		{bookA(), list(0, 1, 0), api.OK},
		{bookB(), nil, api.ErrClash},
		{bookC(), nil, api.ErrClash},
		{book(1), list(0), api.OK},
		{book(3), list(0, 0, 0), api.OK},
		{book(3, "20", "01", "10"), nil, api.ErrClash},
		{book(4, "01", "02", "03", "12", "13", "23"), list(3, 2, 1, 0), api.OK},
		{book(4, "10", "20", "30", "21", "31", "32"), list(0, 1, 2, 3), api.OK},
		{book(4, "32", "31", "10"), list(0, 1, 0, 2), api.OK},
		{book(4, "31", "10", "21"), list(0, 1, 0, 0), api.OK}, // 0 is free beside 1
		{book(7, "01", "12", "23", "34", "45", "56"), list(0, 1, 0, 1, 0, 1, 0), api.OK},
		{book(6, "01", "02", "03", "04", "05", "12", "13", "14", "15", "23", "24", "25", "34", "35", "45"), list(5, 4, 3, 2, 1, 0), api.OK},
	} {
		if numbers, e := see.Numbers(x.b); !slices.Equal(numbers, x.want) || e != x.e {
			t.Errorf("Numbers of %v: %v %d, want %v %d", x.b, numbers, e, x.want, x.e)
		}
	}
}

// P2.6
func TestNumbersOfManyBooks(t *testing.T) {
	for _, b := range append(manyBooks(6), drawBooksWithoutCircles(6, 300)...) {
		var want []int
		e := api.ErrClash
		if len(slowCircles(b)) == 0 {
			e = api.OK
			for word := range b.Words {
				want = append(want, slowNumber(b, word))
			}
		}
		if numbers, f := see.Numbers(b); !slices.Equal(numbers, want) || f != e {
			t.Errorf("Numbers of %v: %v %d, want %v %d", b, numbers, f, want, e)
		}
	}
}

// drawBooksWithoutCircles returns books whose words see only words that come behind them in some order.
func drawBooksWithoutCircles(seed int64, many int) []see.Book {
	r := rand.New(rand.NewSource(seed))
	var books []see.Book
	for range many {
		words := 1 + r.Intn(see.MaxWords)
		at := r.Perm(words)
		b := drawBook(r, words, see.MaxRefs)
		b.Refs = slices.DeleteFunc(b.Refs, func(ref [2]int) bool { return at[ref[0]] > at[ref[1]] })
		books = append(books, b)
	}
	return books
}
