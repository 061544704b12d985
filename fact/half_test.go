package fact_test

import (
	"slices"
	"testing"

	"headword/api"
	"headword/fact"
)

// P4.3
func TestHalf(t *testing.T) {
	for _, x := range []struct {
		b      fact.Book
		values []int
		want   api.Errno
	}{
		{bookB(), list(1, 1, 1), api.OK},
		{bookB(), list(2, 2, 0), api.OK},
		{bookB(), list(0, 2, 2), api.OK},
		{bookB(), list(2, 2, 2), api.OK}, // they need not be cheap
		{bookB(), list(2, 1, 0), api.ErrOpen},
		{bookB(), list(0, 2, 0), api.ErrOpen},
		{bookB(), list(0, 0, 0), api.ErrOpen},
		{bookB(), list(1, 1), api.ErrShape},
		{bookB(), list(1, 1, 1, 1), api.ErrShape},
		{bookB(), nil, api.ErrShape},
		{bookB(), list(3, 3), api.ErrShape}, // the shape comes before the numbers
		{bookB(), list(3, 0, 0), api.ErrRange},
		{bookB(), list(0, 0, -1), api.ErrRange}, // numbers come before pairs
		{bookB(), list(1, 1, 3), api.ErrRange},
		{bookB(), list(-1, 3, 3), api.ErrRange},
		{bookB(), list(1<<62, 1<<62, 1<<62), api.ErrRange},
		{bookB(), list(-1<<63, -1<<63, 0), api.ErrRange},
		{bookA(), list(0, 2, 0), api.OK},
		{bookA(), list(2, 0, 2), api.OK},
		{bookA(), list(2, 0, 1), api.ErrOpen}, // only the last pair
		{bookA(), list(1, 0, 2), api.ErrOpen}, // only the first pair
		{book(1), list(0), api.OK},
		{book(1), list(2), api.OK},
		{book(1), list(3), api.ErrRange},
		{book(1), list(), api.ErrShape},
		{book(7), list(0, 0, 0, 0, 0, 0, 0), api.OK},
		{book(7, "56"), list(0, 0, 0, 0, 0, 1, 1), api.OK},
		{book(7, "56"), list(2, 2, 2, 2, 2, 1, 0), api.ErrOpen},
	} {
		if e := fact.Half(x.b, x.values); e != x.want {
			t.Errorf("Half of %v, %v: %d, want %d", x.b, x.values, e, x.want)
		}
	}
}

// P4.3
func TestHalfOfAllLists(t *testing.T) {
	for _, b := range append(drawBooks(31, 60), booksOf(4)...) {
		for _, l := range allHalves[b.Articles] {
			want := api.ErrOpen
			if slowValues(b, l) {
				want = api.OK
			}
			if e := fact.Half(b, l); e != want {
				t.Fatalf("Half of %v, %v: %d, want %d", b, l, e, want)
			}
		}
	}
}

// P4.3
func TestHalves(t *testing.T) {
	for _, x := range []struct {
		b    fact.Book
		want []int
	}{
		{bookA(), list(0, 2, 0)},
		{bookB(), list(1, 1, 1)},
		{bookC(), list(2, 0, 0, 1, 1, 1)},
		{book(1), list(0)},
		{book(4), list(0, 0, 0, 0)},
		{book(2, "01"), list(0, 2)},
		{book(4, "01", "02", "03"), list(2, 0, 0, 0)},
		{book(4, "01", "12", "23"), list(0, 2, 0, 2)},
		{book(4, "01", "12", "23", "03"), list(0, 2, 0, 2)},
		{book(4, "01", "02", "03", "12", "13", "23"), list(1, 1, 1, 1)},
		{book(7, "01", "12", "23", "34", "45", "56", "06"), list(1, 1, 1, 1, 1, 1, 1)},
		{fact.Book{Articles: 5, Pairs: pairsOf(5)}, list(1, 1, 1, 1, 1)},
	} {
		if values, e := fact.Halves(x.b); !slices.Equal(values, x.want) || e != api.OK {
			t.Errorf("Halves of %v: %v %d, want %v", x.b, values, e, x.want)
		}
	}
}

// P4.3, M3
func TestHalvesOfManyBooks(t *testing.T) {
	for _, b := range manyBooks(33) {
		want := slowHalves(b)
		if values, e := fact.Halves(b); !slices.Equal(values, want) || e != api.OK {
			t.Errorf("Halves of %v: %v %d, want %v", b, values, e, want)
		}
	}
}

// P4.7
func TestSureAndRest(t *testing.T) {
	for _, x := range []struct {
		b            fact.Book
		wrong, right []int
		rest         fact.Book
		left         []int
	}{
		{bookA(), list(1), list(0, 2), fact.Book{}, nil},
		{bookB(), nil, nil, bookB(), list(0, 1, 2)},
		{bookC(), list(0), list(1, 2), bookB(), list(3, 4, 5)},
		{book(1), nil, list(0), fact.Book{}, nil},
		{book(2, "01"), list(1), list(0), fact.Book{}, nil},
		{book(4), nil, list(0, 1, 2, 3), fact.Book{}, nil},
		{book(5, "01", "23"), list(1, 3), list(0, 2, 4), fact.Book{}, nil},
		{book(6, "15", "35", "04", "13", "24"), list(4), list(0, 2), book(3, "02", "12", "01"), list(1, 3, 5)}, // the pairs stay in their order
		{book(4, "23", "02", "03", "01"), nil, nil, book(4, "23", "02", "03", "01"), list(0, 1, 2, 3)},
		{book(4, "23", "12", "13"), nil, list(0), book(3, "12", "01", "02"), list(1, 2, 3)},
	} {
		if wrong, right, e := fact.Sure(x.b); !slices.Equal(wrong, x.wrong) || !slices.Equal(right, x.right) || e != api.OK {
			t.Errorf("Sure of %v: %v %v %d, want %v %v", x.b, wrong, right, e, x.wrong, x.right)
		}
		if rest, left, e := fact.Rest(x.b); !equalBooks(rest, x.rest) || !slices.Equal(left, x.left) || e != api.OK {
			t.Errorf("Rest of %v: %v %v %d, want %v %v", x.b, rest, left, e, x.rest, x.left)
		}
	}
}

// P4.7, M2: each article is wrong, right or left, and its number in the rest is its place among those left.
func TestSureAndRestOfManyBooks(t *testing.T) {
	for _, b := range manyBooks(37) {
		var sorted [3][]int
		number := map[int]int{}
		for article, value := range slowHalves(b) {
			if value == 1 {
				number[article] = len(number)
			}
			sorted[value] = append(sorted[value], article)
		}
		want := fact.Book{Articles: len(number)}
		for _, pair := range b.Pairs {
			one, isLeft := number[pair[0]]
			other, areLeft := number[pair[1]]
			if isLeft && areLeft {
				want.Pairs = append(want.Pairs, [2]int{one, other})
			}
		}
		if wrong, right, e := fact.Sure(b); !slices.Equal(wrong, sorted[2]) || !slices.Equal(right, sorted[0]) || e != api.OK {
			t.Errorf("Sure of %v: %v %v %d, want %v %v", b, wrong, right, e, sorted[2], sorted[0])
		}
		if rest, left, e := fact.Rest(b); !equalBooks(rest, want) || !slices.Equal(left, sorted[1]) || e != api.OK {
			t.Errorf("Rest of %v: %v %v %d, want %v %v", b, rest, left, e, want, sorted[1])
		}
	}
}
