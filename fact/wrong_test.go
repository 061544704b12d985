package fact_test

import (
	"slices"
	"testing"

	"headword/api"
	"headword/fact"
)

// P4.2
func TestValid(t *testing.T) {
	for _, x := range []struct {
		b     fact.Book
		wrong []int
		want  api.Errno
	}{
		{bookC(), list(0, 3, 4), api.OK},
		{bookC(), list(0, 4, 5), api.OK},
		{bookC(), list(0, 1, 2, 3, 4, 5), api.OK}, // it need not be short
		{bookC(), list(1, 2, 3, 4), api.OK},
		{bookC(), list(0, 3), api.ErrOpen},
		{bookC(), list(1, 2, 4, 5), api.ErrOpen},
		{bookC(), nil, api.ErrOpen},
		{bookC(), list(), api.ErrOpen},
		{bookC(), list(3, 0), api.ErrOrder},
		{bookC(), list(0, 0), api.ErrOrder},
		{bookC(), list(0, 3, 3, 4), api.ErrOrder},
		{bookC(), list(6), api.ErrNone},
		{bookC(), list(-1), api.ErrNone},
		{bookC(), list(0, 3, -1), api.ErrNone}, // no article comes before the order
		{bookC(), list(1<<62, 0), api.ErrNone}, // the first number with an error counts
		{bookC(), list(-1<<63, 0), api.ErrNone},
		{bookC(), list(1, 0, 6), api.ErrOrder},
		{bookC(), list(1, 1), api.ErrOrder}, // numbers come before pairs
		{book(1), nil, api.OK},
		{book(1), list(0), api.OK},
		{book(1), list(1), api.ErrNone},
		{book(7), list(0, 1, 2, 3, 4, 5, 6), api.OK},
		{book(7), list(0, 1, 2, 3, 4, 5, 6, 7), api.ErrNone},
		{book(7, "56"), list(5), api.OK},
		{book(7, "56"), list(6), api.OK},
		{book(7, "56"), list(0, 1, 2, 3, 4), api.ErrOpen},
		{book(2, "01"), make([]int, 100001), api.ErrOrder},
	} {
		if e := fact.Valid(x.b, x.wrong); e != x.want {
			t.Errorf("Valid of %v, %v: %d, want %d", x.b, x.wrong, e, x.want)
		}
	}
}

// P4.2
func TestValidOfAllSets(t *testing.T) {
	for _, b := range manyBooks(2) {
		for _, set := range sets(b.Articles) {
			want := api.ErrOpen
			if slowWrong(b, set) {
				want = api.OK
			}
			if e := fact.Valid(b, set); e != want {
				t.Fatalf("Valid of %v, %v: %d, want %d", b, set, e, want)
			}
		}
	}
}

// P4.2
func TestFirstAndCount(t *testing.T) {
	for _, x := range []struct {
		b     fact.Book
		first []int
		count int
	}{
		{bookA(), list(1), 1},
		{bookB(), list(0, 1), 3},
		{bookC(), list(0, 3, 4), 3},
		{book(4), nil, 1},
		{book(1), nil, 1},
		{book(2, "01"), list(0), 2},
		{book(7, "56"), list(5), 2},
		{book(5, "01", "23"), list(0, 2), 4},
		{book(4, "23", "13", "03"), list(3), 1},
		{book(4, "01", "12", "23", "03"), list(0, 2), 2},
		{book(5, "02", "03", "04", "12", "13", "14"), list(0, 1), 1},
		{fact.Book{Articles: 5, Pairs: pairsOf(5)}, list(0, 1, 2, 3), 5},
		{book(7, "01", "12", "23", "34", "45", "56", "06"), list(0, 1, 3, 5), 7},
	} {
		examineFirst(t, x.b, x.first, x.count)
	}
}

// examineFirst compares First and Count with what they are to return.
func examineFirst(t *testing.T, b fact.Book, first []int, count int) {
	t.Helper()
	if l, e := fact.First(b); !slices.Equal(l, first) || e != api.OK {
		t.Errorf("First of %v: %v %d, want %v", b, l, e, first)
	}
	if n, e := fact.Count(b); n != count || e != api.OK {
		t.Errorf("Count of %v: %d %d, want %d", b, n, e, count)
	}
}

// P4.2, M1, M3
func TestFirstAndCountOfManyBooks(t *testing.T) {
	for _, b := range manyBooks(3) {
		lists := slowShortest(b)
		examineFirst(t, b, lists[0], len(lists))
	}
}
