package fact_test

import (
	"slices"
	"testing"

	"headword/api"
	"headword/fact"
)

// P4.4
func TestShared(t *testing.T) {
	for _, x := range []struct {
		b      fact.Book
		shares []int
		want   api.Errno
	}{
		{bookB(), list(1, 1, 1), api.OK},
		{bookB(), list(2, 0, 0), api.OK},
		{bookB(), list(0, 0, 0), api.OK}, // they need not be worth much
		{bookB(), list(1, 0, 1), api.OK},
		{bookB(), list(2, 1, 0), api.ErrOver},
		{bookB(), list(0, 2, 1), api.ErrOver},
		{bookB(), list(2, 2, 2), api.ErrOver},
		{bookB(), list(1, 1), api.ErrShape},
		{bookB(), list(1, 1, 1, 0), api.ErrShape},
		{bookB(), nil, api.ErrShape},
		{bookB(), list(3, 3), api.ErrShape}, // the shape comes before the numbers
		{bookB(), list(3, 0, 0), api.ErrRange},
		{bookB(), list(2, 2, -1), api.ErrRange}, // numbers come before articles
		{bookB(), list(0, 0, 3), api.ErrRange},
		{bookB(), list(1<<62, 1<<62, 1<<62), api.ErrRange},
		{bookB(), list(-1<<63, 2, 0), api.ErrRange},
		{book(4, "01", "02", "03"), list(1, 1, 1), api.ErrOver}, // three pairs of one article
		{book(4, "03", "13", "23"), list(1, 1, 1), api.ErrOver}, // and of the last one
		{book(4, "01", "02", "03"), list(1, 0, 1), api.OK},
		{book(4, "01", "23"), list(2, 2), api.OK},
		{book(7, "46", "56"), list(1, 2), api.ErrOver},
		{book(1), nil, api.OK},
		{book(1), list(), api.OK},
		{book(1), list(0), api.ErrShape},
		{bookC(), list(0, 2, 0, 1, 1, 1), api.OK},
		{fact.Book{Articles: 5, Pairs: pairsOf(5)}, list(1, 0, 0, 1, 1, 0, 0, 1, 0, 1), api.OK},
		{fact.Book{Articles: 5, Pairs: pairsOf(5)}, list(1, 0, 0, 1, 1, 0, 0, 1, 1, 1), api.ErrOver},
	} {
		if e := fact.Shared(x.b, x.shares); e != x.want {
			t.Errorf("Shared of %v, %v: %d, want %d", x.b, x.shares, e, x.want)
		}
	}
}

// P4.4
func TestSharedOfAllLists(t *testing.T) {
	for _, b := range append(drawBooks(41, 60), booksOf(4)...) {
		for _, l := range allHalves[len(b.Pairs)] {
			want := api.ErrOver
			if slowBorne(b, l) {
				want = api.OK
			}
			if e := fact.Shared(b, l); e != want {
				t.Fatalf("Shared of %v, %v: %d, want %d", b, l, e, want)
			}
		}
	}
}

// P4.4, P4.6
func TestSharesAndRings(t *testing.T) {
	for _, x := range []struct {
		b      fact.Book
		shares []int
		rings  [][]int
	}{
		{bookA(), list(0, 2), nil},
		{bookB(), list(1, 1, 1), [][]int{{0, 1, 2}}},
		{bookC(), list(0, 2, 0, 1, 1, 1), [][]int{{3, 4, 5}}},
		{book(4), nil, nil},
		{book(2, "01"), list(2), nil},
		{book(4, "01", "02", "03"), list(0, 0, 2), nil},
		{book(4, "01", "12", "23", "03"), list(0, 2, 0, 2), nil}, // an even ring
		{book(4, "01", "02", "03", "12", "13", "23"), list(0, 0, 2, 2, 0, 0), nil},
		{book(4, "01", "02", "12", "23"), list(2, 0, 0, 2), nil}, // a ring that is not needed
		{book(5, "03", "13", "14", "24", "02"), list(1, 1, 1, 1, 1), [][]int{{0, 2, 4, 1, 3}}},
		{book(5, "04", "34", "23", "12", "01"), list(1, 1, 1, 1, 1), [][]int{{0, 1, 2, 3, 4}}},
		{book(7, "06", "56", "45", "34", "23", "12", "01"), list(1, 1, 1, 1, 1, 1, 1), [][]int{{0, 1, 2, 3, 4, 5, 6}}},
		{book(6, "34", "35", "45", "01", "02", "12"), list(1, 1, 1, 1, 1, 1), [][]int{{0, 1, 2}, {3, 4, 5}}},
		{book(6, "15", "35", "13", "04", "24", "02"), list(1, 1, 1, 1, 1, 1), [][]int{{0, 2, 4}, {1, 3, 5}}},
		{book(7, "01", "02", "12", "34", "35", "45", "06"), list(0, 0, 2, 1, 1, 1, 2), [][]int{{3, 4, 5}}},
		{fact.Book{Articles: 5, Pairs: pairsOf(5)}, list(0, 0, 0, 2, 1, 1, 0, 1, 0, 0), [][]int{{1, 2, 3}}},
	} {
		if shares, e := fact.Shares(x.b); !slices.Equal(shares, x.shares) || e != api.OK {
			t.Errorf("Shares of %v: %v %d, want %v", x.b, shares, e, x.shares)
		}
		if rings, e := fact.Rings(x.b); !equalLists(rings, x.rings) || e != api.OK {
			t.Errorf("Rings of %v: %v %d, want %v", x.b, rings, e, x.rings)
		}
	}
}

// P4.4, P4.6, M1, M3
func TestSharesAndRingsOfManyBooks(t *testing.T) {
	for _, b := range manyBooks(44) {
		want := slowShares(b)
		if shares, e := fact.Shares(b); !slices.Equal(shares, want) || e != api.OK {
			t.Errorf("Shares of %v: %v %d, want %v", b, shares, e, want)
		}
		wanted := slowRings(b.Articles, pairsWith(b, want, 1))
		if rings, e := fact.Rings(b); !equalLists(rings, wanted) || e != api.OK {
			t.Errorf("Rings of %v: %v %d, want %v", b, rings, e, wanted)
		}
	}
}

// P4.5
func TestProves(t *testing.T) {
	for _, x := range []struct {
		b              fact.Book
		values, shares []int
		want           api.Errno
	}{
		{bookB(), list(1, 1, 1), list(1, 1, 1), api.OK},
		{bookB(), list(2, 2, 0), list(1, 1, 1), api.ErrProof},
		{bookB(), list(1, 1, 1), list(0, 0, 2), api.ErrProof},
		{bookB(), list(1, 1, 1), list(0, 0, 0), api.ErrProof},
		{bookB(), list(1, 1, 1), list(2, 1, 0), api.ErrOver}, // shares come before what they are worth
		{bookB(), list(2, 2, 2), list(2, 2, 2), api.ErrOver},
		{bookB(), list(2, 1, 0), list(2, 1, 0), api.ErrOpen}, // values come before shares
		{bookB(), list(2, 1, 0), list(1, 1, 1), api.ErrOpen}, // and before what they cost
		{bookB(), list(1, 1), list(3), api.ErrShape},
		{bookB(), list(0, 0, 3), list(3), api.ErrRange},
		{bookB(), list(1, 1, 1), nil, api.ErrShape},
		{bookB(), list(1, 1, 1), list(0, 0, 3), api.ErrRange},
		{bookB(), list(2, 1, 0), nil, api.ErrOpen},
		{bookA(), list(0, 2, 0), list(2, 0), api.OK}, // any shares that are worth as much do
		{bookA(), list(0, 2, 0), list(1, 1), api.OK},
		{bookA(), list(1, 1, 1), list(0, 2), api.ErrProof},
		{book(2, "01"), list(1, 1), list(2), api.OK}, // and any values
		{book(1), list(0), nil, api.OK},
		{book(1), list(1), nil, api.ErrProof},
	} {
		if e := fact.Proves(x.b, x.values, x.shares); e != x.want {
			t.Errorf("Proves of %v, %v, %v: %d, want %d", x.b, x.values, x.shares, e, x.want)
		}
	}
}

// P4.5, M4: all values and shares of small books.
func TestProvesOfAllLists(t *testing.T) {
	for _, b := range append(booksOf(3), book(4, "23", "01", "12"), book(4, "03", "13", "23")) {
		for _, values := range allHalves[b.Articles] {
			for _, shares := range allHalves[len(b.Pairs)] {
				want := api.OK
				switch {
				case !slowValues(b, values):
					want = api.ErrOpen
				case !slowBorne(b, shares):
					want = api.ErrOver
				case sum(values) != sum(shares):
					want = api.ErrProof
				}
				if e := fact.Proves(b, values, shares); e != want {
					t.Fatalf("Proves of %v, %v, %v: %d, want %d", b, values, shares, e, want)
				}
			}
		}
	}
}
