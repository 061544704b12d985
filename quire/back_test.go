package quire_test

import (
	"math/rand"
	"slices"
	"testing"

	"headword/api"
	"headword/quire"
)

// P3.5
func TestFoldsAndWhy(t *testing.T) {
	for _, x := range []struct {
		creases string
		folds   text
		why     pair
	}{
		{"", text{"", api.OK}, pair{0, 0, api.ErrClash}},
		{"v", text{"o", api.OK}, pair{0, 0, api.ErrClash}},
		{"h", text{"u", api.OK}, pair{0, 0, api.ErrClash}},
		{"hvv", text{"ou", api.OK}, pair{0, 0, api.ErrClash}},
		{"vvh", text{"oo", api.OK}, pair{0, 0, api.ErrClash}},
		{"vvv", text{"", api.ErrLost}, pair{0, 2, api.OK}},
		{"hvh", text{"", api.ErrLost}, pair{0, 2, api.OK}},
		{"vvhvvhh", text{"ooo", api.OK}, pair{0, 0, api.ErrClash}},
		{"vvhvvvh", text{"", api.ErrLost}, pair{1, 5, api.OK}}, // of the second fold alone
		{"vvhvhhh", text{"", api.ErrLost}, pair{0, 4, api.OK}}, // different ones that should be equal
		{"vvhvvhv", text{"", api.ErrLost}, pair{0, 6, api.OK}},
		{"vvvvvhv", text{"", api.ErrLost}, pair{0, 2, api.OK}},
	} {
		if got := asText(quire.Folds(x.creases)); got != x.folds {
			t.Errorf("Folds of %q: %v, want %v", x.creases, got, x.folds)
		}
		if got := asPair(quire.Why(x.creases)); got != x.why {
			t.Errorf("Why of %q: %v, want %v", x.creases, got, x.why)
		}
	}
}

// P3.5
func TestManyCreases(t *testing.T) {
	found := foldsByCreases()
	for _, creases := range manyCreases(5) {
		folds, is := found[creases]
		want := text{folds, api.OK}
		if !is {
			want.e = api.ErrLost
		}
		if got := asText(quire.Folds(creases)); got != want {
			t.Errorf("Folds of %q: %v, want %v", creases, got, want)
		}
		if got, why := asPair(quire.Why(creases)), slowWhy(creases); got != why {
			t.Errorf("Why of %q: %v, want %v", creases, got, why)
		}
	}
}

// P3.5
func TestProves(t *testing.T) {
	for _, x := range []struct {
		creases string
		i, j    int
		want    api.Errno
	}{
		{"vvv", 0, 2, api.OK},
		{"vvv", 0, 1, api.ErrProof},
		{"vvv", 1, 2, api.ErrProof},
		{"vvh", 0, 2, api.ErrProof},
		{"vvv", 2, 0, api.ErrOrder},
		{"vvv", 1, 1, api.ErrOrder},
		{"vvv", 1, 0, api.ErrOrder},
		{"vvv", 0, 3, api.ErrNone},
		{"vvv", 3, 0, api.ErrNone}, // no crease comes before the order
		{"vvv", -1, 0, api.ErrNone},
		{"vvv", 0, -1, api.ErrNone},
		{"vvv", -1, -1, api.ErrNone},
		{"vvv", 3, 3, api.ErrNone},
		{"vvv", -1 << 63, 1<<63 - 1, api.ErrNone},
		{"vvv", 1<<63 - 1, 0, api.ErrNone},
		{"", 0, 0, api.ErrNone},
		{"v", 0, 0, api.ErrOrder},
		{"vvhvvvh", 1, 5, api.OK},
		{"vvhvhhh", 0, 4, api.OK},
		{"vvhvhhh", 2, 4, api.OK},
		{"vvhvhhh", 4, 6, api.OK},
		{"vvhvhhh", 2, 6, api.ErrProof},
		{"vvhvhhh", 3, 6, api.ErrProof},
	} {
		if e := quire.Proves(x.creases, x.i, x.j); e != x.want {
			t.Errorf("Proves of %q, %d, %d: %d, want %d", x.creases, x.i, x.j, e, x.want)
		}
	}
}

// P3.5, M4: no two creases are accepted but those that clash.
func TestProvesOfAllPairs(t *testing.T) {
	r := rand.New(rand.NewSource(5))
	all := append(textsUpTo(3, "vh"), textsOf(7, "vh")...)
	for _, size := range []int{15, 31, 63} {
		for range 10 {
			all = append(all, drawText(r, size, "vh"))
		}
	}
	for _, creases := range all {
		for i := -1; i <= len(creases); i++ {
			for j := -1; j <= len(creases); j++ {
				want := api.ErrProof
				switch {
				case len(creases) == 2:
					want = api.ErrShape
				case i < 0 || i == len(creases) || j < 0 || j == len(creases):
					want = api.ErrNone
				case i >= j:
					want = api.ErrOrder
				case slowClash(creases, i, j):
					want = api.OK
				}
				if e := quire.Proves(creases, i, j); e != want {
					t.Fatalf("Proves of %q, %d, %d: %d, want %d", creases, i, j, e, want)
				}
			}
		}
	}
}

// P3.6
func TestFolded(t *testing.T) {
	twice := append(slowPile("ououou")[:63], 0)
	for _, x := range []struct {
		pile []int
		want text
	}{
		{list(0), text{"", api.OK}},
		{list(1, 0), text{"o", api.OK}},
		{list(0, 1), text{"u", api.OK}},
		{list(3, 0, 1, 2), text{"ou", api.OK}},
		{list(1, 2, 3, 0), text{"oo", api.OK}},
		{list(0, 1, 2, 3), text{"", api.ErrLost}},
		{list(3, 2, 1, 0), text{"", api.ErrLost}},
		{list(1, 6, 5, 2, 3, 4, 0, 7), text{"", api.ErrLost}},
		{slowPile("ououou"), text{"ououou", api.OK}},
		{nil, text{"", api.ErrShape}},
		{list(), text{"", api.ErrShape}},
		{list(0, 1, 2), text{"", api.ErrShape}},
		{list(9, 9, 9), text{"", api.ErrShape}}, // the shape comes before the numbers
		{make([]int, 63), text{"", api.ErrShape}},
		{make([]int, 64), text{"", api.ErrTwice}},
		{make([]int, 65), text{"", api.ErrMany}}, // too many come before the shape
		{make([]int, 128), text{"", api.ErrMany}},
		{make([]int, 100000), text{"", api.ErrMany}},
		{twice, text{"", api.ErrTwice}},
		{list(1), text{"", api.ErrNone}},
		{list(-1), text{"", api.ErrNone}},
		{list(0, 2), text{"", api.ErrNone}},
		{list(2, 2), text{"", api.ErrNone}}, // no square comes before a number that occurs before
		{list(1, 1), text{"", api.ErrTwice}},
		{list(0, 0, 9, 9), text{"", api.ErrTwice}}, // the first number with an error counts
		{list(0, 9, 0, 0), text{"", api.ErrNone}},
		{list(0, 1<<63-1), text{"", api.ErrNone}},
		{list(-1<<63, 0), text{"", api.ErrNone}},
	} {
		if got := asText(quire.Folded(x.pile)); got != x.want {
			t.Errorf("Folded of %v: %v, want %v", x.pile, got, x.want)
		}
	}
}

// orders returns all lists of the squares of a strip.
func orders(squares int) [][]int {
	all := [][]int{nil}
	for square := range squares {
		var longer [][]int
		for _, l := range all {
			for at := range len(l) + 1 {
				longer = append(longer, slices.Insert(slices.Clone(l), at, square))
			}
		}
		all = longer
	}
	return all
}

// manyPiles returns all piles of at most 8 squares, those of all folds, these with any two neighbours exchanged and with two drawn places exchanged, and drawn ones.
func manyPiles(seed int64) [][]int {
	r := rand.New(rand.NewSource(seed))
	all := slices.Concat(orders(1), orders(2), orders(4), orders(8))
	for _, folds := range append(textsOf(4, "ou"), append(textsOf(5, "ou"), textsOf(6, "ou")...)...) {
		pile := slowPile(folds)
		all = append(all, pile, r.Perm(len(pile)))
		for i := 1; i < len(pile); i++ {
			all = append(all, swapped(pile, i-1, i), swapped(pile, r.Intn(len(pile)), r.Intn(len(pile))))
		}
	}
	return all
}

// swapped returns a list with the numbers of two places exchanged.
func swapped(l []int, i, j int) []int {
	other := slices.Clone(l)
	other[i], other[j] = other[j], other[i]
	return other
}

// P3.6
func TestFoldedOfManyPiles(t *testing.T) {
	found := foldsByPile()
	for _, pile := range manyPiles(6) {
		folds, is := found[bytesOf(pile)]
		want := text{folds, api.OK}
		if !is {
			want.e = api.ErrLost
		}
		if got := asText(quire.Folded(pile)); got != want {
			t.Errorf("Folded of %v: %v, want %v", pile, got, want)
		}
	}
}
