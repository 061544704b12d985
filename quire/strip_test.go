package quire_test

import (
	"slices"
	"testing"

	"headword/api"
	"headword/quire"
)

// P3.2, P3.3
func TestStrips(t *testing.T) {
	for _, x := range []struct {
		folds        string
		pile         []int
		upper, lower []int
		creases      string
		end          pair
	}{
		{"", list(0), list(1), list(2), "", pair{1, 0, api.OK}},
		{"o", list(1, 0), list(3, 2), list(4, 1), "v", pair{1, 1, api.OK}},
		{"u", list(0, 1), list(1, 4), list(2, 3), "h", pair{1, -1, api.OK}},
		{"oo", list(1, 2, 3, 0), list(7, 2, 3, 6), list(8, 1, 4, 5), "vvh", pair{0, 2, api.OK}},
		{"ou", list(3, 0, 1, 2), list(3, 6, 7, 2), list(4, 5, 8, 1), "hvv", pair{2, 0, api.OK}},
		{"uo", list(2, 1, 0, 3), list(5, 4, 1, 8), list(6, 3, 2, 7), "vhh", pair{2, 0, api.OK}},
		{"uu", list(0, 3, 2, 1), list(1, 8, 5, 4), list(2, 7, 6, 3), "hhv", pair{0, -2, api.OK}},
		{"ooo", list(1, 6, 5, 2, 3, 4, 7, 0), list(15, 2, 7, 10, 11, 6, 3, 14), list(16, 1, 8, 9, 12, 5, 4, 13), "vvhvvhh", pair{-2, 2, api.OK}},
	} {
		if pile, e := quire.Pile(x.folds); !slices.Equal(pile, x.pile) || e != api.OK {
			t.Errorf("Pile of %q: %v %d, want %v", x.folds, pile, e, x.pile)
		}
		if upper, lower, e := quire.Pages(x.folds); !slices.Equal(upper, x.upper) || !slices.Equal(lower, x.lower) || e != api.OK {
			t.Errorf("Pages of %q: %v %v %d, want %v %v", x.folds, upper, lower, e, x.upper, x.lower)
		}
		if got := asText(quire.Creases(x.folds)); got != (text{x.creases, api.OK}) {
			t.Errorf("Creases of %q: %v, want %q", x.folds, got, x.creases)
		}
		if got := asPair(quire.End(x.folds)); got != x.end {
			t.Errorf("End of %q: %v, want %v", x.folds, got, x.end)
		}
	}
}

// P3.2, P3.3
func TestAllStrips(t *testing.T) {
	for _, folds := range allFolds() {
		want := slowPile(folds)
		if pile, e := quire.Pile(folds); !slices.Equal(pile, want) || e != api.OK {
			t.Errorf("Pile of %q: %v %d, want %v", folds, pile, e, want)
		}
		above, beneath := slowPages(folds)
		if upper, lower, e := quire.Pages(folds); !slices.Equal(upper, above) || !slices.Equal(lower, beneath) || e != api.OK {
			t.Errorf("Pages of %q: %v %v %d, want %v %v", folds, upper, lower, e, above, beneath)
		}
		creases := slowCreases(folds)
		if got := asText(quire.Creases(folds)); got != (text{creases, api.OK}) {
			t.Errorf("Creases of %q: %v, want %q", folds, got, creases)
		}
		walk := slowWalk(creases)
		end := walk[len(walk)-1]
		if got := asPair(quire.End(folds)); got != (pair{end[0], end[1], api.OK}) {
			t.Errorf("End of %q: %v, want %v", folds, got, end)
		}
	}
}
