package quire_test

import (
	"math/rand"
	"slices"
	"strings"
	"testing"

	"headword/api"
	"headword/quire"
)

// P3.7
func TestWalkAndLanes(t *testing.T) {
	for _, x := range []struct {
		creases string
		walk    [][2]int
		lanes   pair
	}{
		{"", [][2]int{{0, 0}, {1, 0}}, pair{0, 0, api.ErrClash}},
		{"v", [][2]int{{0, 0}, {1, 0}, {1, 1}}, pair{0, 0, api.ErrClash}},
		{"h", [][2]int{{0, 0}, {1, 0}, {1, -1}}, pair{0, 0, api.ErrClash}},
		{"vh", [][2]int{{0, 0}, {1, 0}, {1, 1}, {2, 1}}, pair{0, 0, api.ErrClash}},
		{"vvh", [][2]int{{0, 0}, {1, 0}, {1, 1}, {0, 1}, {0, 2}}, pair{0, 0, api.ErrClash}},
		{"hhv", [][2]int{{0, 0}, {1, 0}, {1, -1}, {0, -1}, {0, -2}}, pair{0, 0, api.ErrClash}},
		{"vvv", [][2]int{{0, 0}, {1, 0}, {1, 1}, {0, 1}, {0, 0}}, pair{0, 0, api.ErrClash}},
		{"vvvv", [][2]int{{0, 0}, {1, 0}, {1, 1}, {0, 1}, {0, 0}, {1, 0}}, pair{0, 4, api.OK}},
		{"hhhh", [][2]int{{0, 0}, {1, 0}, {1, -1}, {0, -1}, {0, 0}, {1, 0}}, pair{0, 4, api.OK}},
		// It meets its own lane again though it turned both ways.
		{"vvvhhhh", [][2]int{{0, 0}, {1, 0}, {1, 1}, {0, 1}, {0, 0}, {-1, 0}, {-1, 1}, {0, 1}, {0, 0}}, pair{3, 7, api.OK}},
	} {
		if walk, e := quire.Walk(x.creases); !slices.Equal(walk, x.walk) || e != api.OK {
			t.Errorf("Walk of %q: %v %d, want %v", x.creases, walk, e, x.walk)
		}
		if got := asPair(quire.Lanes(x.creases)); got != x.lanes {
			t.Errorf("Lanes of %q: %v, want %v", x.creases, got, x.lanes)
		}
	}
}

// P3.7: on all short walks, and on drawn long ones.
func TestManyWalks(t *testing.T) {
	r := rand.New(rand.NewSource(7))
	all := append(textsUpTo(12, "vh"), strings.Repeat("v", quire.MaxCreases), strings.Repeat("vh", 31)+"v")
	for range 2000 {
		all = append(all, drawText(r, r.Intn(quire.MaxCreases+1), "vh"))
	}
	for _, folds := range allFolds() {
		// A part of such a walk goes through no lane twice, so that two of them meet late.
		half := slowCreases(folds)[:(1<<len(folds)-1)/2]
		all = append(all, half+drawText(r, r.Intn(16), "vh"))
	}
	for _, creases := range all {
		want := slowWalk(creases)
		if walk, e := quire.Walk(creases); !slices.Equal(walk, want) || e != api.OK {
			t.Errorf("Walk of %q: %v %d, want %v", creases, walk, e, want)
		}
		if got, lanes := asPair(quire.Lanes(creases)), slowLanes(want); got != lanes {
			t.Errorf("Lanes of %q: %v, want %v", creases, got, lanes)
		}
	}
}
