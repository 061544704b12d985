package volume_test

import (
	"slices"
	"testing"

	"headword/volume"
)

// examineMemory examines that a change of a result does not change the next one.
func examineMemory[E comparable](t *testing.T, name string, result func() []E) {
	t.Helper()
	var other E
	r := result()
	want := slices.Clone(r)
	_ = append(r, other)
	clear(r)
	if again := result(); !slices.Equal(again, want) {
		t.Fatalf("%s: %v, then %v", name, want, again)
	}
}

// R4, P1: no memory is shared, no argument is changed, and equal arguments have equal results.
func TestOwnMemory(t *testing.T) {
	for _, b := range append(drawBooks(25, 200), edgeBooks()...) {
		before := clone(b)
		examineMemory(t, "Fewest", func() []int { r, _ := volume.Fewest(b); return r })
		examineMemory(t, "Why", func() [][2]int { r, _ := volume.Why(b); return r })
		examineMemory(t, "Cut", func() []int { r, _ := volume.Cut(b); return r })
		if !slices.Equal(b.Articles, before.Articles) {
			t.Fatalf("the articles %v are now %v", before.Articles, b.Articles)
		}
	}
}

// R4: arguments are not changed, nor is what lies behind them.
func TestArgumentsStay(t *testing.T) {
	want := append(bookA().Articles, articles(9, 9, 8, 8)...)
	behind := slices.Clone(want)
	b := withArticles(bookA(), behind[:5])
	ends := list(1, 3, 5, 9, 9)
	stretches := pairs(0, 2, 2, 4, 9, 9)
	for _, c := range []volume.Book{b, withRoom(b, 100, 1), withRoom(b, 1, 0)} {
		volume.Check(c)
		volume.Holds(c, ends[:3])
		volume.Safe(c, ends[:3])
		volume.Fewest(c)
		volume.Why(c)
		volume.Proves(c, 3, stretches[:2])
		volume.Level(c, 2)
		volume.Cut(c)
		volume.Count(c)
		volume.May(c, ends[:3])
		volume.Must(c, ends[:3])
		volume.Limit(c, ends[:3], 2)
	}
	if !slices.Equal(behind, want) || !slices.Equal(ends, list(1, 3, 5, 9, 9)) || !slices.Equal(stretches, pairs(0, 2, 2, 4, 9, 9)) {
		t.Errorf("the arguments are now %v, %v, %v", behind, ends, stretches)
	}
}

// P1: equal arguments have equal results, whatever was called between.
func TestNothingIsRemembered(t *testing.T) {
	books := drawBooks(26, 300)
	var cuts [][]int
	var whys [][][2]int
	for _, b := range books {
		cut, _ := volume.Cut(b)
		why, _ := volume.Why(b)
		cuts, whys = append(cuts, cut), append(whys, why)
	}
	for i, b := range slices.Backward(books) {
		if cut, _ := volume.Cut(b); !slices.Equal(cut, cuts[i]) {
			t.Errorf("Cut of %v: %v, then %v", b, cuts[i], cut)
		}
		if why, _ := volume.Why(b); !slices.Equal(why, whys[i]) {
			t.Errorf("Why of %v: %v, then %v", b, whys[i], why)
		}
	}
}
