package reign_test

import (
	"slices"
	"testing"

	"headword/reign"
)

// R4, P1: no memory is shared, no argument is changed, and equal arguments have equal results.
func TestOwnMemory(t *testing.T) {
	for _, l := range append(drawSources(1, 100), sourcesA(), sourcesB(), sourcesC()) {
		before := slices.Clone(l)
		examineMemory(t, "Nearest", func() []reign.Frac { r, _ := reign.Nearest(l); return r })
		examineMemory(t, "Blocks", func() []reign.Block { r, _ := reign.Blocks(l); return r })
		examineMemory(t, "Rests", func() []reign.Frac { r, _ := reign.Rests(l); return r })
		examineMemory(t, "Bounded", func() []reign.Frac { r, _ := reign.Bounded(l, 2, 50); return r })
		examineMemory(t, "Wrong", func() []int { r, _ := reign.Wrong(l); return r })
		if !slices.Equal(l, before) {
			t.Fatalf("the sources %v are now %v", before, l)
		}
	}
}

// examineMemory examines that a change of a result does not change the next one.
func examineMemory[E comparable](t *testing.T, name string, result func() []E) {
	t.Helper()
	var other E
	r := result()
	want := slices.Clone(r)
	_ = append(r, other)
	clear(r)
	if again := result(); !slices.Equal(again, want) {
		t.Fatalf("%s: %v, then %v", name, want, again)
	}
}

// R4: arguments are not changed, nor is what lies behind them.
func TestArgumentsStay(t *testing.T) {
	behind := append(sourcesB(), sourcesA()...)
	l := behind[:4]
	values := fracs(4, 2, 2, 1, 6, 2, 3, 1)
	reign.Check(l)
	reign.Falls(l)
	reign.Mean(l, 1, 3)
	reign.Nearest(l)
	reign.Blocks(l)
	reign.Least(l)
	reign.High(l, 2)
	reign.Low(l, 2)
	reign.Rests(l)
	reign.Proves(l, values)
	reign.Bounded(l, 2, 3)
	reign.Wrong(l)
	if !slices.Equal(behind, append(sourcesB(), sourcesA()...)) || !slices.Equal(values, fracs(4, 2, 2, 1, 6, 2, 3, 1)) {
		t.Errorf("the arguments are now %v, %v", behind, values)
	}
}

// P1: equal arguments have equal results, whatever was called between.
func TestNothingIsRemembered(t *testing.T) {
	lists := manySources(4)
	first := [][]reign.Block{}
	for _, l := range lists {
		blocks, _ := reign.Blocks(l)
		first = append(first, blocks)
	}
	for i, l := range slices.Backward(lists) {
		if blocks, _ := reign.Blocks(l); !slices.Equal(blocks, first[i]) {
			t.Errorf("Blocks of %v: %v, then %v", l, first[i], blocks)
		}
	}
}
