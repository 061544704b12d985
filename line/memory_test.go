package line_test

import (
	"slices"
	"testing"

	"headword/line"
)

// examineMemory examines that a change of a result does not change the next one.
func examineMemory(t *testing.T, name string, result func() []int) {
	t.Helper()
	r := result()
	want := slices.Clone(r)
	_ = append(r, 77)
	for i := range r {
		r[i] = 99
	}
	if again := result(); !slices.Equal(again, want) {
		t.Fatalf("%s: %v, then %v", name, want, again)
	}
}

// R4, P1: no memory is shared, no argument is changed, and equal arguments have equal results.
func TestOwnMemory(t *testing.T) {
	for _, x := range append(drawTexts(32, 200), edgeTexts()...) {
		before := clone(x)
		ends := slowFull(x)
		endsBefore := slices.Clone(ends)
		examineMemory(t, "Left", func() []int { r, _ := line.Left(x, ends); return r })
		examineMemory(t, "First", func() []int { r, _ := line.First(x); return r })
		examineMemory(t, "Full", func() []int { r, _ := line.Full(x); return r })
		examineMemory(t, "Prices", func() []int { r, _ := line.Prices(x); return r })
		examineMemory(t, "Starts", func() []int { r, _ := line.Starts(x); return r })
		for word, length := range x.Words {
			examineMemory(t, "Grow", func() []int { r, _, _ := line.Grow(x, ends, word, 1); return r })
			examineMemory(t, "Grow", func() []int { r, _, _ := line.Grow(x, ends, word, x.Width-length); return r })
		}
		if !slices.Equal(x.Words, before.Words) || !slices.Equal(ends, endsBefore) {
			t.Fatalf("the arguments %v, %v are now %v, %v", before, endsBefore, x, ends)
		}
	}
}

// R4: arguments are not changed, nor is what lies behind them.
func TestArgumentsStay(t *testing.T) {
	words, ends, prices := list(1, 1, 1, 1, 1, 1, 77, 77, 77, 77), list(3, 6, 88, 88, 88, 88), list(0, 25, 9, 1, 18, 10, 99, 99)
	x := line.Text{Width: 6, Words: words[:6]}
	line.Check(x)
	line.Fits(x, ends[:2])
	line.Left(x, ends[:2])
	line.Cost(x, ends[:2])
	line.First(x)
	line.Least(x)
	line.Count(x)
	line.Full(x)
	line.Prices(x)
	line.Bound(x, prices[:6])
	line.Proves(x, ends[:2], prices[:6])
	line.Starts(x)
	for word := range 6 {
		for by := 1; by < 6; by++ {
			line.Grow(x, ends[:2], word, by)
		}
	}
	if !slices.Equal(words, list(1, 1, 1, 1, 1, 1, 77, 77, 77, 77)) || !slices.Equal(ends, list(3, 6, 88, 88, 88, 88)) || !slices.Equal(prices, list(0, 25, 9, 1, 18, 10, 99, 99)) {
		t.Errorf("the arguments are now %v, %v, %v", words, ends, prices)
	}
}

// R4: words, ends and prices may be one list.
func TestOneListTwice(t *testing.T) {
	l := list(1, 2, 3)
	x := text(3)
	x.Words = l
	examineFit(t, x, l, list(2, 1, 0), 5)
	examineGrow(t, x, l, 0, 1, list(1, 2, 3), 0, 0)
	examineGrow(t, x, l, 1, 1, list(1, 2, 3), 1, 0)
	examineProves(t, x, l, l, 14)
	if !slices.Equal(l, list(1, 2, 3)) {
		t.Errorf("the list is now %v", l)
	}
}

// allOf returns all results of a text, and of full lines one word of which grows.
func allOf(x line.Text) []int {
	a := &answers{}
	a.askText(x)
	a.askEnds(x, slowFull(x), a.numbers[:len(x.Words)], len(x.Words)/2, 2)
	for _, e := range a.errors {
		a.numbers = append(a.numbers, int(e))
	}
	return a.numbers
}

// P1: equal arguments have equal results, whatever was called between.
func TestNothingIsRemembered(t *testing.T) {
	texts := drawTexts(33, 300)
	var first [][]int
	for _, x := range texts {
		first = append(first, allOf(x))
	}
	for i, x := range slices.Backward(texts) {
		if again := allOf(x); !slices.Equal(again, first[i]) {
			t.Errorf("%v: %v, then %v", x, first[i], again)
		}
	}
}
