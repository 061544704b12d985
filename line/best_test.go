package line_test

import (
	"slices"
	"testing"

	"headword/api"
	"headword/line"
)

// examineBest compares First, Least and Count with what they are to return.
func examineBest(t *testing.T, x line.Text, first []int, least, count int) {
	t.Helper()
	if ends, e := line.First(x); !slices.Equal(ends, first) || e != api.OK {
		t.Errorf("First of %v: %v %d, want %v", x, ends, e, first)
	}
	if n, e := line.Least(x); n != least || e != api.OK {
		t.Errorf("Least of %v: %d %d, want %d", x, n, e, least)
	}
	if n, e := line.Count(x); n != count || e != api.OK {
		t.Errorf("Count of %v: %d %d, want %d", x, n, e, count)
	}
}

// examinePrices compares Prices and Starts with what they are to return.
func examinePrices(t *testing.T, x line.Text, prices, starts []int) {
	t.Helper()
	if l, e := line.Prices(x); !slices.Equal(l, prices) || e != api.OK {
		t.Errorf("Prices of %v: %v %d, want %v", x, l, e, prices)
	}
	if l, e := line.Starts(x); !slices.Equal(l, starts) || e != api.OK {
		t.Errorf("Starts of %v: %v %d, want %v", x, l, e, starts)
	}
}

// P13.3
func TestFirstLeastAndCount(t *testing.T) {
	for _, x := range []struct {
		line.Text
		first        []int
		least, count int
	}{
		{textA(), list(2, 4, 5), 18, 1},
		{textB(), list(1, 3, 4), 10, 1},
		{textC(), list(3, 6), 1, 1},
		{text(1, 1), list(1), 0, 1},
		{text(40, 1), list(1), 0, 1},
		{text(5, 1, 5, 1), list(1, 2, 3), 16, 1},
		{text(7, 2, 2, 2, 2, 2), list(2, 4, 5), 8, 1}, // the last line costs nothing
		{text(3, 1, 1, 1, 1), list(2, 4), 0, 1},
		{text(2, 1, 1, 2), list(1, 2, 3), 2, 1},
		{text(40, 40, 1, 40), list(1, 2, 3), 1521, 1},
		{text(40, 1, 40, 1), list(1, 2, 3), 1521, 1},
		{flat(40, 10, 1), list(10), 0, 1},
		{flat(19, 10, 1), list(10), 0, 1},
		{flat(18, 10, 1), list(9, 10), 1, 1},
		{flat(4, 10, 1), list(2, 4, 6, 8, 10), 4, 1},
		{flat(1, 10, 1), list(1, 2, 3, 4, 5, 6, 7, 8, 9, 10), 0, 1},
		{flat(40, 10, 40), list(1, 2, 3, 4, 5, 6, 7, 8, 9, 10), 0, 1},
		{flat(40, 10, 21), list(1, 2, 3, 4, 5, 6, 7, 8, 9, 10), 9 * 361, 1},
		{text(4, 1, 2, 1, 3), list(1, 3, 4), 9, 2}, // 2, 3, 4 costs as much
		{text(4, 1, 1, 1, 3), list(1, 3, 4), 10, 2},
		{text(5, 1, 1, 1, 1, 1, 1, 1, 5), list(2, 4, 7, 8), 8, 3},
		{text(4, 2, 2, 1, 2, 2, 2, 1, 2, 2, 2), list(1, 2, 4, 5, 6, 8, 9, 10), 20, 4},
		{text(6, 4, 2, 3, 2, 2, 2, 4, 1, 4, 4), list(1, 2, 4, 6, 7, 9, 10), 25, 6},
		{text(7, 4, 1, 4, 4, 1, 4, 3, 2, 3, 4), list(1, 3, 4, 6, 7, 9, 10), 37, 8},
		{text(15, 10, 4, 3, 11, 3, 2, 10, 2), list(1, 3, 5, 7, 8), 78, 1}, // 2, 4, 6, 8 has a line less and costs 81
		{text(11, 6, 2, 5, 5, 2, 7, 2, 1, 9, 1), list(1, 3, 5, 7, 9, 10), 44, 1},
	} {
		examineBest(t, x.Text, x.first, x.least, x.count)
	}
}

// P13.3, M1, M3
func TestBestOfManyTexts(t *testing.T) {
	found := map[string]int{}
	for _, x := range manyTexts(5) {
		best, least := slowBest(x)
		examineBest(t, x, best[0], least, len(best))
		if len(best) > 1 {
			found["many"]++
		}
		full := slowFull(x)
		switch {
		case len(best[0]) > len(full):
			found["more lines than full ones"]++
		case slices.Equal(best[0], full):
			found["full"]++
		default:
			found["as many as full ones"]++
		}
	}
	if found["many"] < 100 || found["full"] < 1000 || found["as many as full ones"] < 100 || found["more lines than full ones"] < 5 {
		t.Errorf("so often the best ends are: %v", found)
	}
}

// P13.5, P13.7
func TestPricesAndStarts(t *testing.T) {
	for _, x := range []struct {
		line.Text
		prices, starts []int
	}{
		{textA(), list(0, 49, 9, 45, 18), list(0, 0, 2, 2, 4)},
		{textB(), list(0, 9, 0, 10), list(0, 0, 1, 3)},
		{textC(), list(0, 25, 9, 1, 18, 10), list(0, 0, 0, 2, 2, 3)},
		{text(1, 1), list(0), list(0)},
		{text(40, 1), list(0), list(0)},
		{text(40, 1, 1), list(0, 1521), list(0, 0)},
		{text(40, 1, 40), list(0, 1521), list(0, 1)},
		{text(4, 1, 1, 1, 3), list(0, 9, 1, 10), list(0, 0, 1, 3)}, // behind the third word the last line could begin at 2, too
		{text(5, 1, 5, 1), list(0, 16, 16), list(0, 1, 2)},
		{flat(4, 10, 1), list(0, 9, 1, 10, 2, 11, 3, 12, 4, 13), list(0, 0, 1, 2, 3, 4, 5, 6, 7, 8)},
		{flat(40, 10, 40), make([]int, 10), list(0, 1, 2, 3, 4, 5, 6, 7, 8, 9)},
		{flat(40, 10, 20), list(0, 400, 800, 1200, 1600, 2000, 2400, 2800, 3200, 3600), list(0, 1, 2, 3, 4, 5, 6, 7, 8, 9)},
		{flat(40, 10, 1), list(0, 39*39, 37*37, 35*35, 33*33, 31*31, 29*29, 27*27, 25*25, 23*23), make([]int, 10)},
		{flat(19, 10, 1), list(0, 18*18, 16*16, 14*14, 12*12, 100, 64, 36, 16, 4), make([]int, 10)},
		{flat(18, 10, 1), list(0, 17*17, 15*15, 13*13, 11*11, 81, 49, 25, 9, 1), list(0, 0, 0, 0, 0, 0, 0, 0, 0, 5)},
	} {
		examinePrices(t, x.Text, x.prices, x.starts)
	}
}

// P13.5, P13.7, M3
func TestPricesOfManyTexts(t *testing.T) {
	for _, x := range append(manyTexts(6), drawTexts(7, 300)...) {
		prices, starts := slowPrices(x)
		examinePrices(t, x, prices, starts)
	}
}
