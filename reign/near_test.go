package reign_test

import (
	"math/big"
	"slices"
	"testing"

	"headword/api"
	"headword/reign"
)

// examineNearest compares Nearest, Blocks, Least and Rests with what they are to return.
func examineNearest(t *testing.T, l []reign.Source, values []reign.Frac, blocks []reign.Block, least reign.Frac, rests []reign.Frac) {
	t.Helper()
	if r, e := reign.Nearest(l); !slices.Equal(r, values) || e != api.OK {
		t.Errorf("Nearest of %v: %v %d, want %v", l, r, e, values)
	}
	if r, e := reign.Blocks(l); !slices.Equal(r, blocks) || e != api.OK {
		t.Errorf("Blocks of %v: %v %d, want %v", l, r, e, blocks)
	}
	if r, e := reign.Least(l); r != least || e != api.OK {
		t.Errorf("Least of %v: %v %d, want %v", l, r, e, least)
	}
	if r, e := reign.Rests(l); !slices.Equal(r, rests) || e != api.OK {
		t.Errorf("Rests of %v: %v %d, want %v", l, r, e, rests)
	}
}

// P8.3, P8.5
func TestNearestBlocksLeastAndRests(t *testing.T) {
	for _, x := range []struct {
		l      []reign.Source
		values []reign.Frac
		ends   []int // of blocks
		least  reign.Frac
		rests  []reign.Frac
	}{
		{sourcesA(), whole(2, 2, 2), list(3), frac(2, 1), whole(1, 0, 0)},
		{sourcesB(), whole(2, 2, 3, 3), list(2, 4), frac(16, 1), whole(3, 0, 2, 0)},
		{sourcesC(), whole(1, 2, 2), list(1, 3), frac(0, 1), whole(0, 0, 0)},
		{sources(0, 1), whole(0), list(1), frac(0, 1), whole(0)},
		{sources(100, 9), whole(100), list(1), frac(0, 1), whole(0)},
		{sources(2, 1, 1, 2), fracs(4, 3, 4, 3), list(2), frac(2, 3), fracs(2, 3, 0, 1)},
		{sources(2, 2, 1, 1), fracs(5, 3, 5, 3), list(2), frac(2, 3), fracs(2, 3, 0, 1)},
		{eight(5, 1), whole(5, 5, 5, 5, 5, 5, 5, 5), list(8), frac(0, 1), whole(0, 0, 0, 0, 0, 0, 0, 0)}, // equal years are one block
		{sources(2, 1, 3, 1, 1, 1), whole(2, 2, 2), list(3), frac(2, 1), whole(0, 1, 0)},                 // the last two have the mean of the first one
		{sources(3, 1, 1, 1, 2, 1, 4, 1, 0, 1), whole(2, 2, 2, 2, 2), list(5), frac(10, 1), whole(1, 0, 0, 2, 0)},
		{sources(4, 1, 5, 1, 0, 1), whole(3, 3, 3), list(3), frac(14, 1), whole(1, 3, 0)}, // what is joined falls below what was before it
		{sources(1, 1, 4, 1, 3, 1, 9, 1, 8, 1), fracs(1, 1, 7, 2, 7, 2, 17, 2, 17, 2), list(1, 3, 5), frac(1, 1), fracs(0, 1, 1, 2, 0, 1, 1, 2, 0, 1)},
		{sources(1, 1, 0, 2, 2, 1, 1, 4), fracs(1, 3, 1, 3, 6, 5, 6, 5), list(2, 4), frac(22, 15), fracs(2, 3, 0, 1, 4, 5, 0, 1)},
		{sources(100, 9, 0, 9, 100, 9, 0, 9, 100, 9, 0, 9, 100, 9, 0, 9), whole(50, 50, 50, 50, 50, 50, 50, 50), list(8), frac(180000, 1), whole(450, 0, 450, 0, 450, 0, 450, 0)},
		{sources(100, 9, 0, 8), fracs(900, 17, 900, 17), list(2), frac(720000, 17), fracs(7200, 17, 0, 1)},
		{sources(10, 8, 0, 9, 20, 7, 10, 8, 40, 9, 0, 4, 50, 6, 40, 5), fracs(80, 17, 80, 17, 44, 3, 44, 3, 360, 13, 360, 13, 500, 11, 500, 11), list(2, 4, 6, 8), frac(40114120, 7293), fracs(720, 17, 0, 1, 112, 3, 0, 1, 1440, 13, 0, 1, 300, 11, 0, 1)},
	} {
		var blocks []reign.Block
		begin := 0
		for _, end := range x.ends {
			blocks = append(blocks, reign.Block{Begin: begin, End: end, Value: x.values[begin]})
			begin = end
		}
		examineNearest(t, x.l, x.values, blocks, x.least, x.rests)
	}
}

// P8.3, P8.5, M3
func TestNearestOfManySources(t *testing.T) {
	found := [reign.MaxSources + 1]int{}
	for _, l := range manySources(5) {
		values := slowNearest(l)
		blocks := slowBlocks(values)
		examineNearest(t, l, fracsOf(values), blocks, fracOf(slowCost(l, values)), fracsOf(slowSums(l, values)))
		if len(l) == reign.MaxSources {
			found[len(blocks)]++
		}
	}
	if slices.Min(found[1:]) == 0 {
		t.Errorf("so many lists of 8 sources have 0, 1 and more blocks: %v", found)
	}
}

// P8.3: the slow nearest values are means; here all values with Dens that divide 12 are tried, which all means have.
func TestNearestOfAllValues(t *testing.T) {
	var numbers []*big.Rat
	for num := range 3*12 + 1 {
		numbers = append(numbers, ratio(num, 12))
	}
	for _, l := range slices.Concat(sourcesOf(1, 3, 4), sourcesOf(2, 3, 2), sourcesOf(3, 3, 1), sourcesOf(4, 3, 1)) {
		want := fracsOf(slowCheapest(l, numbers))
		if values, e := reign.Nearest(l); !slices.Equal(values, want) || e != api.OK {
			t.Errorf("Nearest of %v: %v %d, want %v", l, values, e, want)
		}
	}
}

// examineBounded compares Bounded with what it is to return.
func examineBounded(t *testing.T, l []reign.Source, low, high int, want []reign.Frac) {
	t.Helper()
	if values, e := reign.Bounded(l, low, high); !slices.Equal(values, want) || e != api.OK {
		t.Errorf("Bounded of %v, %d to %d: %v %d, want %v", l, low, high, values, e, want)
	}
}

// P8.7
func TestBounded(t *testing.T) {
	for _, x := range []struct {
		l         []reign.Source
		low, high int
		want      []reign.Frac
	}{
		{sourcesB(), 0, 2, whole(2, 2, 2, 2)},
		{sourcesB(), 3, 3, whole(3, 3, 3, 3)},
		{sourcesB(), 0, 100, whole(2, 2, 3, 3)},
		{sourcesB(), 2, 3, whole(2, 2, 3, 3)},
		{sourcesB(), 3, 100, whole(3, 3, 3, 3)},
		{sourcesB(), 0, 0, whole(0, 0, 0, 0)},
		{sourcesB(), 100, 100, whole(100, 100, 100, 100)},
		{sourcesC(), 2, 2, whole(2, 2, 2)},
		{sources(0, 1, 50, 2, 100, 3), 1, 99, whole(1, 50, 99)},
		{sources(2, 1, 1, 2), 1, 2, fracs(4, 3, 4, 3)},
		{sources(2, 1, 1, 2), 2, 2, whole(2, 2)},
		{sources(2, 1, 1, 2), 0, 1, whole(1, 1)},
	} {
		examineBounded(t, x.l, x.low, x.high, x.want)
	}
}

// P8.7, M3
func TestBoundedOfManySources(t *testing.T) {
	for _, l := range append(fewSources(), sourcesA(), sourcesB(), sourcesC()) {
		for low := range 5 {
			for high := low; high < 5; high++ {
				examineBounded(t, l, low, high, fracsOf(slowBounded(l, low, high)))
			}
		}
	}
	for _, l := range drawSources(6, 200) {
		// Bounds are most often met where they are years.
		for _, s := range l {
			for _, other := range l {
				low, high := min(s.Year, other.Year), max(s.Year, other.Year)
				examineBounded(t, l, low, high, fracsOf(slowBounded(l, low, high)))
			}
		}
	}
}

// P8.7, R1, R2
func TestErrorsOfBounded(t *testing.T) {
	for _, x := range []struct {
		low, high int
		want      api.Errno
	}{
		{4, 1, api.ErrOrder},
		{100, 0, api.ErrOrder},
		{1, 0, api.ErrOrder},
		{0, 101, api.ErrRange},
		{-1, 5, api.ErrRange},
		{101, 101, api.ErrRange},
		{-1, -1, api.ErrRange},
		{101, 0, api.ErrRange}, // not in order either
		{5, -1, api.ErrRange},  // so
		{0, -1, api.ErrRange},  // so
		{0, 1<<63 - 1, api.ErrRange},
		{-1 << 63, 100, api.ErrRange},
		{1<<63 - 1, -1 << 63, api.ErrRange},
	} {
		if values, e := reign.Bounded(sourcesB(), x.low, x.high); len(values) != 0 || e != x.want {
			t.Errorf("Bounded of %d to %d: %v %d, want %d", x.low, x.high, values, e, x.want)
		}
	}
}
