package sheet_test

import (
	"slices"
	"testing"

	"headword/api"
	"headword/sheet"
)

// examineFewest compares Fewest, First and Count with what they are to return.
func examineFewest(t *testing.T, j job, fewest int, first []int, count int) {
	t.Helper()
	if n, e := sheet.Fewest(j.size, j.pieces); n != fewest || e != api.OK {
		t.Errorf("Fewest of %v: %d %d, want %d", j, n, e, fewest)
	}
	if plan, e := sheet.First(j.size, j.pieces); !slices.Equal(plan, first) || e != api.OK {
		t.Errorf("First of %v: %v %d, want %v", j, plan, e, first)
	}
	if n, e := sheet.Count(j.size, j.pieces); n != count || e != api.OK {
		t.Errorf("Count of %v: %d %d, want %d", j, n, e, count)
	}
}

// P9.6
func TestFewestFirstAndCount(t *testing.T) {
	for _, x := range []struct {
		job
		fewest int
		first  []int
		count  int
	}{
		{jobA(), 3, list(0, 1, 0, 2, 1), 9},
		{jobB(), 2, list(0, 0, 1, 0, 1, 1), 7},
		{jobC(), 3, list(0, 0, 1, 1, 2), 15},
		{jobD(), 3, list(0, 1, 2, 2), 1},
		{job{10, nil}, 0, nil, 1},
		{job{1, list(1)}, 1, list(0), 1},
		{job{10, list(5, 5)}, 1, list(0, 0), 1},
		{job{10, list(5, 6)}, 2, list(0, 1), 1},
		{job{10, list(6, 6, 6)}, 3, list(0, 1, 2), 1},
		{job{1, list(1, 1, 1, 1, 1, 1, 1, 1)}, 8, list(0, 1, 2, 3, 4, 5, 6, 7), 1},
		{job{24, list(3, 3, 3, 3, 3, 3, 3, 3)}, 1, make([]int, 8), 1},
		{job{24, list(12, 12, 12, 12, 12, 12, 12, 12)}, 4, list(0, 0, 1, 1, 2, 2, 3, 3), 105}, // 7 * 5 * 3 ways to make pairs
		{job{24, list(8, 8, 8, 8, 8, 8, 8, 8)}, 3, list(0, 0, 0, 1, 1, 1, 2, 2), 280},         // 8! / (3! 3! 2!), halved, as either three may be told first
		{job{24, list(13, 13, 13, 13, 11, 11, 11, 11)}, 4, list(0, 1, 2, 3, 0, 1, 2, 3), 24},  // 4! ways to make pairs
		{job{12, list(4, 4, 4, 6, 6)}, 2, list(0, 0, 0, 1, 1), 1},
		{job{9, list(5, 4, 5, 4, 3, 3, 3)}, 3, list(0, 0, 1, 1, 2, 2, 2), 2},
		{job{10, list(4, 3, 3, 3, 3, 4)}, 2, list(0, 0, 0, 1, 1, 1), 6}, // the falling order needs 3 sheets
		{job{24, list(12, 8, 8, 8, 6, 6, 12)}, 3, list(0, 0, 1, 1, 1, 2, 2), 38},
		{job{20, list(11, 6, 3, 7, 6, 7, 10, 10)}, 3, list(0, 0, 0, 1, 1, 1, 2, 2), 2},  // only the two 6 can be exchanged
		{job{10, list(9, 9, 9, 1, 1, 1, 2, 8)}, 4, list(0, 1, 2, 0, 1, 2, 3, 3), 6},     // only the three 1 can be exchanged
		{job{24, list(24, 1, 24, 1, 24, 1, 24, 1)}, 5, list(0, 1, 2, 1, 3, 1, 4, 1), 1}, // each 24 has a sheet of its own
		{job{7, list(2, 2, 2, 2, 2, 2, 2, 2)}, 3, list(0, 0, 0, 1, 1, 1, 2, 2), 280},    // three to a sheet, and 1 left of it
		{job{23, list(1, 22, 2, 21, 3, 20, 4, 19)}, 4, list(0, 0, 1, 1, 2, 2, 3, 3), 1}, // each piece has the one that fills its sheet
		{job{11, list(5, 3, 3, 5, 4, 4, 2, 7)}, 3, list(0, 0, 0, 1, 1, 2, 1, 2), 4},     // nothing is left
		{job{24, list(1, 1, 1, 1, 1, 1, 1, 24)}, 2, list(0, 0, 0, 0, 0, 0, 0, 1), 1},    // the last piece needs a sheet of its own
		{job{24, list(1, 1, 1, 1, 1, 1, 1, 18)}, 2, list(0, 0, 0, 0, 0, 0, 0, 1), 127},  // any of the 1, but not all seven, may be with the 18
	} {
		examineFewest(t, x.job, x.fewest, x.first, x.count)
	}
}

// P9.6, M1, M3
func TestFewestFirstAndCountOfManyJobs(t *testing.T) {
	found := [sheet.MaxPieces + 1]int{}
	for _, j := range append(manyJobs(5), drawJobs(6, 300)...) {
		fewest, best := slowBest(j)
		examineFewest(t, j, fewest, best[0], len(best))
		if len(j.pieces) == sheet.MaxPieces {
			found[fewest]++
		}
	}
	if slices.Min(found[1:]) == 0 {
		t.Errorf("so many jobs of 8 pieces need 0, 1 and more sheets: %v", found)
	}
}
