package sheet_test

import (
	"slices"
	"testing"

	"headword/api"
	"headword/sheet"
)

// examineBound compares Bound with what it is to return.
func examineBound(t *testing.T, j job, k, want int) {
	t.Helper()
	if n, e := sheet.Bound(j.size, j.pieces, k); n != want || e != api.OK {
		t.Errorf("Bound of %v, %d: %d %d, want %d", j, k, n, e, want)
	}
}

// P9.8
func TestBound(t *testing.T) {
	for _, x := range []struct {
		job
		bounds []int
	}{
		{jobA(), list(3, 3, 3, 3, 2, 2)},
		{jobB(), list(2, 2, 2, 2, 1, 1, 1)},
		{jobC(), list(2, 2, 2, 2, 2, 0)},
		{jobD(), list(3, 3, 3, 3, 3, 2)},
		{job{10, nil}, make([]int, 6)},
		{job{1, nil}, list(0)},
		{job{1, list(1, 1)}, list(2)},
		{job{2, list(1, 2, 1, 1)}, list(3, 3)},
		{job{3, list(2, 1, 2, 1)}, list(2, 2)},    // halves of 2 leave 1 each
		{job{3, list(2, 1, 2, 1, 1)}, list(3, 3)}, // and one more is too much
		{job{3, list(3, 1, 1, 1, 1)}, list(3, 3)}, // 3 is a half by 0, and big by 1
		{job{9, list(5, 4, 5, 4, 3, 3, 3)}, list(3, 3, 3, 3, 2)},
		{job{10, list(8, 3, 3, 3)}, list(2, 2, 2, 2, 1, 1)},
		{job{10, list(8, 3, 3, 3, 3)}, list(2, 2, 2, 3, 1, 1)}, // without what 8 leaves
		{job{24, list(12, 8, 8, 8, 6, 6, 12)}, list(3, 3, 3, 3, 3, 3, 3, 2, 2, 1, 1, 1, 1)},
		{job{24, list(24, 24, 24, 24, 24, 24, 24, 24)}, slices.Repeat(list(8), 13)},
		{job{24, list(12, 12, 12, 12, 12, 12, 12, 12)}, slices.Repeat(list(4), 13)},
		{job{24, list(13, 13, 13, 13, 13, 13, 13, 13)}, slices.Repeat(list(8), 13)},
		{job{24, list(1, 1, 1, 1, 1, 1, 1, 1)}, list(1, 1, 0, 0, 0, 0, 0, 0, 0, 0, 0, 0, 0)},
	} {
		for k, want := range x.bounds {
			examineBound(t, x.job, k, want)
		}
		// Half of the size is the greatest k.
		for _, k := range list(-1, len(x.bounds), len(x.bounds)+1, x.size, 1<<62, 1<<63-1, -1<<63) {
			if n, e := sheet.Bound(x.size, x.pieces, k); n != 0 || e != api.ErrRange {
				t.Errorf("Bound of %v, %d: %d %d", x.job, k, n, e)
			}
		}
	}
}

// P9.8: all sizes with all lengths of one and of two pieces.
func TestBoundOfAllLengths(t *testing.T) {
	for size := 1; size <= sheet.MaxSize; size++ {
		for _, j := range slices.Concat(jobsOf(size, 0), jobsOf(size, 1), jobsOf(size, 2)) {
			for k := range half(size) + 1 {
				examineBound(t, j, k, slowBound(j, k))
			}
		}
	}
}

// P9.8
func TestBoundOfManyJobs(t *testing.T) {
	for _, j := range append(manyJobs(9), drawJobs(10, 2000)...) {
		for k := range half(j.size) + 1 {
			examineBound(t, j, k, slowBound(j, k))
		}
	}
}

// examineProve compares Prove with what it is to return.
func examineProve(t *testing.T, j job, want int, e api.Errno) {
	t.Helper()
	if k, f := sheet.Prove(j.size, j.pieces); k != want || f != e {
		t.Errorf("Prove of %v: %d %d, want %d %d", j, k, f, want, e)
	}
}

// P9.8, R2
func TestProve(t *testing.T) {
	for _, x := range []struct {
		job
		want int
		e    api.Errno
	}{
		{jobA(), 0, api.OK},
		{jobB(), 0, api.OK},
		{jobC(), 0, api.ErrLost},
		{jobD(), 0, api.OK},
		{job{10, nil}, 0, api.OK},
		{job{1, list(1)}, 0, api.OK},
		{job{10, list(8, 3, 3, 3, 3)}, 3, api.OK},
		{job{10, list(6, 3, 3, 3, 5)}, 0, api.ErrLost},
		{job{10, list(6, 6, 5, 5, 3, 3, 2)}, 0, api.ErrLost}, // though as many pieces are longer than 4 as there are sheets
		{job{10, list(9, 9, 2)}, 2, api.OK},
		{job{10, list(7, 7, 4)}, 4, api.OK},
		{job{10, list(6, 6, 5)}, 5, api.OK},
		{job{24, list(13, 13, 12)}, 12, api.OK},
		{job{10, list(4, 4, 4)}, 0, api.OK},
	} {
		examineProve(t, x.job, x.want, x.e)
	}
}

// P9.8
func TestProveOfManyJobs(t *testing.T) {
	found := map[int]int{}
	for _, j := range append(manyJobs(11), drawJobs(12, 600)...) {
		k, e := slowProve(j)
		examineProve(t, j, k, e)
		if e == api.ErrLost {
			k = -1
		}
		found[k]++
	}
	// 1 never comes first, as it has the bound of 0.
	for _, k := range list(-1, 0, 2, 3, 4, 5) {
		if found[k] == 0 {
			t.Errorf("so often Prove returns each k: %v", found)
		}
	}
}

// P9.8, R1
func TestProves(t *testing.T) {
	for _, x := range []struct {
		plan []int
		k    int
		want api.Errno
	}{
		{list(0, 1, 1, 0, 2), 0, api.OK},
		{list(0, 1, 1, 0, 2), 3, api.OK},
		{list(0, 1, 0, 2, 1), 2, api.OK},
		{list(0, 1, 1, 0, 2), 4, api.ErrProof},
		{list(0, 1, 1, 0, 2), 5, api.ErrProof},
		{list(0, 1, 2, 3, 4), 0, api.ErrProof},
		{list(0, 1, 1, 2, 3), 0, api.ErrProof},
		{list(0, 1, 1, 0, 2), 6, api.ErrRange},
		{list(0, 1, 1, 0, 2), -1, api.ErrRange},
		{list(0, 1, 1, 0, 2), 1 << 62, api.ErrRange},
		{list(0, 1, 2, 3, 4), 6, api.ErrRange}, // not proved either
		{list(0, 1), 6, api.ErrShape},          // the error of the plan comes first
		{list(0, -1, 0, 0, 0), 6, api.ErrNone},
		{list(1, 0, 0, 0, 0), -1, api.ErrOrder},
		{list(0, 0, 1, 1, 2), -1, api.ErrOver},
		{list(0, 0, 1, 1, 2), 0, api.ErrOver},
	} {
		if e := sheet.Proves(10, jobA().pieces, x.plan, x.k); e != x.want {
			t.Errorf("Proves of %v, %d: %d, want %d", x.plan, x.k, e, x.want)
		}
	}
	if e := sheet.Proves(10, nil, nil, 5); e != api.OK {
		t.Errorf("Proves of nothing: %d", e)
	}
}

// P9.8, M4
func TestProvesOfManyJobs(t *testing.T) {
	found := map[api.Errno]int{}
	for _, j := range manyJobs(13) {
		all := allPlans[len(j.pieces)]
		for i := 0; i < len(all); i += 1 + len(all)/60 {
			if slowValid(j, all[i]) != api.OK {
				continue
			}
			for k := -1; k <= half(j.size)+1; k++ {
				want := api.OK
				switch {
				case k < 0 || k > half(j.size):
					want = api.ErrRange
				case slowBound(j, k) != sheetsOf(all[i]):
					want = api.ErrProof
				}
				found[want]++
				if e := sheet.Proves(j.size, j.pieces, all[i], k); e != want {
					t.Errorf("Proves of %v, %v, %d: %d, want %d", j, all[i], k, e, want)
				}
			}
		}
	}
	if found[api.OK] < 1000 || found[api.ErrProof] < 1000 || found[api.ErrRange] < 1000 {
		t.Errorf("so often Proves returns each error: %v", found)
	}
}
