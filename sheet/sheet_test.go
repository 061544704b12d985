package sheet_test

import (
	"slices"
	"testing"

	"headword/api"
	"headword/sheet"
)

func TestLimits(t *testing.T) {
	if sheet.MaxSize != 24 || sheet.MaxPieces != 8 {
		t.Errorf("limits %d, %d", sheet.MaxSize, sheet.MaxPieces)
	}
}

// wrongJobs are jobs with an error, and the error that counts.
var wrongJobs = []struct {
	job
	want api.Errno
}{
	{job{25, nil}, api.ErrRange},
	{job{0, nil}, api.ErrRange},
	{job{-1, nil}, api.ErrRange},
	{job{1<<63 - 1, nil}, api.ErrRange},
	{job{-1 << 63, nil}, api.ErrRange},
	{job{1 << 62, nil}, api.ErrRange},
	{job{25, list(1, 1)}, api.ErrRange},
	{job{25, list(25)}, api.ErrRange},
	{job{0, list(0)}, api.ErrRange},
	{job{0, make([]int, 9)}, api.ErrRange}, // the size comes before too many pieces
	{job{25, make([]int, 100000)}, api.ErrRange},
	{job{10, list(1, 1, 1, 1, 1, 1, 1, 1, 1)}, api.ErrMany},
	{job{24, make([]int, 9)}, api.ErrMany}, // too many come before wrong ones
	{job{10, list(11, 0, 1, 1, 1, 1, 1, 1, 1)}, api.ErrMany},
	{job{1, make([]int, 100000)}, api.ErrMany},
	{job{10, list(11)}, api.ErrRange},
	{job{10, list(0)}, api.ErrRange},
	{job{10, list(-1)}, api.ErrRange},
	{job{23, list(24)}, api.ErrRange},
	{job{24, list(25)}, api.ErrRange},
	{job{1, list(2)}, api.ErrRange},
	{job{10, list(5, 6, 11, 5, 3)}, api.ErrRange},
	{job{10, list(5, 6, 4, 5, 0)}, api.ErrRange},
	{job{10, list(1, 1, 1, 1, 1, 1, 1, 11)}, api.ErrRange},
	{job{10, list(1<<63 - 1)}, api.ErrRange},
	{job{10, list(-1 << 63)}, api.ErrRange},
	{job{10, list(1 << 62)}, api.ErrRange},
}

// P9.1
func TestCheck(t *testing.T) {
	for _, j := range []job{
		jobA(), jobB(), jobC(), jobD(),
		{1, nil}, {24, nil}, {10, []int{}}, {1, list(1)}, {24, list(24)}, {24, list(1)}, {10, list(10, 1)},
		{1, list(1, 1, 1, 1, 1, 1, 1, 1)}, {24, list(24, 24, 24, 24, 24, 24, 24, 24)},
	} {
		if e := sheet.Check(j.size, j.pieces); e != api.OK {
			t.Errorf("Check of %v: %d", j, e)
		}
	}
	for _, x := range wrongJobs {
		if e := sheet.Check(x.size, x.pieces); e != x.want {
			t.Errorf("Check of %.9v: %d, want %d", x.job, e, x.want)
		}
	}
}

// P9.1
func TestCheckOfAllSizesAndLengths(t *testing.T) {
	for size := -2; size < 30; size++ {
		for length := -2; length < 30; length++ {
			want := api.OK
			if size < 1 || size > 24 || length < 1 || length > size {
				want = api.ErrRange
			}
			if e := sheet.Check(size, list(length)); e != want {
				t.Errorf("Check of %d, %d: %d, want %d", size, length, e, want)
			}
		}
	}
}

// examinePlanError examines that a plan has an error, whatever k is, and that there is no result besides it.
func examinePlanError(t *testing.T, j job, plan []int, want api.Errno) {
	t.Helper()
	left, e1 := sheet.Left(j.size, j.pieces, plan)
	groups, e2 := sheet.Groups(j.size, j.pieces, plan)
	errors := list(int(sheet.Valid(j.size, j.pieces, plan)), int(e1), int(e2))
	for _, k := range list(0, 3, -1, 13, 1<<62) {
		errors = append(errors, int(sheet.Proves(j.size, j.pieces, plan, k)))
	}
	if slices.ContainsFunc(errors, func(e int) bool { return e != int(want) }) {
		t.Errorf("%.9v, %.9v: errors %v, want %d", j, plan, errors, want)
	}
	if len(left) != 0 || len(groups) != 0 {
		t.Errorf("%.9v, %.9v: %v, %v besides an error", j, plan, left, groups)
	}
}

// P9.1, R2: the error of the job comes before all other ones.
func TestErrorsOfJobs(t *testing.T) {
	for _, x := range wrongJobs {
		size, pieces := x.size, x.pieces
		var errors []api.Errno
		for _, l := range lists(nil, list(0), list(0, 1, 2, 3, 4), list(9), list(-1), list(0, 0), make([]int, 20), make([]int, len(pieces))) {
			examinePlanError(t, x.job, l, x.want)
			plan, e1 := sheet.Plan(size, pieces, lists(l))
			fit, e2 := sheet.Fit(size, pieces, l)
			errors = append(errors, e1, e2)
			if len(plan) != 0 || len(fit) != 0 {
				t.Errorf("%.9v, %.9v: %v, %v besides an error", x.job, l, plan, fit)
			}
		}
		fall, e3 := sheet.Fall(size, pieces)
		fewest, e4 := sheet.Fewest(size, pieces)
		first, e5 := sheet.First(size, pieces)
		count, e6 := sheet.Count(size, pieces)
		is, e7 := sheet.Chain(size, pieces)
		k, e8 := sheet.Prove(size, pieces)
		errors = append(errors, e3, e4, e5, e6, e7, e8, errorOf(sheet.Plan(size, pieces, nil)))
		if len(fall) != 0 || fewest != 0 || len(first) != 0 || count != 0 || is || k != 0 {
			t.Errorf("%.9v: %v, %d, %v, %d, %v, %d besides an error", x.job, fall, fewest, first, count, is, k)
		}
		for _, k := range list(-1, 0, 1, 12, 13, 1<<62) {
			bound, e := sheet.Bound(size, pieces, k)
			errors = append(errors, e)
			if bound != 0 {
				t.Errorf("%.9v: bound %d of %d besides an error", x.job, bound, k)
			}
		}
		if slices.ContainsFunc(errors, func(e api.Errno) bool { return e != x.want }) {
			t.Errorf("%.9v: errors %v, want %d", x.job, errors, x.want)
		}
	}
}
