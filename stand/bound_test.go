package stand_test

import (
	"slices"
	"testing"

	"headword/api"
	"headword/stand"
)

// P6.5
func TestSpans(t *testing.T) {
	for _, x := range []struct {
		j    stand.Job
		want [][2]int
	}{
		{jobA(), [][2]int{{0, 3}, {1, 4}}},
		{jobB(), [][2]int{{0, 1}, {1, 3}}},
		{job(5, ""), nil},
		{job(1, "012345"), nil},
		{job(1, "555"), [][2]int{{0, 1}, {1, 2}}},
		{job(4, "0110"), [][2]int{{0, 3}, {1, 2}}},
		{job(2, "0101"), [][2]int{{0, 2}, {1, 3}}},
	} {
		if l, e := stand.Spans(x.j); !slices.Equal(l, x.want) || e != api.OK {
			t.Errorf("Spans of %v: %v %d, want %v", x.j, l, e, x.want)
		}
	}
	for _, j := range append(manyJobs(6), jobsOf(5)...) {
		if l, e := stand.Spans(j); !slices.Equal(l, slowSpans(j)) || e != api.OK {
			t.Errorf("Spans of %v: %v %d, want %v", j, l, e, slowSpans(j))
		}
	}
}

// examineBound compares Bound with what it is to return, and Proves with it.
func examineBound(t *testing.T, j stand.Job, times []int, bound int) {
	t.Helper()
	if n, e := stand.Bound(j, times); n != bound || e != api.OK {
		t.Errorf("Bound of %v, %v: %d %d, want %d", j, times, n, e, bound)
	}
	for _, settings := range list(-1<<63, -1, 0, bound-1, bound) {
		if e := stand.Proves(j, settings, times); settings <= bound && e != api.OK {
			t.Errorf("Proves of %v, %d, %v: %d", j, settings, times, e)
		}
	}
	for _, settings := range list(bound+1, 13, 1<<63-1) {
		if e := stand.Proves(j, settings, times); settings > bound && e != api.ErrProof {
			t.Errorf("Proves of %v, %d, %v: %d", j, settings, times, e)
		}
	}
}

// P6.5, P6.6
func TestBound(t *testing.T) {
	for _, x := range []struct {
		j     stand.Job
		times []int
		want  int
	}{
		{jobA(), list(2), 4},
		{jobA(), nil, 3},
		{jobA(), list(0), 2}, // the ends of a span are not inside
		{jobA(), list(1), 3},
		{jobA(), list(3), 3},
		{jobA(), list(4), 2},
		{jobA(), list(2, 3), 3}, // a span counts once
		{jobA(), list(1, 2, 3), 2},
		{jobA(), list(0, 1, 2, 3, 4), 0},
		{jobB(), list(0, 1, 2, 3), 3},
		{job(5, "010"), list(0, 1, 2), 0}, // not below 0
		{job(5, ""), nil, 0},
		{job(3, "0123012"), list(3), 5},
		{job(1, "012345012345"), list(1, 2, 3, 4, 5, 6, 7, 8, 9, 10), 12},
	} {
		examineBound(t, x.j, x.times, x.want)
	}
}

// P6.5, P6.6
func TestBoundOfAllTimes(t *testing.T) {
	for _, j := range manyJobs(7) {
		for _, times := range allTimes[len(j.Pages)] {
			if n, e := stand.Bound(j, times); n != slowBound(j, times) || e != api.OK {
				t.Fatalf("Bound of %v, %v: %d %d, want %d", j, times, n, e, slowBound(j, times))
			}
		}
	}
	for many := range 4 {
		for _, j := range jobsOf(many) {
			for _, times := range allTimes[many] {
				examineBound(t, j, times, slowBound(j, times))
			}
		}
	}
}

// P6.5, P6.6, R1
func TestErrorsOfTimes(t *testing.T) {
	for _, x := range []struct {
		j     stand.Job
		times []int
		want  api.Errno
	}{
		{jobA(), list(5), api.ErrNone},
		{jobA(), list(-1), api.ErrNone},
		{jobA(), list(1<<62, 0), api.ErrNone},
		{jobA(), list(-1<<63, 0), api.ErrNone},
		{jobA(), list(0, 1, 2, 3, 4, 5), api.ErrNone},
		{jobA(), list(2, -1), api.ErrNone}, // no time comes before the order
		{job(1, ""), list(0), api.ErrNone},
		{jobA(), list(2, 2), api.ErrOrder},
		{jobA(), list(3, 2), api.ErrOrder},
		{jobA(), list(0, 2, 4, 3), api.ErrOrder},
		{jobA(), list(0, 2, 1, 4), api.ErrOrder},
		{jobA(), list(1, 0, 9), api.ErrOrder}, // the first number with an error counts
		{jobA(), list(9, 1, 0), api.ErrNone},
		{jobA(), make([]int, 100000), api.ErrOrder},
	} {
		if n, e := stand.Bound(x.j, x.times); n != 0 || e != x.want {
			t.Errorf("Bound of %v, %.13v: %d %d, want %d", x.j, x.times, n, e, x.want)
		}
		for _, settings := range list(-1<<63, 0, 1<<63-1) { // the times come before the settings
			if e := stand.Proves(x.j, settings, x.times); e != x.want {
				t.Errorf("Proves of %v, %d, %.13v: %d, want %d", x.j, settings, x.times, e, x.want)
			}
		}
	}
}

// P6.6
func TestWhy(t *testing.T) {
	for _, x := range []struct {
		j    stand.Job
		want []int
	}{
		{jobA(), list(2)},
		{jobB(), list(2)},
		{job(3, ""), nil},
		{job(2, "333"), nil},
		{job(2, "0101"), nil},
		{job(1, "0101"), list(1, 2)},
		{job(1, "01210"), list(2)},
		{job(3, "0123012"), list(3)},
		{job(2, "0120"), nil},         // one time would be as good, but is more
		{job(2, "01234010"), list(2)}, // so would 3 and 4, but 2 is the first
		{job(1, "010000202"), list(1, 6, 7)},
	} {
		if l, e := stand.Why(x.j); !slices.Equal(l, x.want) || e != api.OK {
			t.Errorf("Why of %v: %v %d, want %v", x.j, l, e, x.want)
		}
	}
}

// P6.6, M4
func TestWhyOfManyJobs(t *testing.T) {
	long := 0
	for _, j := range append(manyJobs(8), jobsOf(5)...) {
		fewest, _ := slowBest(j, slowPlans(j))
		want, found := slowWhy(j, fewest)
		l, e := stand.Why(j)
		if !found || !slices.Equal(l, want) || e != api.OK {
			t.Errorf("Why of %v: %v %d, want %v", j, l, e, want)
		}
		if e, f := stand.Proves(j, fewest, l), stand.Proves(j, fewest+1, l); e != api.OK || f != api.ErrProof {
			t.Errorf("%v, %v: proves %d settings: %d, and one more: %d", j, l, fewest, e, f)
		}
		long = max(long, len(l))
	}
	if long < 4 {
		t.Errorf("Why has no more than %d times", long)
	}
}
