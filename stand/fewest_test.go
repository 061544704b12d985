package stand_test

import (
	"slices"
	"testing"

	"headword/api"
	"headword/stand"
)

// examineFewest compares Fewest, First and Count with what they are to return.
func examineFewest(t *testing.T, j stand.Job, fewest int, first []int, count int) {
	t.Helper()
	if n, e := stand.Fewest(j); n != fewest || e != api.OK {
		t.Errorf("Fewest of %v: %d %d, want %d", j, n, e, fewest)
	}
	if l, e := stand.First(j); !slices.Equal(l, first) || e != api.OK {
		t.Errorf("First of %v: %v %d, want %v", j, l, e, first)
	}
	if n, e := stand.Count(j); n != count || e != api.OK {
		t.Errorf("Count of %v: %d %d, want %d", j, n, e, count)
	}
}

// P6.4
func TestFewestFirstAndCount(t *testing.T) {
	for _, x := range []struct {
		j      stand.Job
		fewest int
		first  string
		count  int
	}{
		{jobA(), 4, "--02-", 3},
		{jobB(), 3, "--01", 1},
		{job(1, ""), 0, "", 1},
		{job(1, "5"), 1, "-", 1},
		{job(2, "333"), 1, "---", 1},
		{job(2, "012"), 3, "--0", 2},
		{job(2, "542"), 3, "--4", 2},
		{job(2, "01020"), 3, "---1-", 1},
		{job(3, "0123012"), 5, "---03--", 6},
		{job(5, "012345"), 6, "-----0", 5},
		{job(5, "012340"), 5, "------", 1},
		{job(1, "012345012345"), 12, "-01234501234", 1},
	} {
		examineFewest(t, x.j, x.fewest, digits(x.first), x.count)
	}
	for _, x := range []struct {
		j    stand.Job
		want int
	}{{jobC(), 7}, {jobD(), 6}} {
		if n, e := stand.Fewest(x.j); n != x.want || e != api.OK {
			t.Errorf("Fewest of %v: %d %d, want %d", x.j, n, e, x.want)
		}
	}
}

// P6.4, M1, M3
func TestFewestOfManyJobs(t *testing.T) {
	most := 0
	for _, j := range append(manyJobs(5), jobsOf(5)...) {
		fewest, best := slowBest(j, slowPlans(j))
		examineFewest(t, j, fewest, best[0], len(best))
		most = max(most, len(best))
	}
	if most < 20 {
		t.Errorf("no job has more than %d best plans", most)
	}
}
