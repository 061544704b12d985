package stand_test

import (
	"slices"
	"testing"

	"headword/api"
	"headword/stand"
)

// examineRules compares the plans by the three rules with what they are to be.
func examineRules(t *testing.T, j stand.Job, later, oldest, recent []int) {
	t.Helper()
	if l, e := stand.Later(j); !slices.Equal(l, later) || e != api.OK {
		t.Errorf("Later of %v: %v %d, want %v", j, l, e, later)
	}
	if l, e := stand.Oldest(j); !slices.Equal(l, oldest) || e != api.OK {
		t.Errorf("Oldest of %v: %v %d, want %v", j, l, e, oldest)
	}
	if l, e := stand.Recent(j); !slices.Equal(l, recent) || e != api.OK {
		t.Errorf("Recent of %v: %v %d, want %v", j, l, e, recent)
	}
}

// P6.3
func TestRules(t *testing.T) {
	for _, x := range []struct {
		j                     stand.Job
		later, oldest, recent string
	}{
		{jobA(), "--1-0", "--012", "--012"},
		{jobB(), "--01", "--01", "--01"},
		{job(3, ""), "", "", ""},
		{job(2, "012"), "--0", "--0", "--0"},
		{job(2, "542"), "--4", "--5", "--5"},         // neither is asked for again: the smaller one
		{job(2, "01020"), "---1-", "---01", "---1-"}, // 0 was set before 1, but asked for after it
		{job(2, "012020"), "--1---", "--01--", "--01--"},
		{job(3, "0123012"), "---2--0", "---0123", "---0123"},
		{job(5, "012345"), "-----0", "-----0", "-----0"},
		{job(2, "010230"), "---12-", "---012", "---102"},
		{job(2, "0103123"), "---0-1-", "---0-1-", "---1031"},
		{job(2, "0120312"), "--1-03-", "--01203", "--01203"}, // a page that is set again is as old as that
	} {
		later, oldest, recent := digits(x.later), digits(x.oldest), digits(x.recent)
		examineRules(t, x.j, later, oldest, recent)
	}
}

// P6.3
func TestRulesOfManyJobs(t *testing.T) {
	different := 0
	for _, j := range append(manyJobs(3), jobsOf(5)...) {
		later, oldest, recent := slowByRule(j, slowLater), slowByRule(j, slowOldest), slowByRule(j, slowRecent)
		examineRules(t, j, later, oldest, recent)
		if !slices.Equal(later, oldest) && !slices.Equal(oldest, recent) && !slices.Equal(later, recent) {
			different++
		}
	}
	if different == 0 {
		t.Error("no job has three plans by the three rules")
	}
}
