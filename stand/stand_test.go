package stand_test

import (
	"slices"
	"testing"

	"headword/api"
	"headword/stand"
)

func TestLimits(t *testing.T) {
	if stand.MaxRoom != 5 || stand.MaxAsked != 12 || stand.MaxPages != 6 {
		t.Errorf("limits %d, %d, %d", stand.MaxRoom, stand.MaxAsked, stand.MaxPages)
	}
}

// wrongJobs are jobs with an error, and the error that counts.
var wrongJobs = []struct {
	j    stand.Job
	want api.Errno
}{
	{job(0, ""), api.ErrRange},
	{job(6, ""), api.ErrRange},
	{job(0, "01201"), api.ErrRange},
	{job(6, "01201"), api.ErrRange},
	{job(-1, "0"), api.ErrRange},
	{job(1<<62, "0"), api.ErrRange},
	{job(-1<<63, "0"), api.ErrRange},
	{job(0, "6"), api.ErrRange}, // the room comes first
	{job(6, "0123450123450"), api.ErrRange},
	{job(5, "0123450123450"), api.ErrMany},
	{job(1, "0000000000000"), api.ErrMany},
	{job(1, "0123450123456"), api.ErrMany}, // too many come before wrong ones
	{job(1, "-666666666666"), api.ErrMany},
	{stand.Job{Room: 3, Pages: make([]int, 100000)}, api.ErrMany},
	{job(1, "6"), api.ErrNone},
	{job(5, "6"), api.ErrNone},
	{job(1, "-"), api.ErrNone},
	{job(2, "0126"), api.ErrNone},
	{job(2, "01-0"), api.ErrNone},
	{job(3, "012345012346"), api.ErrNone},
	{stand.Job{Room: 1, Pages: list(1 << 62)}, api.ErrNone},
	{stand.Job{Room: 1, Pages: list(0, -1<<63)}, api.ErrNone},
}

// P6.1
func TestCheck(t *testing.T) {
	for _, j := range []stand.Job{
		jobA(), jobB(), jobC(), jobD(), job(1, ""), job(5, ""), job(5, "505"), job(1, "012345012345"), job(5, "555555555555"),
		{Room: 2, Pages: []int{}},
	} {
		if e := stand.Check(j); e != api.OK {
			t.Errorf("Check of %v: %d", j, e)
		}
	}
	for _, x := range wrongJobs {
		if e := stand.Check(x.j); e != x.want {
			t.Errorf("Check of %d %.13v: %d, want %d", x.j.Room, x.j.Pages, e, x.want)
		}
	}
}

// P6.1, R2: the error of a job comes before all other ones, and there is no result besides it.
func TestErrorsOfJobs(t *testing.T) {
	for _, x := range wrongJobs {
		for _, wrong := range [][]int{nil, list(-1), list(0), make([]int, 20)} {
			settings, e1 := stand.Run(x.j, wrong)
			standing, e2 := stand.Standing(x.j, wrong)
			later, e3 := stand.Later(x.j)
			oldest, e4 := stand.Oldest(x.j)
			recent, e5 := stand.Recent(x.j)
			fewest, e6 := stand.Fewest(x.j)
			first, e7 := stand.First(x.j)
			count, e8 := stand.Count(x.j)
			spans, e9 := stand.Spans(x.j)
			bound, e10 := stand.Bound(x.j, wrong)
			why, e11 := stand.Why(x.j)
			e12 := stand.Proves(x.j, 1<<62, wrong)
			errors := []api.Errno{e1, e2, e3, e4, e5, e6, e7, e8, e9, e10, e11, e12}
			if slices.ContainsFunc(errors, func(e api.Errno) bool { return e != x.want }) {
				t.Errorf("%d %.13v: errors %v, want %d", x.j.Room, x.j.Pages, errors, x.want)
			}
			lists := len(standing) + len(later) + len(oldest) + len(recent) + len(first) + len(spans) + len(why)
			if lists != 0 || settings != 0 || fewest != 0 || count != 0 || bound != 0 {
				t.Errorf("%d %.13v has results", x.j.Room, x.j.Pages)
			}
		}
	}
}

// R3: lists without elements are equal, nil or not.
func TestNilLists(t *testing.T) {
	for _, pages := range [][]int{nil, {}} {
		for _, none := range [][]int{nil, {}} {
			j := stand.Job{Room: 1, Pages: pages}
			settings, e := stand.Run(j, none)
			standing, f := stand.Standing(j, none)
			if settings != 0 || e != api.OK || len(standing) != 0 || f != api.OK {
				t.Errorf("no pages: Run %d %d, Standing %v %d", settings, e, standing, f)
			}
			bound, e := stand.Bound(jobA(), none)
			if f := stand.Proves(jobA(), 3, none); bound != 3 || e != api.OK || f != api.OK {
				t.Errorf("no times: Bound %d %d, Proves %d", bound, e, f)
			}
		}
		examineNothing(t, stand.Job{Room: 3, Pages: pages})
	}
}

// examineNothing examines what the functions return of a job without pages.
func examineNothing(t *testing.T, j stand.Job) {
	t.Helper()
	for name, result := range lists(j) {
		if l := result(); len(l) != 0 {
			t.Errorf("%s of no pages: %v", name, l)
		}
	}
	fewest, e := stand.Fewest(j)
	count, f := stand.Count(j)
	spans, g := stand.Spans(j)
	if fewest != 0 || e != api.OK || count != 1 || f != api.OK || len(spans) != 0 || g != api.OK {
		t.Errorf("no pages: Fewest %d %d, Count %d %d, Spans %v %d", fewest, e, count, f, spans, g)
	}
}

// lists are the functions that return a list of numbers of a job.
func lists(j stand.Job) map[string]func() []int {
	return map[string]func() []int{
		"Later":  func() []int { l, _ := stand.Later(j); return l },
		"Oldest": func() []int { l, _ := stand.Oldest(j); return l },
		"Recent": func() []int { l, _ := stand.Recent(j); return l },
		"First":  func() []int { l, _ := stand.First(j); return l },
		"Why":    func() []int { l, _ := stand.Why(j); return l },
	}
}

// R4, P1: no memory is shared, no argument is changed, and equal arguments have equal results.
func TestOwnMemory(t *testing.T) {
	for _, j := range append(drawJobs(4, 100), jobA(), jobB(), jobC(), jobD()) {
		before := clone(j)
		for name, result := range lists(j) {
			l := result()
			want := slices.Clone(l)
			clear(append(l, 9))
			if again := result(); !slices.Equal(again, want) || !equalJobs(j, before) {
				t.Fatalf("%s of %v: %v, then %v", name, before, want, again)
			}
		}
		spans, _ := stand.Spans(j)
		wantSpans := slices.Clone(spans)
		clear(spans)
		if again, _ := stand.Spans(j); !slices.Equal(again, wantSpans) || !equalJobs(j, before) {
			t.Fatalf("Spans of %v: %v, then %v", before, wantSpans, again)
		}
	}
}

// R4: what stands at one time shares no memory with what stands at another one.
func TestStandingHasOwnMemory(t *testing.T) {
	plan := list(-1, -1, 1, -1, 0)
	standing, _ := stand.Standing(jobA(), plan)
	for i := range standing {
		_ = append(standing[i], 9)
		for at := range standing[i] {
			standing[i][at] = 9
		}
		for _, other := range standing[i+1:] {
			if slices.Contains(other, 9) {
				t.Errorf("time %d changed another one: %v", i, standing)
			}
		}
	}
	again, _ := stand.Standing(jobA(), plan)
	if want := [][]int{{0}, {0, 1}, {0, 2}, {0, 2}, {1, 2}}; !equal(again, want) || !slices.Equal(plan, list(-1, -1, 1, -1, 0)) {
		t.Errorf("Standing is now %v, the plan %v", again, plan)
	}
}

// R4: lists that are checked are not changed.
func TestArgumentsStay(t *testing.T) {
	j, plan, times := jobA(), list(-1, -1, 1, -1, 0), list(1, 2)
	stand.Check(j)
	stand.Run(j, plan)
	stand.Fewest(j)
	stand.Count(j)
	stand.Bound(j, times)
	stand.Proves(j, 4, times)
	if !equalJobs(j, jobA()) || !slices.Equal(plan, list(-1, -1, 1, -1, 0)) || !slices.Equal(times, list(1, 2)) {
		t.Errorf("the arguments are now %v, %v, %v", j, plan, times)
	}
}
