package stand_test

import (
	"math/rand"
	"slices"
	"testing"

	"headword/api"
	"headword/stand"
)

// run returns the settings of a plan that is to be right.
func run(t *testing.T, j stand.Job, plan []int, e api.Errno) int {
	t.Helper()
	settings, f := stand.Run(j, plan)
	if e != api.OK || f != api.OK {
		t.Fatalf("%v, %v: %d, Run: %d", j, plan, e, f)
	}
	return settings
}

// settings is how many pages the plans by the three rules set.
type settings struct {
	later, oldest, recent int
}

func settingsOf(t *testing.T, j stand.Job) settings {
	t.Helper()
	later, e := stand.Later(j)
	oldest, f := stand.Oldest(j)
	recent, g := stand.Recent(j)
	return settings{run(t, j, later, e), run(t, j, oldest, f), run(t, j, recent, g)}
}

func fewest(t *testing.T, j stand.Job) int {
	t.Helper()
	n, e := stand.Fewest(j)
	if e != api.OK {
		t.Fatalf("Fewest of %v: %d", j, e)
	}
	return n
}

func why(t *testing.T, j stand.Job) []int {
	t.Helper()
	l, e := stand.Why(j)
	if e != api.OK {
		t.Fatalf("Why of %v: %d", j, e)
	}
	return l
}

func bound(t *testing.T, j stand.Job, times []int) int {
	t.Helper()
	n, e := stand.Bound(j, times)
	if e != api.OK {
		t.Fatalf("Bound of %v, %v: %d", j, times, e)
	}
	return n
}

// P6.7
func TestNeededLastIsBest(t *testing.T) {
	for _, j := range manyJobs(9) {
		later := settingsOf(t, j).later
		for _, plan := range slowPlans(j) {
			if n := run(t, j, plan, api.OK); n < later {
				t.Fatalf("%v: %v needs %d settings, Later %d", j, plan, n, later)
			}
		}
		first, e := stand.First(j)
		if n := run(t, j, first, e); n != later || n != fewest(t, j) {
			t.Errorf("%v: First needs %d settings, Later %d, Fewest is %d", j, n, later, fewest(t, j))
		}
	}
}

// P6.8
func TestNoPlanIsBelowABound(t *testing.T) {
	for _, j := range manyJobs(10) {
		best, _ := slowBest(j, slowPlans(j))
		for _, times := range allTimes[len(j.Pages)] {
			if n := bound(t, j, times); n > best {
				t.Fatalf("a plan of %v has %d settings, but the bound of %v is %d", j, best, times, n)
			}
		}
		if l := why(t, j); bound(t, j, l) != best {
			t.Errorf("a plan of %v has %d settings, but the bound of %v is %d", j, best, l, bound(t, j, l))
		}
	}
}

// P6.9
func TestMoreRoom(t *testing.T) {
	worse := 0
	for _, j := range manyJobs(11) {
		if j.Room == stand.MaxRoom {
			continue
		}
		larger := stand.Job{Room: j.Room + 1, Pages: j.Pages}
		one, other := settingsOf(t, j), settingsOf(t, larger)
		if fewest(t, larger) > fewest(t, j) || other.recent > one.recent {
			t.Errorf("%v: Fewest %d, Recent %d; with more room %d, %d", j, fewest(t, j), one.recent, fewest(t, larger), other.recent)
		}
		if other.oldest > one.oldest {
			worse++
		}
	}
	if worse == 0 {
		t.Error("Oldest is nowhere worse with more room")
	}
	c, d := settingsOf(t, jobC()), settingsOf(t, jobD())
	if c.oldest != 9 || d.oldest != 10 || c.recent != 10 || d.recent != 8 {
		t.Errorf("Oldest %d, %d, Recent %d, %d", c.oldest, d.oldest, c.recent, d.recent)
	}
}

// P6.10
func TestRoomTimesAsMany(t *testing.T) {
	worse := 0
	for _, j := range manyJobs(12) {
		s, best := settingsOf(t, j), fewest(t, j)
		if max(s.recent, s.oldest) > j.Room*best {
			t.Errorf("%v: Fewest %d, Recent %d, Oldest %d", j, best, s.recent, s.oldest)
		}
		if min(s.recent, s.oldest) > best {
			worse++
		}
	}
	if worse == 0 {
		t.Error("Recent and Oldest are always best")
	}
}

// different returns how many different numbers a list has.
func different(l []int) int {
	l = slices.Clone(l)
	slices.Sort(l)
	return len(slices.Compact(l))
}

// P6.11
func TestPages(t *testing.T) {
	for _, j := range manyJobs(13) {
		pages := different(j.Pages)
		if fewest(t, j) < pages {
			t.Errorf("%v: Fewest %d", j, fewest(t, j))
		}
		for _, plan := range slowPlans(j) {
			n := run(t, j, plan, api.OK)
			if pages <= j.Room && n != pages {
				t.Errorf("%v: %v needs %d settings", j, plan, n)
			}
			if saved := savedBy(t, j, plan); saved != len(j.Pages)-n {
				t.Errorf("%v: %v saves %d of %d settings, and needs %d", j, plan, saved, len(j.Pages), n)
			}
		}
	}
}

// savedBy returns how many spans have a page that stands all the time.
func savedBy(t *testing.T, j stand.Job, plan []int) int {
	standing, e := stand.Standing(j, plan)
	spans, f := stand.Spans(j)
	if e != api.OK || f != api.OK {
		t.Fatalf("%v, %v: %d %d", j, plan, e, f)
	}
	saved := 0
	for _, span := range spans {
		gone := func(pages []int) bool { return !slices.Contains(pages, j.Pages[span[0]]) }
		if !slices.ContainsFunc(standing[span[0]:span[1]+1], gone) {
			saved++
		}
	}
	return saved
}

// P6.12
func TestOppositeOrder(t *testing.T) {
	for _, j := range manyJobs(14) {
		back := clone(j)
		slices.Reverse(back.Pages)
		if fewest(t, j) != fewest(t, back) {
			t.Errorf("Fewest of %v: %d; of %v: %d", j, fewest(t, j), back, fewest(t, back))
		}
		for _, times := range allTimes[len(j.Pages)] {
			var other []int
			for _, time := range times {
				other = append(other, len(j.Pages)-1-time)
			}
			slices.Reverse(other)
			if one, two := bound(t, j, times), bound(t, back, other); one != two {
				t.Fatalf("Bound of %v, %v: %d; of %v, %v: %d", j, times, one, back, other, two)
			}
		}
	}
}

// P6.13
func TestOtherNumbers(t *testing.T) {
	r := rand.New(rand.NewSource(15))
	for _, j := range manyJobs(15) {
		numbers := r.Perm(stand.MaxPages)
		other := stand.Job{Room: j.Room}
		for _, page := range j.Pages {
			other.Pages = append(other.Pages, numbers[page])
		}
		if one, two := settingsOf(t, j), settingsOf(t, other); one != two {
			t.Errorf("settings of %v: %v; of %v: %v", j, one, other, two)
		}
		one, e := stand.Count(j)
		two, f := stand.Count(other)
		if one != two || e != api.OK || f != api.OK || fewest(t, j) != fewest(t, other) || !slices.Equal(why(t, j), why(t, other)) {
			t.Errorf("%v: %d plans %d, with %d settings, by %v; %v: %d %d, %d, %v", j, one, e, fewest(t, j), why(t, j), other, two, f, fewest(t, other), why(t, other))
		}
	}
}

// P6.14
func TestOnePageMore(t *testing.T) {
	grown := [2]int{}
	for _, j := range manyJobs(16) {
		if len(j.Pages) == stand.MaxAsked {
			continue
		}
		for page := range stand.MaxPages {
			longer := stand.Job{Room: j.Room, Pages: append(slices.Clone(j.Pages), page)}
			more := fewest(t, longer) - fewest(t, j)
			if more < 0 || more > 1 {
				t.Errorf("Fewest of %v: %d; of %v: %d", j, fewest(t, j), longer, fewest(t, longer))
				continue
			}
			grown[more]++
		}
	}
	if slices.Min(grown[:]) == 0 {
		t.Errorf("%d pages changed nothing, %d made Fewest greater", grown[0], grown[1])
	}
}
