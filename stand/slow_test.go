package stand_test

import (
	"math/rand"
	"slices"

	"headword/api"
	"headword/stand"
)

// The functions here follow the definitions word by word: the tests compare the package with them.

func list(l ...int) []int { return l }

func equal(a, b [][]int) bool { return slices.EqualFunc(a, b, slices.Equal[[]int]) }

// digits returns a list that is written as one digit for each number, and as a dash for -1.
func digits(text string) []int {
	var l []int
	for _, digit := range text {
		if digit == '-' {
			digit = '0' - 1
		}
		l = append(l, int(digit-'0'))
	}
	return l
}

// job returns a job whose pages are written as digits.
func job(room int, pages string) stand.Job {
	return stand.Job{Room: room, Pages: digits(pages)}
}

// The jobs of the chapter's examples.
func jobA() stand.Job { return job(2, "01201") }
func jobB() stand.Job { return job(1, "0010") }
func jobC() stand.Job { return job(3, "012301401234") }
func jobD() stand.Job { return job(4, "012301401234") }

func clone(j stand.Job) stand.Job {
	return stand.Job{Room: j.Room, Pages: slices.Clone(j.Pages)}
}

func equalJobs(a, b stand.Job) bool {
	return a.Room == b.Room && slices.Equal(a.Pages, b.Pages)
}

// slowRun returns the settings of a plan, what stands at each time, and the plan's error.
func slowRun(j stand.Job, plan []int) (settings int, stands [][]int, e api.Errno) {
	if len(plan) != len(j.Pages) {
		return 0, nil, api.ErrShape
	}
	var now []int
	for time, page := range j.Pages {
		isFree := slices.Contains(now, page) || len(now) < j.Room
		at := slices.Index(now, plan[time])
		switch {
		case isFree && plan[time] != -1:
			return 0, nil, api.ErrOver
		case !isFree && at < 0:
			return 0, nil, api.ErrNone
		case !isFree:
			now = slices.Delete(now, at, at+1)
		}
		if !slices.Contains(now, page) {
			now = append(now, page)
			slices.Sort(now)
			settings++
		}
		stands = append(stands, slices.Clone(now))
	}
	return settings, stands, api.OK
}

// begin returns a job that ends before a time.
func begin(j stand.Job, time int) stand.Job {
	return stand.Job{Room: j.Room, Pages: j.Pages[:time]}
}

// slowPlans returns all plans of a job, ascending.
func slowPlans(j stand.Job) [][]int {
	plans := [][]int{{}}
	for time := range j.Pages {
		var longer [][]int
		for _, plan := range plans {
			for number := -1; number < stand.MaxPages; number++ {
				more := append(slices.Clone(plan), number)
				if _, _, e := slowRun(begin(j, time+1), more); e == api.OK {
					longer = append(longer, more)
				}
			}
		}
		plans = longer
	}
	return plans
}

// slowBest returns the fewest settings of plans, and the plans that have so many.
func slowBest(j stand.Job, plans [][]int) (fewest int, best [][]int) {
	for i, plan := range plans {
		settings, _, _ := slowRun(j, plan)
		if i == 0 || settings < fewest {
			fewest, best = settings, nil
		}
		if settings == fewest {
			best = append(best, plan)
		}
	}
	return fewest, best
}

// A slowRule reports whether, at a time, of two pages that stand the one is to be distributed before the other one. Before the time, these pages stood at each time.
type slowRule func(j stand.Job, stands [][]int, time, one, other int) bool

// slowByRule returns the plan by a rule.
func slowByRule(j stand.Job, isBefore slowRule) []int {
	var plan []int
	for time, page := range j.Pages {
		_, stands, _ := slowRun(begin(j, time), plan)
		number := -1
		if time > 0 && len(stands[time-1]) == j.Room && !slices.Contains(stands[time-1], page) {
			for _, standing := range stands[time-1] {
				if number < 0 || isBefore(j, stands, time, standing, number) {
					number = standing
				}
			}
		}
		plan = append(plan, number)
	}
	return plan
}

// slowLater compares when pages are asked for again; one that is not comes later than all others.
func slowLater(j stand.Job, _ [][]int, time, one, other int) bool {
	a, b := slices.Index(j.Pages[time:], one), slices.Index(j.Pages[time:], other)
	return b >= 0 && (a < 0 || a > b)
}

// slowOldest compares when pages were set: the last time before which they did not stand.
func slowOldest(_ stand.Job, stands [][]int, _, one, other int) bool {
	set := func(page int) int {
		at := len(stands) - 1
		for at > 0 && slices.Contains(stands[at-1], page) {
			at--
		}
		return at
	}
	return set(one) < set(other)
}

// slowRecent compares when pages were asked for the last time.
func slowRecent(j stand.Job, _ [][]int, time, one, other int) bool {
	asked := func(page int) int {
		at := time - 1
		for j.Pages[at] != page {
			at--
		}
		return at
	}
	return asked(one) < asked(other)
}

// slowSpans returns all spans, ascending.
func slowSpans(j stand.Job) [][2]int {
	var spans [][2]int
	for from, page := range j.Pages {
		for to := from + 1; to < len(j.Pages); to++ {
			if j.Pages[to] == page && !slices.Contains(j.Pages[from+1:to], page) {
				spans = append(spans, [2]int{from, to})
			}
		}
	}
	return spans
}

// slowBound returns the bound of times.
func slowBound(j stand.Job, times []int) int {
	bound := len(j.Pages)
	for range times {
		bound -= j.Room - 1
	}
	for _, span := range slowSpans(j) {
		bound--
		for _, time := range times {
			if span[0] < time && time < span[1] {
				bound++
				break
			}
		}
	}
	if bound < 0 {
		return 0
	}
	return bound
}

// timesOf returns all lists of so many times, ascending as sets are counted in bits.
func timesOf(many int) [][]int {
	var lists [][]int
	for set := range 1 << many {
		var l []int
		for time := range many {
			if set>>time&1 == 1 {
				l = append(l, time)
			}
		}
		lists = append(lists, l)
	}
	return lists
}

// allTimes has those of 0, 1 and more times, made once since they are asked for often.
var allTimes = func() (all [stand.MaxAsked + 1][][]int) {
	for many := range all {
		all[many] = timesOf(many)
	}
	return all
}()

// slowWhy returns the first of the shortest lists of times with a bound, if there is one.
func slowWhy(j stand.Job, bound int) (times []int, found bool) {
	for _, l := range allTimes[len(j.Pages)] {
		if slowBound(j, l) != bound {
			continue
		}
		if !found || len(l) < len(times) || len(l) == len(times) && slices.Compare(l, times) < 0 {
			times, found = l, true
		}
	}
	return times, found
}

// jobsOf returns all jobs of so many times, with room for at most three pages and the pages 0 to 3.
func jobsOf(many int) []stand.Job {
	lists := [][]int{nil}
	for range many {
		var longer [][]int
		for _, l := range lists {
			for page := range 4 {
				longer = append(longer, append(slices.Clone(l), page))
			}
		}
		lists = longer
	}
	var jobs []stand.Job
	for _, l := range lists {
		for room := 1; room <= 3; room++ {
			jobs = append(jobs, stand.Job{Room: room, Pages: l})
		}
	}
	return jobs
}

// drawJobs returns jobs, most of them large.
func drawJobs(seed int64, many int) []stand.Job {
	r := rand.New(rand.NewSource(seed))
	var jobs []stand.Job
	for range many {
		j := stand.Job{Room: 1 + r.Intn(stand.MaxRoom)}
		numbers := r.Perm(stand.MaxPages)[:max(1+r.Intn(stand.MaxPages), 1+r.Intn(stand.MaxPages))]
		for range max(r.Intn(stand.MaxAsked+1), r.Intn(stand.MaxAsked+1)) {
			j.Pages = append(j.Pages, numbers[r.Intn(len(numbers))])
		}
		jobs = append(jobs, j)
	}
	return jobs
}

// manyJobs returns all jobs of at most 4 times, with little room and few pages, and some others.
func manyJobs(seed int64) []stand.Job {
	jobs := append(drawJobs(seed, 300), jobA(), jobB(), jobC(), jobD())
	for room := 1; room <= stand.MaxRoom; room++ {
		jobs = append(jobs, job(room, "012345012345"))
	}
	for many := range 5 {
		jobs = append(jobs, jobsOf(many)...)
	}
	return jobs
}
