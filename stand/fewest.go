package stand

import (
	"math"

	"headword/api"
)

// state is what stands before a time. Plans that have come to equal states can go on in the same ways.
type state struct {
	shelf
	time int
}

// outlook is the fewest settings from a state on, how many ways to go on have so many, and the number with which the first of these begins.
type outlook struct {
	settings, ways, choice int
}

// search is the outlooks of a job from the states that were met.
type search struct {
	job Job
	met map[state]outlook
}

func newSearch(j Job) search {
	return search{job: j, met: map[state]outlook{}}
}

// from returns the outlook from a state.
func (s search) from(now state) outlook {
	if now.time == len(s.job.Pages) {
		return outlook{ways: 1}
	}
	if known, isMet := s.met[now]; isMet {
		return known
	}
	page := s.job.Pages[now.time]
	best := outlook{settings: math.MaxInt}
	for _, choice := range now.choices(page) {
		rest := s.from(state{now.after(page, choice), now.time + 1})
		switch {
		case rest.settings < best.settings:
			best = outlook{rest.settings, rest.ways, choice}
		case rest.settings == best.settings:
			best.ways += rest.ways
		}
	}
	best.settings += now.settings(page)
	s.met[now] = best
	return best
}

// outlookOf returns the outlook of a job before its first time.
func outlookOf(j Job) (outlook, api.Errno) {
	if e := Check(j); e != api.OK {
		return outlook{}, e
	}
	return newSearch(j).from(state{emptyShelf(j), 0}), api.OK
}

// Fewest returns the smallest number of settings.
func Fewest(j Job) (int, api.Errno) {
	all, e := outlookOf(j)
	return all.settings, e
}

// Count returns how many plans have the fewest settings.
func Count(j Job) (int, api.Errno) {
	all, e := outlookOf(j)
	return all.ways, e
}

// First returns the first plan with the fewest settings.
func First(j Job) ([]int, api.Errno) {
	if e := Check(j); e != api.OK {
		return nil, e
	}
	s := newSearch(j)
	plan := []int{}
	now := state{emptyShelf(j), 0}
	for time, page := range j.Pages {
		choice := s.from(now).choice
		plan = append(plan, choice)
		now = state{now.after(page, choice), time + 1}
	}
	return plan, api.OK
}
