package stand

import (
	"cmp"
	"slices"

	"headword/api"
)

// ranked is standing type with the ranks that a rule has given to its pages: the lowest one is distributed first.
type ranked struct {
	shelf
	ranks [MaxPages]int
}

// rule returns the rank that the page of a time gets then; before is what stands until then.
type rule func(j Job, time int, before ranked) int

// neededLast is lower the later the page is asked for again. Then it gets another rank, so until then this one is right.
func neededLast(j Job, time int, _ ranked) int {
	return -j.next(time)
}

// oldest is the time at which the page was set.
func oldest(j Job, time int, before ranked) int {
	page := j.Pages[time]
	if before.stands[page] {
		return before.ranks[page]
	}
	return time
}

// leastRecent is the time at which the page was asked for.
func leastRecent(_ Job, time int, _ ranked) int {
	return time
}

// choose returns the number of the rule's plan when a page is asked for.
func (r ranked) choose(page int) int {
	if !r.lacksRoom(page) {
		return nothing
	}
	// MinFunc returns the first of pages of the same rank, and so the smallest one.
	return slices.MinFunc(r.pages(), func(one, other int) int {
		return cmp.Compare(r.ranks[one], r.ranks[other])
	})
}

// planBy returns the plan by a rule.
func planBy(j Job, rank rule) ([]int, api.Errno) {
	if e := Check(j); e != api.OK {
		return nil, e
	}
	plan := []int{}
	now := ranked{shelf: emptyShelf(j)}
	for time, page := range j.Pages {
		choice := now.choose(page)
		plan = append(plan, choice)
		now.ranks[page] = rank(j, time, now)
		now.shelf = now.after(page, choice)
	}
	return plan, api.OK
}

// Later returns the plan that distributes what is needed last.
func Later(j Job) ([]int, api.Errno) { return planBy(j, neededLast) }

// Oldest returns the plan that distributes what was set first.
func Oldest(j Job) ([]int, api.Errno) { return planBy(j, oldest) }

// Recent returns the plan that distributes what was not asked for longest.
func Recent(j Job) ([]int, api.Errno) { return planBy(j, leastRecent) }
