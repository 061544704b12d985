package stand

import (
	"slices"

	"headword/api"
)

// nothing is the number of a plan where no page is distributed.
const nothing = -1

// shelf is what is known of standing type: for how many pages there is room, and which ones stand.
type shelf struct {
	room   int
	stands [MaxPages]bool
}

// emptyShelf returns what stands at first.
func emptyShelf(j Job) shelf {
	return shelf{room: j.Room}
}

// pages returns the pages that stand, in ascending order.
func (s shelf) pages() []int {
	pages := []int{}
	for page, stands := range s.stands {
		if stands {
			pages = append(pages, page)
		}
	}
	return pages
}

// settings returns how many pages are set when one is asked for.
func (s shelf) settings(page int) int {
	if s.stands[page] {
		return 0
	}
	return 1
}

// lacksRoom reports whether a page must be distributed when one is asked for.
func (s shelf) lacksRoom(page int) bool {
	return !s.stands[page] && len(s.pages()) == s.room
}

// choices returns the numbers that a plan can have when a page is asked for, in ascending order.
func (s shelf) choices(page int) []int {
	if s.lacksRoom(page) {
		return s.pages()
	}
	return []int{nothing}
}

// after returns what stands when a page was asked for and one of the choices was made.
func (s shelf) after(page, choice int) shelf {
	if choice != nothing {
		s.stands[choice] = false
	}
	s.stands[page] = true
	return s
}

// check returns the error of a plan's number when a page is asked for.
func (s shelf) check(page, number int) api.Errno {
	if slices.Contains(s.choices(page), number) {
		return api.OK
	}
	if s.lacksRoom(page) {
		return api.ErrNone
	}
	return api.ErrOver
}

// follow returns what stands at each time of a plan, and its settings.
func follow(j Job, plan []int) (shelves []shelf, settings int, e api.Errno) {
	if e := Check(j); e != api.OK {
		return nil, 0, e
	}
	if len(plan) != len(j.Pages) {
		return nil, 0, api.ErrShape
	}
	now := emptyShelf(j)
	for time, page := range j.Pages {
		if e := now.check(page, plan[time]); e != api.OK {
			return nil, 0, e
		}
		settings += now.settings(page)
		now = now.after(page, plan[time])
		shelves = append(shelves, now)
	}
	return shelves, settings, api.OK
}

// Run returns the settings of a plan.
func Run(j Job, plan []int) (int, api.Errno) {
	_, settings, e := follow(j, plan)
	return settings, e
}

// Standing returns what stands at each time.
func Standing(j Job, plan []int) ([][]int, api.Errno) {
	shelves, _, e := follow(j, plan)
	if e != api.OK {
		return nil, e
	}
	standing := [][]int{}
	for _, s := range shelves {
		standing = append(standing, s.pages())
	}
	return standing, api.OK
}
