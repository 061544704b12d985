package volume

import "headword/api"

// find is what a search for safe cuts brings back: cuts, or none. An assertion tells which it is.
type find interface {
	many() int
}

// cuts are all safe cuts of some articles.
type cuts struct {
	count int
	first []int // of those with the fewest volumes
}

func (c cuts) many() int { return c.count }

// none is that some articles have no safe cut.
type none struct{}

func (none) many() int { return 0 }

// search brings back the safe cuts of a book.
func search(b Book) find {
	all := len(b.Articles)
	found := make([]find, all+1) // of the articles from each one on
	found[all] = cuts{count: 1}
	for begin := all - 1; begin >= 0; begin-- {
		found[begin] = none{}
		for end := begin + 1; end <= all; end++ {
			if volume := b.Articles[begin:end]; !b.canBurst(volume) && !b.canBeThin(volume) {
				found[begin] = join(found[begin], end, found[end])
			}
		}
	}
	return found[0]
}

// join adds to what is found so far the cuts whose first volume has an end, greater than all before, and whose other volumes are what is found from there on.
func join(soFar find, end int, behind find) find {
	rest, ok := behind.(cuts)
	if !ok {
		return soFar
	}
	joined := cuts{rest.count, append([]int{end}, rest.first...)}
	if old, ok := soFar.(cuts); ok {
		joined.count += old.count
		if len(old.first) <= len(joined.first) {
			joined.first = old.first
		}
	}
	return joined
}

// Cut returns the first safe cut with the fewest volumes.
func Cut(b Book) ([]int, api.Errno) {
	if e := Check(b); e != api.OK {
		return nil, e
	}
	found, ok := search(b).(cuts)
	if !ok {
		return nil, api.ErrLost
	}
	return found.first, api.OK
}

// Count returns how many safe cuts there are.
func Count(b Book) (int, api.Errno) {
	if e := Check(b); e != api.OK {
		return 0, e
	}
	return search(b).many(), api.OK
}
