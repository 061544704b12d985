package stand

import (
	"slices"

	"headword/api"
)

// Spans returns all spans.
func Spans(j Job) ([][2]int, api.Errno) {
	if e := Check(j); e != api.OK {
		return nil, e
	}
	return spansOf(j), api.OK
}

func spansOf(j Job) [][2]int {
	spans := [][2]int{}
	for time := range j.Pages {
		if next := j.next(time); next < len(j.Pages) {
			spans = append(spans, [2]int{time, next})
		}
	}
	return spans
}

// Bound returns the bound of some times.
func Bound(j Job, times []int) (int, api.Errno) {
	if e := Check(j); e != api.OK {
		return 0, e
	}
	for i, time := range times {
		if time < 0 || time >= len(j.Pages) {
			return 0, api.ErrNone
		}
		if i > 0 && time <= times[i-1] {
			return 0, api.ErrOrder
		}
	}
	return boundOf(j, times), api.OK
}

func boundOf(j Job, times []int) int {
	bound := len(j.Pages) - (j.Room-1)*len(times)
	for _, span := range spansOf(j) {
		isInside := func(time int) bool { return span[0] < time && time < span[1] }
		if !slices.ContainsFunc(times, isInside) {
			bound--
		}
	}
	return max(bound, 0)
}

// Why returns times whose bound is the smallest number of settings.
func Why(j Job) ([]int, api.Errno) {
	fewest, e := Fewest(j)
	if e != api.OK {
		return nil, e
	}
	lists := [][]int{{}}
	// Shorter lists come first, and lists of one length ascend. By P6.8 they do not run out.
	for boundOf(j, lists[0]) != fewest {
		lists = append(lists[1:], longerLists(j, lists[0])...)
	}
	return lists[0], api.OK
}

// longerLists returns the lists of times that have one more behind those of a list.
func longerLists(j Job, times []int) [][]int {
	from := 0
	if len(times) > 0 {
		from = times[len(times)-1] + 1
	}
	lists := [][]int{}
	for time := from; time < len(j.Pages); time++ {
		lists = append(lists, append(slices.Clone(times), time))
	}
	return lists
}

// Proves checks that times prove that so many settings are needed.
func Proves(j Job, settings int, times []int) api.Errno {
	bound, e := Bound(j, times)
	if e != api.OK {
		return e
	}
	if bound < settings {
		return api.ErrProof
	}
	return api.OK
}
