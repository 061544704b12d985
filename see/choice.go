package see

import (
	"slices"

	"headword/api"
)

// checkSet returns the error of a list that is to be words of the book, strictly ascending.
func (b Book) checkSet(list []int) api.Errno {
	for i, number := range list {
		if !b.hasWord(number) {
			return api.ErrNone
		}
		if i > 0 && number <= list[i-1] {
			return api.ErrOrder
		}
	}
	return api.OK
}

// judge returns why a set of words is no choice, or OK.
func (b Book) judge(set []int) api.Errno {
	var served [MaxWords]bool
	for _, word := range set {
		served[word] = true
	}
	for _, ref := range b.Refs {
		if !slices.Contains(set, ref[1]) {
			continue
		}
		if slices.Contains(set, ref[0]) {
			return api.ErrClash
		}
		served[ref[0]] = true
	}
	if slices.Contains(served[:b.Words], false) {
		return api.ErrOpen
	}
	return api.OK
}

// Valid checks a choice.
func Valid(b Book, choice []int) api.Errno {
	if e := Check(b); e != api.OK {
		return e
	}
	if e := b.checkSet(choice); e != api.OK {
		return e
	}
	return b.judge(choice)
}

// First returns the first choice.
func First(b Book) ([]int, api.Errno) {
	all, e := All(b)
	if e != api.OK {
		return nil, e
	}
	if len(all) == 0 {
		return nil, api.ErrLost
	}
	return all[0], api.OK
}

// All returns all choices.
func All(b Book) ([][]int, api.Errno) {
	if e := Check(b); e != api.OK {
		return nil, e
	}
	choices := [][]int{}
	for mask := range 1 << b.Words {
		if set := setOf(mask); b.judge(set) == api.OK {
			choices = append(choices, set)
		}
	}
	slices.SortFunc(choices, slices.Compare)
	return choices, api.OK
}

// setOf returns the words whose bits a mask has.
func setOf(mask int) []int {
	set := []int{}
	for word := range MaxWords {
		if mask>>word&1 == 1 {
			set = append(set, word)
		}
	}
	return set
}
