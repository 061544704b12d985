package class

import (
	"slices"

	"headword/api"
)

// Most returns as many divisions that agree as possible.
func Most(articles int, sides [][]int) ([]int, api.Errno) {
	divisions, e := read(articles, sides)
	if e != api.OK {
		return nil, e
	}
	return mostOf(divisions), api.OK
}

// mostOf returns the first of the longest lists of indices of divisions any two of which agree.
func mostOf(divisions []division) []int {
	longest, list := []int{}, []int{}
	chosen := []division{}
	var search func(from int)
	search = func(from int) {
		// Lists are tried in ascending order, so one that is only as long comes too late.
		if len(list) > len(longest) {
			longest = slices.Clone(list)
		}
		for i := from; i < len(divisions); i++ {
			if len(list)+len(divisions)-i <= len(longest) {
				return
			}
			if !divisions[i].agreesWithAll(chosen) {
				continue
			}
			list = append(list, i)
			chosen = append(chosen, divisions[i])
			search(i + 1)
			list = list[:len(list)-1]
			chosen = chosen[:len(chosen)-1]
		}
	}
	search(0)
	return longest
}

// Fill adds divisions that agree, as long as there are some.
func Fill(articles int, sides [][]int) ([][]int, api.Errno) {
	divisions, e := readAgreeing(articles, sides)
	if e != api.OK {
		return nil, e
	}
	full := smallSides(divisions)
	// What does not agree now never will, as nothing is taken away: to try each division once is enough.
	for _, numbers := range allSmallSides(articles) {
		d := divisionOf(articles, numbers)
		if !full.has(d.small) && d.agreesWithAll(divisions) {
			full = full.with(d.small)
			divisions = append(divisions, d)
		}
	}
	return numbersOf(full), api.OK
}

// allSmallSides returns the small sides of all divisions that there are, in ascending order.
func allSmallSides(articles int) [][]int {
	all := [][]int{}
	var add func(begin []int, from int)
	add = func(begin []int, from int) {
		for number := from; number < articles; number++ {
			longer := append(slices.Clone(begin), number)
			all = append(all, longer)
			add(longer, number+1)
		}
	}
	add(nil, 1)
	return all
}
