package sheet

import "headword/api"

// divisors is, for each number from 1 to MaxSize, the numbers that divide it.
var divisors = [MaxSize + 1][]int{
	1:  {1},
	2:  {1, 2},
	3:  {1, 3},
	4:  {1, 2, 4},
	5:  {1, 5},
	6:  {1, 2, 3, 6},
	7:  {1, 7},
	8:  {1, 2, 4, 8},
	9:  {1, 3, 9},
	10: {1, 2, 5, 10},
	11: {1, 11},
	12: {1, 2, 3, 4, 6, 12},
	13: {1, 13},
	14: {1, 2, 7, 14},
	15: {1, 3, 5, 15},
	16: {1, 2, 4, 8, 16},
	17: {1, 17},
	18: {1, 2, 3, 6, 9, 18},
	19: {1, 19},
	20: {1, 2, 4, 5, 10, 20},
	21: {1, 3, 7, 21},
	22: {1, 2, 11, 22},
	23: {1, 23},
	24: {1, 2, 3, 4, 6, 8, 12, 24},
}

// divides reports whether a length divides another one.
func divides(length, other int) bool {
	for _, divisor := range divisors[other] {
		if divisor == length {
			return true
		}
	}
	return false
}

// Chain reports whether lengths are a chain.
func Chain(size int, pieces []int) (bool, api.Errno) {
	if e := Check(size, pieces); e != api.OK {
		return false, e
	}
	for i, length := range pieces {
		if !divides(length, size) {
			return false, api.OK
		}
		for _, other := range pieces[:i] {
			if !divides(length, other) && !divides(other, length) {
				return false, api.OK
			}
		}
	}
	return true, api.OK
}
