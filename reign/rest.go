package reign

import (
	"slices"

	"headword/api"
)

// rest returns the rest of a source by a value.
func (s Source) rest(value Frac) Frac {
	return fracOf(s.Trust*(s.Year*value.Den-value.Num), value.Den)
}

// sumsOfRests returns, for each source, the rests of all sources up to it together. However little the Dens of values have in common, these sums stay ints: a Den of a sum is at most MaxDen to the power of MaxSources, and that times the greatest sum, MaxSources * MaxTrust * MaxYear, is one.
func sumsOfRests(l []Source, values []Frac) []Frac {
	sums := []Frac{}
	sum := whole(0)
	for i, s := range l {
		sum = sum.plus(s.rest(values[i]))
		sums = append(sums, sum)
	}
	return sums
}

// Rests returns the sums of rests by the nearest values.
func Rests(l []Source) ([]Frac, api.Errno) {
	if e := Check(l); e != api.OK {
		return nil, e
	}
	return sumsOfRests(l, nearestOf(l)), api.OK
}

// checkValues returns the error of a list that is to be so many values that do not fall.
func checkValues(values []Frac, many int) api.Errno {
	if len(values) != many {
		return api.ErrShape
	}
	for _, v := range values {
		if v.Den < 1 || v.Den > MaxDen || v.Num < 0 || v.Num > MaxYear*v.Den {
			return api.ErrRange
		}
	}
	if !slices.IsSortedFunc(values, Frac.compare) {
		return api.ErrOrder
	}
	return api.OK
}

// Proves checks that values are the nearest ones.
func Proves(l []Source, values []Frac) api.Errno {
	if e := Check(l); e != api.OK {
		return e
	}
	if e := checkValues(values, len(l)); e != api.OK {
		return e
	}
	for i, sum := range sumsOfRests(l, values) {
		isEnd := i+1 == len(values) || values[i].compare(values[i+1]) < 0
		if sum.Num < 0 || isEnd && sum.Num > 0 {
			return api.ErrProof
		}
	}
	return api.OK
}
