package line

import "headword/api"

// Bound returns what prices prove: that no ends cost less.
func Bound(t Text, prices []int) (int, api.Errno) {
	if e := Check(t); e != api.OK {
		return 0, e
	}
	if len(prices) != t.last() {
		return 0, api.ErrShape
	}
	for _, number := range prices {
		if number < 0 || number > MaxCost {
			return 0, api.ErrRange
		}
	}
	if !t.canBeProved(prices) {
		return 0, api.ErrProof
	}
	bound := MaxCost // no price is greater
	for _, s := range t.spansTo(t.last()) {
		bound = min(bound, prices[s[0]])
	}
	return bound, api.OK
}

// canBeProved reports whether place 0 costs nothing, and no line makes a place before a word cheaper than its price.
func (t Text) canBeProved(prices []int) bool {
	for end, number := range prices {
		for _, s := range t.spansTo(end) {
			if number > prices[s[0]]+t.square(s) {
				return false
			}
		}
	}
	return prices[0] == 0
}

// Proves returns why prices do not prove that ends are best, or OK.
func Proves(t Text, ends, prices []int) api.Errno {
	cost, e := Cost(t, ends)
	if e != api.OK {
		return e
	}
	bound, e := Bound(t, prices)
	if e != api.OK {
		return e
	}
	if bound != cost {
		return api.ErrProof
	}
	return api.OK
}
