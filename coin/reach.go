package coin

import "slices"

// paid is what is known of the payments of a sum. Its zero value stands for a sum without payments.
type paid struct {
	ways  int           // how many payments there are
	few   int           // the fewest coins that one of them has
	first [MaxCoins]int // of those with so few coins, the first one
}

// with returns what is known if so many coins of a place, of which there are none yet, are added to each payment.
func (p paid) with(place, many int) paid {
	p.few += many
	p.first[place] = many
	return p
}

// and returns what is known of the payments of p, if it has any, together with those of other. In which order payments come together does not matter.
func (p paid) and(other paid) paid {
	best := p
	if p.ways == 0 || other.few < p.few || other.few == p.few && slices.Compare(other.first[:], p.first[:]) < 0 {
		best = other
	}
	best.ways = p.ways + other.ways
	return best
}

// reach returns, for each sum up to top that a purse pays, what is known of its payments.
func reach(coins, purse []int, top int) map[int]paid {
	reached, next := map[int]paid{0: {ways: 1}}, map[int]paid{}
	for place, coin := range coins {
		for sum, before := range reached {
			for many := 0; many <= purse[place] && sum+many*coin <= top; many++ {
				next[sum+many*coin] = next[sum+many*coin].and(before.with(place, many))
			}
		}
		clear(reached)
		reached, next = next, reached
	}
	return reached
}

// reachAll returns, for each sum up to top, what is known of its payments.
func reachAll(coins []int, top int) map[int]paid {
	enough := slices.Repeat([]int{top}, len(coins))
	return reach(coins, enough, top)
}
