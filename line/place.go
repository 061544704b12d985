package line

import (
	"cmp"
	"slices"
)

// What is known of a place: of all ways to set the words before it, and of all ways to set those behind it, on lines that fit.
const (
	price = iota // the smallest sum of the squares of what is left of all lines before the place
	start        // where the last line before it begins, if the squares are so small; of several such places the smallest one
	least        // the smallest sum of the squares of what is left of all lines behind the place but the text's last one
	count        // how many ways behind it have so small a sum
	next         // where the first line behind it ends, in the first one of these ways
	kinds        // how many numbers are known of a place
)

// known is what is known of a place.
type known [kinds]int

// placesOf returns what is known of each place of a text.
func placesOf(t Text) []known {
	places := make([]known, t.last()+1)
	lookBack(t, places)
	lookAhead(t, places)
	return places
}

// lookBack notes of all places what is known of the words before them.
func lookBack(t Text, places []known) {
	for end := 1; end <= t.last(); end++ {
		sum := func(s span) int { return places[s[0]][price] + t.square(s) }
		best := firstWithLeast(t.spansTo(end), sum)
		places[end][price] = sum(best)
		places[end][start] = best[0]
	}
}

// lookAhead notes of all places what is known of the words behind them.
func lookAhead(t Text, places []known) {
	places[t.last()][count] = 1
	for begin := t.last() - 1; begin >= 0; begin-- {
		sum := func(s span) int { return t.cost(s) + places[s[1]][least] }
		spans := t.spansFrom(begin)
		best := firstWithLeast(spans, sum)
		places[begin][least] = sum(best)
		places[begin][next] = best[1]
		for _, s := range spans {
			if sum(s) == sum(best) {
				places[begin][count] += places[s[1]][count]
			}
		}
	}
}

// firstWithLeast returns the first one of the lines with the least sum.
func firstWithLeast(spans []span, sum func(span) int) span {
	return slices.MinFunc(spans, func(s, other span) int { return cmp.Compare(sum(s), sum(other)) })
}
