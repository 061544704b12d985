package reign_test

import (
	"math/big"
	"math/bits"
	"math/rand"
	"slices"

	"headword/api"
	"headword/reign"
)

// The functions here follow the definitions, with big fractions: the tests compare the package with them.

func list(l ...int) []int { return l }

// sources returns sources of which Year and Trust are told in turn.
func sources(numbers ...int) []reign.Source {
	var l []reign.Source
	for i := 0; i < len(numbers); i += 2 {
		l = append(l, reign.Source{Year: numbers[i], Trust: numbers[i+1]})
	}
	return l
}

func frac(num, den int) reign.Frac { return reign.Frac{Num: num, Den: den} }

// fracs returns fractions of which Num and Den are told in turn.
func fracs(numbers ...int) []reign.Frac {
	var all []reign.Frac
	for i := 0; i < len(numbers); i += 2 {
		all = append(all, frac(numbers[i], numbers[i+1]))
	}
	return all
}

// whole returns numbers as fractions.
func whole(numbers ...int) []reign.Frac {
	var all []reign.Frac
	for _, number := range numbers {
		all = append(all, frac(number, 1))
	}
	return all
}

// The sources of the chapter's examples.
func sourcesA() []reign.Source { return sources(3, 1, 1, 1, 2, 1) }
func sourcesB() []reign.Source { return sources(5, 1, 1, 3, 4, 2, 2, 2) }
func sourcesC() []reign.Source { return sources(1, 1, 2, 2, 2, 1) }

func ratio(num, den int) *big.Rat { return big.NewRat(int64(num), int64(den)) }

func bigOf(f reign.Frac) *big.Rat { return ratio(f.Num, f.Den) }

func bigsOf(fracs []reign.Frac) []*big.Rat {
	var all []*big.Rat
	for _, f := range fracs {
		all = append(all, bigOf(f))
	}
	return all
}

// fracOf returns a big fraction as one of the package.
func fracOf(r *big.Rat) reign.Frac {
	return frac(int(r.Num().Int64()), int(r.Denom().Int64()))
}

func fracsOf(bigs []*big.Rat) []reign.Frac {
	var all []reign.Frac
	for _, r := range bigs {
		all = append(all, fracOf(r))
	}
	return all
}

func isBelow(one, other *big.Rat) bool { return one.Cmp(other) < 0 }

// doNotFall reports whether no value is greater than the next one.
func doNotFall(values []*big.Rat) bool {
	for i := 1; i < len(values); i++ {
		if isBelow(values[i], values[i-1]) {
			return false
		}
	}
	return true
}

// slowRest returns the rest of a source by a value.
func slowRest(s reign.Source, value *big.Rat) *big.Rat {
	left := new(big.Rat).Sub(ratio(s.Year, 1), value)
	return left.Mul(left, ratio(s.Trust, 1))
}

// slowPart returns the trust of a source times the square of what a value and its year differ by.
func slowPart(s reign.Source, value *big.Rat) *big.Rat {
	difference := new(big.Rat).Sub(value, ratio(s.Year, 1))
	part := new(big.Rat).Mul(difference, difference)
	return part.Mul(part, ratio(s.Trust, 1))
}

// slowCost returns the cost of values.
func slowCost(l []reign.Source, values []*big.Rat) *big.Rat {
	cost := new(big.Rat)
	for i, s := range l {
		cost.Add(cost, slowPart(s, values[i]))
	}
	return cost
}

// slowMean returns the mean of sources.
func slowMean(l []reign.Source) *big.Rat {
	years, trusts := 0, 0
	for _, s := range l {
		for range s.Trust {
			years += s.Year
			trusts++
		}
	}
	return ratio(years, trusts)
}

// slowCheapest returns, of all lists of some of the numbers that do not fall, one that costs least. The numbers are ascending.
func slowCheapest(l []reign.Source, numbers []*big.Rat) []*big.Rat {
	// The cheapest list for the sources up to now, of the numbers up to each of them.
	type cheapest struct {
		values []*big.Rat
		cost   *big.Rat
	}
	upTo := make([]cheapest, len(numbers))
	for i := range upTo {
		upTo[i].cost = new(big.Rat)
	}
	for _, s := range l {
		for i, number := range numbers {
			cost := new(big.Rat).Add(upTo[i].cost, slowPart(s, number))
			if i > 0 && !isBelow(cost, upTo[i-1].cost) {
				upTo[i] = upTo[i-1]
				continue
			}
			upTo[i] = cheapest{append(slices.Clone(upTo[i].values), number), cost}
		}
	}
	return upTo[len(numbers)-1].values
}

// allMeans returns the means of all sources that are next to one another, and some other numbers, those that are from low to high, ascending.
func allMeans(l []reign.Source, low, high int, others ...int) []*big.Rat {
	var means []*big.Rat
	for a := range l {
		for b := a; b < len(l); b++ {
			means = append(means, slowMean(l[a:b+1]))
		}
	}
	for _, number := range others {
		means = append(means, ratio(number, 1))
	}
	means = slices.DeleteFunc(means, func(r *big.Rat) bool {
		return isBelow(r, ratio(low, 1)) || isBelow(ratio(high, 1), r)
	})
	slices.SortFunc(means, (*big.Rat).Cmp)
	return slices.CompactFunc(means, func(one, other *big.Rat) bool { return one.Cmp(other) == 0 })
}

// slowNearest returns the nearest values, which are means of sources that are next to one another.
func slowNearest(l []reign.Source) []*big.Rat {
	return slowCheapest(l, allMeans(l, 0, reign.MaxYear))
}

// slowBounded returns the values between two bounds that do not fall and cost least: each one is a bound or such a mean.
func slowBounded(l []reign.Source, low, high int) []*big.Rat {
	return slowCheapest(l, allMeans(l, low, high, low, high))
}

// slowBlocks returns all sources that have the same one of the values.
func slowBlocks(values []*big.Rat) []reign.Block {
	var blocks []reign.Block
	for begin := range values {
		for end := begin + 1; end <= len(values); end++ {
			is := true
			for _, value := range values[begin:end] {
				is = is && value.Cmp(values[begin]) == 0
			}
			is = is && (begin == 0 || values[begin-1].Cmp(values[begin]) != 0)
			is = is && (end == len(values) || values[end].Cmp(values[begin]) != 0)
			if is {
				blocks = append(blocks, reign.Block{Begin: begin, End: end, Value: fracOf(values[begin])})
			}
		}
	}
	return blocks
}

// slowSums returns the sums of the rests by values.
func slowSums(l []reign.Source, values []*big.Rat) []*big.Rat {
	var sums []*big.Rat
	for last := range l {
		sum := new(big.Rat)
		for i, s := range l[:last+1] {
			sum.Add(sum, slowRest(s, values[i]))
		}
		sums = append(sums, sum)
	}
	return sums
}

// slowProves checks as many values as there are sources.
func slowProves(l []reign.Source, fracs []reign.Frac) api.Errno {
	for _, f := range fracs {
		if f.Den < 1 || f.Den > 72 || isBelow(bigOf(f), new(big.Rat)) || isBelow(ratio(100, 1), bigOf(f)) {
			return api.ErrRange
		}
	}
	values := bigsOf(fracs)
	if !doNotFall(values) {
		return api.ErrOrder
	}
	for i, sum := range slowSums(l, values) {
		isLast := i == len(l)-1
		if sum.Sign() < 0 || sum.Sign() != 0 && (isLast || isBelow(values[i], values[i+1])) {
			return api.ErrProof
		}
	}
	return api.OK
}

// slowHigh returns the greatest of the smallest means.
func slowHigh(l []reign.Source, i int) *big.Rat {
	var greatest *big.Rat
	for a := 0; a <= i; a++ {
		var smallest *big.Rat
		for b := i; b < len(l); b++ {
			if mean := slowMean(l[a : b+1]); smallest == nil || isBelow(mean, smallest) {
				smallest = mean
			}
		}
		if greatest == nil || isBelow(greatest, smallest) {
			greatest = smallest
		}
	}
	return greatest
}

// slowLow returns the smallest of the greatest means.
func slowLow(l []reign.Source, i int) *big.Rat {
	var smallest *big.Rat
	for b := i; b < len(l); b++ {
		var greatest *big.Rat
		for a := 0; a <= i; a++ {
			if mean := slowMean(l[a : b+1]); greatest == nil || isBelow(greatest, mean) {
				greatest = mean
			}
		}
		if smallest == nil || isBelow(greatest, smallest) {
			smallest = greatest
		}
	}
	return smallest
}

// slowWrong looks at all lists of so many sources, for one number after the other.
func slowWrong(l []reign.Source) []int {
	for many := range l {
		var first []int
		isFound := false
		for set := range uint(1) << len(l) {
			if bits.OnesCount(set) != many {
				continue
			}
			var wrong, years []int
			for i, s := range l {
				if set>>i&1 == 1 {
					wrong = append(wrong, i)
				} else {
					years = append(years, s.Year)
				}
			}
			if slices.IsSorted(years) && (!isFound || slices.Compare(wrong, first) < 0) {
				first, isFound = wrong, true
			}
		}
		if isFound {
			return first
		}
	}
	panic("the year of one source cannot fall")
}

// sourcesOf returns all lists of so many sources with years up to one, and trusts up to one.
func sourcesOf(many, year, trust int) [][]reign.Source {
	lists := [][]reign.Source{nil}
	for range many {
		var longer [][]reign.Source
		for _, l := range lists {
			for y := range year + 1 {
				for w := range trust {
					longer = append(longer, append(slices.Clone(l), reign.Source{Year: y, Trust: w + 1}))
				}
			}
		}
		lists = longer
	}
	return lists
}

// drawSources returns lists of sources, most of them long; some have few different years, so that many are equal, some up to the limit, and some fall nearly everywhere or nearly nowhere.
func drawSources(seed int64, many int) [][]reign.Source {
	r := rand.New(rand.NewSource(seed))
	years, trusts := list(1, 3, 9, reign.MaxYear), list(1, 2, reign.MaxTrust)
	var lists [][]reign.Source
	for range many {
		year, trust := years[r.Intn(len(years))], trusts[r.Intn(len(trusts))]
		var l []reign.Source
		for range max(1+r.Intn(reign.MaxSources), 1+r.Intn(reign.MaxSources)) {
			l = append(l, reign.Source{Year: r.Intn(year + 1), Trust: 1 + r.Intn(trust)})
		}
		way := r.Intn(4)
		if way < 2 {
			slices.SortFunc(l, func(one, other reign.Source) int { return (one.Year - other.Year) * (1 - 2*way) })
			i := r.Intn(len(l))
			j := max(i-1, 0)
			l[i], l[j] = l[j], l[i]
		}
		lists = append(lists, l)
	}
	return lists
}

// fewSources returns all lists of few sources with few years and trusts.
func fewSources() [][]reign.Source {
	lists := sourcesOf(1, 3, 2)
	lists = append(lists, sourcesOf(2, 4, 3)...)
	lists = append(lists, sourcesOf(3, 3, 2)...)
	return append(lists, sourcesOf(4, 2, 1)...)
}

// manySources returns all lists of few sources, and some others.
func manySources(seed int64) [][]reign.Source {
	lists := append(drawSources(seed, 300), sourcesA(), sourcesB(), sourcesC())
	lists = append(lists, sources(0, 1), sources(100, 9), sources(100, 1, 0, 9), sources(0, 9, 100, 9))
	lists = append(lists, sources(9, 1, 8, 2, 7, 3, 6, 4, 5, 5, 4, 6, 3, 7, 2, 8))
	return append(lists, fewSources()...)
}
