package reign_test

import (
	"math/big"
	"math/rand"
	"slices"
	"testing"

	"headword/api"
	"headword/reign"
)

// of returns what a function returns of sources that are to be right.
func of[T any](t *testing.T, f func(l []reign.Source) (T, api.Errno), l []reign.Source) T {
	t.Helper()
	result, e := f(l)
	if e != api.OK {
		t.Fatalf("%v: %v %d", l, result, e)
	}
	return result
}

// nearest returns the nearest values of sources that are to be right, one for each.
func nearest(t *testing.T, l []reign.Source) []reign.Frac {
	t.Helper()
	values := of(t, reign.Nearest, l)
	if len(values) != len(l) {
		t.Fatalf("Nearest of %v: %v", l, values)
	}
	return values
}

// least returns the cost of the nearest values of sources that are to be right.
func least(t *testing.T, l []reign.Source) *big.Rat {
	t.Helper()
	return bigOf(of(t, reign.Least, l))
}

// fall reports whether the years fall.
func fall(t *testing.T, l []reign.Source) bool {
	t.Helper()
	_, e := reign.Falls(l)
	if e != api.OK && e != api.ErrClash {
		t.Fatalf("Falls of %v: %d", l, e)
	}
	return e == api.OK
}

// plus returns fractions with a number added to each.
func plus(fracs []reign.Frac, number int) []reign.Frac {
	var all []reign.Frac
	for _, f := range fracs {
		all = append(all, frac(f.Num+number*f.Den, f.Den))
	}
	return all
}

// P8.8, M1
func TestFormula(t *testing.T) {
	for _, l := range manySources(12) {
		for i, value := range nearest(t, l) {
			high, e := reign.High(l, i)
			low, f := reign.Low(l, i)
			if high != value || low != value || e != api.OK || f != api.OK {
				t.Errorf("%v, %d: nearest value %v, High %v %d, Low %v %d", l, i, value, high, e, low, f)
			}
		}
	}
}

// P8.9, M4
func TestNearestValuesAreProved(t *testing.T) {
	for _, l := range manySources(13) {
		values := nearest(t, l)
		if e := reign.Proves(l, values); e != api.OK {
			t.Errorf("Proves of %v, %v: %d", l, values, e)
		}
	}
}

// P8.9, M4: all values with a Den up to 3 are tried, and no others are accepted nor cost less.
func TestOtherValuesAreNotProved(t *testing.T) {
	for _, x := range []struct{ many, year, trust, high, den int }{{1, 4, 3, 12, 3}, {2, 3, 2, 9, 3}, {3, 2, 2, 4, 2}} {
		all := allValues(x.many, 0, x.high, x.den)
		for _, l := range sourcesOf(x.many, x.year, x.trust) {
			values, cost := bigsOf(nearest(t, l)), least(t, l)
			for _, other := range all {
				if slices.ContainsFunc(other, func(f reign.Frac) bool { return f.Den == 0 }) || !doNotFall(bigsOf(other)) {
					continue
				}
				isNearest := slices.EqualFunc(values, bigsOf(other), func(one, other *big.Rat) bool { return one.Cmp(other) == 0 })
				if e := reign.Proves(l, other); (e == api.OK) != isNearest || !isNearest && e != api.ErrProof {
					t.Fatalf("Proves of %v, %v: %d, nearest values %v", l, other, e, values)
				}
				if order := slowCost(l, bigsOf(other)).Cmp(cost); order < 0 || (order == 0) != isNearest {
					t.Fatalf("%v: %v cost %v, the nearest values %v", l, other, slowCost(l, bigsOf(other)), cost)
				}
			}
		}
	}
}

// P8.9, M3: drawn values, and values that differ a little from the nearest ones, cost more.
func TestOtherValuesCostMore(t *testing.T) {
	r := rand.New(rand.NewSource(14))
	for _, l := range manySources(15) {
		values, cost := bigsOf(nearest(t, l)), least(t, l)
		if slowCost(l, values).Cmp(cost) != 0 {
			t.Errorf("%v: Least is %v, the nearest values %v cost %v", l, cost, values, slowCost(l, values))
		}
		for range 10 {
			var drawn, near []*big.Rat
			for _, value := range values {
				drawn = append(drawn, ratio(r.Intn(reign.MaxYear*9+1), 9))
				near = append(near, new(big.Rat).Add(value, ratio(r.Intn(41)-20, 100)))
			}
			for _, other := range [][]*big.Rat{drawn, near} {
				slices.SortFunc(other, (*big.Rat).Cmp)
				if isBelow(slowCost(l, other), cost) {
					t.Errorf("%v: %v cost %v, the nearest values %v", l, other, slowCost(l, other), cost)
				}
			}
		}
	}
}

// P8.10, M2
func TestSums(t *testing.T) {
	for _, l := range manySources(16) {
		values := bigsOf(nearest(t, l))
		begin := 0
		for i, b := range of(t, reign.Blocks, l) {
			if b.Begin != begin || b.End <= begin || i > 0 && !isBelow(values[begin-1], bigOf(b.Value)) {
				t.Errorf("Blocks of %v: %v", l, of(t, reign.Blocks, l))
			}
			begin = b.End
			examineSum(t, l[b.Begin:b.End], values[b.Begin:b.End])
		}
		if begin != len(l) {
			t.Errorf("Blocks of %v: %v", l, of(t, reign.Blocks, l))
		}
		examineSum(t, l, values)
	}
}

// examineSum examines that values have the sum of the years, each times its trust.
func examineSum(t *testing.T, l []reign.Source, values []*big.Rat) {
	t.Helper()
	left := new(big.Rat)
	for i, s := range l {
		left.Add(left, slowRest(s, values[i]))
	}
	if left.Sign() != 0 {
		t.Errorf("%v: %v is left of the years without %v", l, left, values)
	}
}

// P8.11, M3
func TestYearsThatDoNotFall(t *testing.T) {
	found := 0
	for _, l := range manySources(17) {
		var years []int
		for _, s := range l {
			years = append(years, s.Year)
		}
		if slices.IsSorted(years) {
			found++
			if values := nearest(t, l); !slices.Equal(values, whole(years...)) {
				t.Errorf("Nearest of %v: %v", l, values)
			}
		}
	}
	if found < 100 {
		t.Errorf("the years of %d lists do not fall", found)
	}
}

// P8.11
func TestBlocksAlone(t *testing.T) {
	replaced := 0
	for _, l := range manySources(18) {
		values := nearest(t, l)
		for _, b := range of(t, reign.Blocks, l) {
			many := b.End - b.Begin
			if alone := nearest(t, l[b.Begin:b.End]); !slices.Equal(alone, slices.Repeat([]reign.Frac{b.Value}, many)) {
				t.Errorf("%v: block %v, alone %v", l, b, alone)
			}
			trusts := 0
			for _, s := range l[b.Begin:b.End] {
				trusts += s.Trust
			}
			if b.Value.Den != 1 || trusts > reign.MaxTrust {
				continue
			}
			shorter := slices.Replace(slices.Clone(l), b.Begin, b.End, reign.Source{Year: b.Value.Num, Trust: trusts})
			want := slices.Replace(slices.Clone(values), b.Begin, b.End, b.Value)
			if other := nearest(t, shorter); !slices.Equal(other, want) {
				t.Errorf("Nearest of %v: %v; of %v: %v", l, values, shorter, other)
			}
			if many > 1 && many < len(l) {
				replaced++
			}
		}
	}
	if replaced < 100 {
		t.Errorf("%d blocks among others were replaced", replaced)
	}
}

// P8.12, M7
func TestGreaterYears(t *testing.T) {
	r := rand.New(rand.NewSource(19))
	greater := 0
	for _, l := range manySources(20) {
		values := bigsOf(nearest(t, l))
		for i, s := range l {
			if s.Year == reign.MaxYear {
				continue
			}
			for _, year := range list(s.Year+1, s.Year+1+r.Intn(reign.MaxYear-s.Year)) {
				larger := slices.Clone(l)
				larger[i].Year = year
				for k, other := range bigsOf(nearest(t, larger)) {
					if isBelow(other, values[k]) {
						t.Errorf("%v: value %d is %v; %v: %v", l, k, values[k], larger, other)
					}
					if k != i && isBelow(values[k], other) {
						greater++
					}
				}
			}
		}
	}
	if greater == 0 {
		t.Error("a greater year makes no other value greater")
	}
}

// P8.13, M6
func TestOpposite(t *testing.T) {
	for _, l := range manySources(21) {
		var opposite []reign.Source
		for _, s := range slices.Backward(l) {
			opposite = append(opposite, reign.Source{Year: reign.MaxYear - s.Year, Trust: s.Trust})
		}
		var want []reign.Frac
		for _, value := range slices.Backward(nearest(t, l)) {
			want = append(want, frac(reign.MaxYear*value.Den-value.Num, value.Den))
		}
		if values := nearest(t, opposite); !slices.Equal(values, want) {
			t.Errorf("Nearest of %v: %v; of %v: %v", l, nearest(t, l), opposite, values)
		}
	}
}

// P8.14, M5
func TestLaterYears(t *testing.T) {
	r := rand.New(rand.NewSource(22))
	for _, l := range manySources(23) {
		last := 0
		for _, s := range l {
			last = max(last, s.Year)
		}
		later := slices.Clone(l)
		more := r.Intn(reign.MaxYear + 1 - last)
		for i := range later {
			later[i].Year += more
		}
		if values := nearest(t, later); !slices.Equal(values, plus(nearest(t, l), more)) {
			t.Errorf("Nearest of %v: %v; of %v: %v", l, nearest(t, l), later, values)
		}
		if least(t, l).Cmp(least(t, later)) != 0 || !slices.Equal(of(t, reign.Rests, l), of(t, reign.Rests, later)) {
			t.Errorf("%v: %v, %v; %v: %v, %v", l, least(t, l), of(t, reign.Rests, l), later, least(t, later), of(t, reign.Rests, later))
		}
	}
}

// P8.14, M5
func TestTwiceTheTrust(t *testing.T) {
	two := ratio(2, 1)
	found := 0
	for _, l := range manySources(24) {
		twice := slices.Clone(l)
		for i := range twice {
			twice[i].Trust *= 2
		}
		if reign.Check(twice) != api.OK {
			continue
		}
		found++
		var want []reign.Frac
		for _, rest := range of(t, reign.Rests, l) {
			want = append(want, fracOf(new(big.Rat).Mul(bigOf(rest), two)))
		}
		cost := new(big.Rat).Mul(least(t, l), two)
		if least(t, twice).Cmp(cost) != 0 || !slices.Equal(of(t, reign.Rests, twice), want) {
			t.Errorf("%v: %v, %v; %v: %v, %v", l, least(t, l), of(t, reign.Rests, l), twice, least(t, twice), of(t, reign.Rests, twice))
		}
		examineSame(t, l, twice)
	}
	if found < 100 {
		t.Errorf("of %d lists all trusts can be twice as great", found)
	}
}

// examineSame examines that two lists of sources of one length have the same results, but for Least and Rests.
func examineSame(t *testing.T, l, other []reign.Source) {
	t.Helper()
	at, e := reign.Falls(l)
	if place, f := reign.Falls(other); place != at || f != e {
		t.Errorf("Falls of %v: %d %d; of %v: %d %d", l, at, e, other, place, f)
	}
	if !slices.Equal(nearest(t, l), nearest(t, other)) || !slices.Equal(of(t, reign.Blocks, l), of(t, reign.Blocks, other)) || !slices.Equal(of(t, reign.Wrong, l), of(t, reign.Wrong, other)) {
		t.Errorf("%v and %v: not the same values, blocks or wrong ones", l, other)
	}
	for i := range l {
		examineSameFrac(t, l, other, func(l []reign.Source) (reign.Frac, api.Errno) { return reign.High(l, i) })
		examineSameFrac(t, l, other, func(l []reign.Source) (reign.Frac, api.Errno) { return reign.Low(l, i) })
		for end := i + 1; end <= len(l); end++ {
			examineSameFrac(t, l, other, func(l []reign.Source) (reign.Frac, api.Errno) { return reign.Mean(l, i, end) })
		}
		values := nearest(t, l)
		values[i] = nearest(t, l)[0]
		if one, two := reign.Proves(l, values), reign.Proves(other, values); one != two {
			t.Errorf("Proves of %v, %v: %d; of %v: %d", l, values, one, other, two)
		}
	}
	bounded := func(l []reign.Source) ([]reign.Frac, api.Errno) { return reign.Bounded(l, 1, 3) }
	if !slices.Equal(of(t, bounded, l), of(t, bounded, other)) {
		t.Errorf("Bounded of %v: %v; of %v: %v", l, of(t, bounded, l), other, of(t, bounded, other))
	}
}

// examineSameFrac examines that a function returns the same of two lists of sources.
func examineSameFrac(t *testing.T, l, other []reign.Source, f func(l []reign.Source) (reign.Frac, api.Errno)) {
	t.Helper()
	if one, two := of(t, f, l), of(t, f, other); one != two {
		t.Errorf("%v: %v; %v: %v", l, one, other, two)
	}
}

// P8.15, M3
func TestBounds(t *testing.T) {
	r := rand.New(rand.NewSource(25))
	for _, l := range manySources(26) {
		for _, greatest := range list(3, 9, reign.MaxYear) {
			low := r.Intn(greatest + 1)
			high := low + r.Intn(greatest+1-low)
			var want []reign.Frac
			for _, value := range nearest(t, l) {
				if isBelow(bigOf(value), ratio(low, 1)) {
					value = frac(low, 1)
				}
				if isBelow(ratio(high, 1), bigOf(value)) {
					value = frac(high, 1)
				}
				want = append(want, value)
			}
			examineBounded(t, l, low, high, want)
		}
	}
}

// P8.16, M3
func TestWrongOnes(t *testing.T) {
	r := rand.New(rand.NewSource(27))
	grown := [2]int{}
	for _, l := range manySources(28) {
		many := len(of(t, reign.Wrong, l))
		if (many == 0) == fall(t, l) {
			t.Errorf("Wrong of %v: %v, but the years fall: %v", l, of(t, reign.Wrong, l), fall(t, l))
		}
		if len(l) == reign.MaxSources {
			continue
		}
		for _, year := range list(0, l[len(l)-1].Year, r.Intn(reign.MaxYear+1)) {
			longer := append(slices.Clone(l), reign.Source{Year: year, Trust: 1 + r.Intn(reign.MaxTrust)})
			more := len(of(t, reign.Wrong, longer)) - many
			if more < 0 || more > 1 {
				t.Fatalf("Wrong of %v: %v; of %v: %v", l, of(t, reign.Wrong, l), longer, of(t, reign.Wrong, longer))
			}
			grown[more]++
		}
	}
	if slices.Min(grown[:]) == 0 {
		t.Errorf("%d sources more changed nothing, %d were one wrong one more", grown[0], grown[1])
	}
}
