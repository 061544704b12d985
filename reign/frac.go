package reign

import "cmp"

// Frac is a fraction.
type Frac struct {
	Num int
	Den int
}

// fracOf returns a number divided by another one, which is to be above 0, in lowest terms.
func fracOf(num, den int) Frac {
	divisor := commonDivisor(max(num, -num), den)
	return Frac{Num: num / divisor, Den: den / divisor}
}

// commonDivisor returns the greatest number that divides both of two numbers that are not below 0, nor both 0.
func commonDivisor(one, other int) int {
	for one != 0 {
		one, other = other%one, one
	}
	return other
}

// whole returns a number as a fraction.
func whole(number int) Frac {
	return Frac{Num: number, Den: 1}
}

// compare returns a number below, equal to or above 0 if a fraction is smaller than the other one, equal to it or greater.
func (f Frac) compare(other Frac) int {
	return cmp.Compare(f.Num*other.Den, other.Num*f.Den)
}

// plus returns two fractions together.
func (f Frac) plus(other Frac) Frac {
	return fracOf(f.Num*other.Den+other.Num*f.Den, f.Den*other.Den)
}
