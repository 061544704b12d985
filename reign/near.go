package reign

import (
	"slices"

	"headword/api"
)

// Block is sources with the same nearest value.
type Block struct {
	Begin, End int
	Value      Frac
}

// blockOf returns the sources from begin to end - 1 with their mean.
func blockOf(l []Source, begin, end int) Block {
	return Block{Begin: begin, End: end, Value: meanOf(part(l, begin, end))}
}

// blocksOf returns all blocks. From the last source to the first, each one is joined with what follows it for as long as its value is not below that of the next block.
func blocksOf(l []Source) []Block {
	byBegin := map[int]Block{}
	for i := range slices.Backward(l) {
		b := blockOf(l, i, i+1)
		for b.End < len(l) && b.Value.compare(byBegin[b.End].Value) >= 0 {
			joined := blockOf(l, i, byBegin[b.End].End)
			delete(byBegin, b.End)
			b = joined
		}
		byBegin[i] = b
	}
	blocks := []Block{}
	for begin := range l {
		if b, isBlock := byBegin[begin]; isBlock {
			blocks = append(blocks, b)
		}
	}
	return blocks
}

// nearestOf returns the nearest values.
func nearestOf(l []Source) []Frac {
	values := []Frac{}
	for _, b := range blocksOf(l) {
		values = append(values, slices.Repeat([]Frac{b.Value}, b.End-b.Begin)...)
	}
	return values
}

// cost returns what a value of a source costs.
func (s Source) cost(value Frac) Frac {
	difference := s.Year*value.Den - value.Num
	return fracOf(s.Trust*difference*difference, value.Den*value.Den)
}

// Nearest returns the nearest values.
func Nearest(l []Source) ([]Frac, api.Errno) {
	if e := Check(l); e != api.OK {
		return nil, e
	}
	return nearestOf(l), api.OK
}

// Blocks returns all blocks.
func Blocks(l []Source) ([]Block, api.Errno) {
	if e := Check(l); e != api.OK {
		return nil, e
	}
	return blocksOf(l), api.OK
}

// Least returns the cost of the nearest values.
func Least(l []Source) (Frac, api.Errno) {
	if e := Check(l); e != api.OK {
		return Frac{}, e
	}
	cost := whole(0)
	for _, b := range blocksOf(l) {
		for _, s := range part(l, b.Begin, b.End) {
			cost = cost.plus(s.cost(b.Value))
		}
	}
	return cost, api.OK
}

// Bounded returns the nearest values between two bounds.
func Bounded(l []Source, low, high int) ([]Frac, api.Errno) {
	if e := Check(l); e != api.OK {
		return nil, e
	}
	if !isYear(low) || !isYear(high) {
		return nil, api.ErrRange
	}
	if low > high {
		return nil, api.ErrOrder
	}
	// By P8.15 each value is the nearest one, or the bound that it is beyond.
	values := nearestOf(l)
	for i, value := range values {
		if value.compare(whole(low)) < 0 {
			values[i] = whole(low)
		}
		if value.compare(whole(high)) > 0 {
			values[i] = whole(high)
		}
	}
	return values, api.OK
}
