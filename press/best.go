package press

import (
	"cmp"
	"slices"

	"headword/api"
)

// compare returns which of two sheets is before the other one in the order of the rule: below 0 if s is.
func (s Sheet) compare(other Sheet) int {
	sIsFirst, otherIsFirst := s.Set < s.Print, other.Set < other.Print
	switch {
	case sIsFirst && otherIsFirst:
		return cmp.Compare(s.Set, other.Set)
	case sIsFirst:
		return -1
	case otherIsFirst:
		return 1
	}
	return cmp.Compare(other.Print, s.Print)
}

// byRule returns the order of the rule.
func byRule(sheets []Sheet) []int {
	order := []int{}
	for number := range sheets {
		order = append(order, number)
	}
	slices.SortStableFunc(order, func(i, j int) int { return sheets[i].compare(sheets[j]) })
	return order
}

// bestTime returns the time of a best order. By P7.9 that of the rule is best.
func bestTime(sheets []Sheet) int {
	return timeOf(inOrder(sheets, byRule(sheets)))
}

// bestOrders returns all best orders, in ascending order.
func bestOrders(sheets []Sheet) [][]int {
	best := bestTime(sheets)
	orders := [][]int{}
	order := []int{}
	var search func(last ends)
	search = func(last ends) {
		if last.printed > best {
			return
		}
		if len(order) == len(sheets) {
			orders = append(orders, slices.Clone(order))
			return
		}
		for number, s := range sheets {
			if slices.Contains(order, number) {
				continue
			}
			order = append(order, number)
			search(last.then(s))
			order = order[:len(order)-1]
		}
	}
	search(ends{})
	return orders
}

// Rule returns the order by the rule.
func Rule(sheets []Sheet) ([]int, api.Errno) {
	if e := Check(sheets); e != api.OK {
		return nil, e
	}
	return byRule(sheets), api.OK
}

// First returns the first best order.
func First(sheets []Sheet) ([]int, api.Errno) {
	if e := Check(sheets); e != api.OK {
		return nil, e
	}
	return bestOrders(sheets)[0], api.OK
}

// Count returns how many best orders there are.
func Count(sheets []Sheet) (int, api.Errno) {
	if e := Check(sheets); e != api.OK {
		return 0, e
	}
	return len(bestOrders(sheets)), api.OK
}

// Goes reports whether a sheet may go before another one.
func Goes(sheets []Sheet, i, j int) (bool, api.Errno) {
	if e := Check(sheets); e != api.OK {
		return false, e
	}
	if !isSheet(sheets, i) || !isSheet(sheets, j) {
		return false, api.ErrNone
	}
	one, other := sheets[i], sheets[j]
	return min(one.Set, other.Print) <= min(other.Set, one.Print), api.OK
}
