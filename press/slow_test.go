package press_test

import (
	"math/rand"
	"slices"

	"headword/api"
	"headword/press"
)

// The functions here follow the definitions word by word, and try all orders: the tests compare the package with them.

func list(l ...int) []int { return l }

// sheets returns sheets of which Set and Print are told in turn.
func sheets(hours ...int) []press.Sheet {
	var l []press.Sheet
	for i := 0; i < len(hours); i += 2 {
		l = append(l, press.Sheet{Set: hours[i], Print: hours[i+1]})
	}
	return l
}

// The sheets of the chapter's examples.
func sheetsA() []press.Sheet { return sheets(3, 2, 1, 4, 5, 1) }
func sheetsB() []press.Sheet { return sheets(2, 2, 2, 2) }

// errorOf returns the error of a call that has one result beside it.
func errorOf[T any](_ T, e api.Errno) api.Errno { return e }

// slowEnds returns when each sheet of an order is set and printed.
func slowEnds(l []press.Sheet, order []int) (set, printed []int) {
	for place, number := range order {
		if place == 0 {
			set = append(set, l[number].Set)
			printed = append(printed, set[0]+l[number].Print)
			continue
		}
		set = append(set, set[place-1]+l[number].Set)
		later := set[place]
		if printed[place-1] > later {
			later = printed[place-1]
		}
		printed = append(printed, later+l[number].Print)
	}
	return set, printed
}

// slowTime returns the time of an order.
func slowTime(l []press.Sheet, order []int) int {
	_, printed := slowEnds(l, order)
	return printed[len(order)-1]
}

// slowIdle counts the hours of the time in which no sheet is printed.
func slowIdle(l []press.Sheet, order []int) int {
	_, printed := slowEnds(l, order)
	idle := 0
	for hour := range printed[len(order)-1] {
		prints := false
		for place, number := range order {
			if printed[place]-l[number].Print <= hour && hour < printed[place] {
				prints = true
			}
		}
		if !prints {
			idle++
		}
	}
	return idle
}

// slowSum returns the sum of a place.
func slowSum(l []press.Sheet, order []int, place int) int {
	all := 0
	for at, number := range order {
		if at <= place {
			all += l[number].Set
		}
		if at >= place {
			all += l[number].Print
		}
	}
	return all
}

// slowLast returns the first place whose sum is the time.
func slowLast(l []press.Sheet, order []int) int {
	for place := range order {
		if slowSum(l, order, place) == slowTime(l, order) {
			return place
		}
	}
	return -1
}

// slowRule returns the order of the rule: first it takes one number of hours after the other for the sheets that need fewer to be set, then it does so downwards for the others.
func slowRule(l []press.Sheet) []int {
	var order []int
	for hours := 0; hours <= press.MaxHours; hours++ {
		for number, s := range l {
			if s.Set < s.Print && s.Set == hours {
				order = append(order, number)
			}
		}
	}
	for hours := press.MaxHours; hours >= 0; hours-- {
		for number, s := range l {
			if s.Set >= s.Print && s.Print == hours {
				order = append(order, number)
			}
		}
	}
	return order
}

// allOrders has all orders of 0, 1 and more sheets, ascending, made once since they are asked for often.
var allOrders = func() (all [press.MaxSheets + 1][][]int) {
	all[0] = [][]int{nil}
	for many := 1; many < len(all); many++ {
		for first := range many {
			for _, rest := range all[many-1] {
				order := list(first)
				for _, number := range rest {
					if number >= first {
						number++
					}
					order = append(order, number)
				}
				all[many] = append(all[many], order)
			}
		}
	}
	return all
}()

// slowBest returns the smallest time of all orders, and the orders that have it, ascending.
func slowBest(l []press.Sheet) (time int, best [][]int) {
	for _, order := range allOrders[len(l)] {
		this := slowTime(l, order)
		if len(best) == 0 || this < time {
			time, best = this, nil
		}
		if this == time {
			best = append(best, order)
		}
	}
	return time, best
}

// slowGoes reports whether sheet i may go before sheet j.
func slowGoes(l []press.Sheet, i, j int) bool {
	one, other := l[i].Set, l[j].Set
	if l[j].Print < one {
		one = l[j].Print
	}
	if l[i].Print < other {
		other = l[i].Print
	}
	return one <= other
}

// slowBound returns the bound of a machine and a sheet.
func slowBound(l []press.Sheet, machine, k int) int {
	var needs [2][]int
	for _, s := range l {
		needs[0] = append(needs[0], s.Set)
		needs[1] = append(needs[1], s.Print)
	}
	here, there := needs[machine], needs[1-machine]
	bound := here[k]
	for i := range l {
		if here[i] < here[k] && here[i] < there[i] {
			bound += here[i]
		} else {
			bound += there[i]
		}
	}
	return bound
}

// slowProve returns the first machine and sheet with a bound.
func slowProve(l []press.Sheet, bound int) (machine, k int, found bool) {
	for machine := range 2 {
		for k := range l {
			if slowBound(l, machine, k) == bound {
				return machine, k, true
			}
		}
	}
	return 0, 0, false
}

// sheetsOf returns all lists of so many sheets that need at most so many hours on a machine.
func sheetsOf(many, hours int) [][]press.Sheet {
	lists := [][]press.Sheet{nil}
	for range many {
		var longer [][]press.Sheet
		for _, l := range lists {
			for set := range hours + 1 {
				for print := range hours + 1 {
					longer = append(longer, append(slices.Clone(l), press.Sheet{Set: set, Print: print}))
				}
			}
		}
		lists = longer
	}
	return lists
}

// drawSheets returns lists of sheets, most of them long; some need few hours, so that many are equal, some up to the limit.
func drawSheets(seed int64, many int) [][]press.Sheet {
	r := rand.New(rand.NewSource(seed))
	limits := list(1, 2, 4, 9, press.MaxHours)
	var lists [][]press.Sheet
	for range many {
		hours := limits[r.Intn(len(limits))]
		var l []press.Sheet
		for range max(1+r.Intn(press.MaxSheets), 1+r.Intn(press.MaxSheets)) {
			l = append(l, press.Sheet{Set: r.Intn(hours + 1), Print: r.Intn(hours + 1)})
		}
		lists = append(lists, l)
	}
	return lists
}

// manySheets returns all lists of few sheets that need few hours, and some others.
func manySheets(seed int64) [][]press.Sheet {
	lists := append(drawSheets(seed, 150), sheetsA(), sheetsB(), sheets(50, 50), sheets(0, 50), sheets(50, 0))
	lists = append(lists, sheetsOf(1, 9)...)
	lists = append(lists, sheetsOf(2, 4)...)
	lists = append(lists, sheetsOf(3, 2)...)
	return append(lists, sheetsOf(4, 1)...)
}
