package press_test

import (
	"math/rand"
	"slices"
	"testing"

	"headword/api"
	"headword/press"
)

// time returns the time of an order that is to be right.
func time(t *testing.T, l []press.Sheet, order []int) int {
	t.Helper()
	n, e := press.Time(l, order)
	if e != api.OK {
		t.Fatalf("Time of %v, %v: %d", l, order, e)
	}
	return n
}

// best returns the time of the first best order.
func best(t *testing.T, l []press.Sheet) int {
	t.Helper()
	order, e := press.First(l)
	if e != api.OK {
		t.Fatalf("First of %v: %d", l, e)
	}
	return time(t, l, order)
}

func bound(t *testing.T, l []press.Sheet, machine, k int) int {
	t.Helper()
	n, e := press.Bound(l, machine, k)
	if e != api.OK {
		t.Fatalf("Bound of %v, %d, %d: %d", l, machine, k, e)
	}
	return n
}

// someOrders returns all orders of few sheets, and some of many.
func someOrders(l []press.Sheet) [][]int {
	var some [][]int
	all := allOrders[len(l)]
	for i := 0; i < len(all); i += 1 + len(all)/50 {
		some = append(some, all[i])
	}
	return some
}

// P7.9
func TestRuleIsBest(t *testing.T) {
	for _, l := range manySheets(8) {
		rule, e := press.Rule(l)
		if e != api.OK {
			t.Fatalf("Rule of %v: %d", l, e)
		}
		least := time(t, l, rule)
		if first := best(t, l); first != least {
			t.Errorf("%v: First has the time %d, Rule %d", l, first, least)
		}
		for _, order := range allOrders[len(l)] {
			if n := time(t, l, order); n < least {
				t.Fatalf("%v: %v has the time %d, Rule %d", l, order, n, least)
			}
		}
	}
}

// P7.10
func TestNoOrderIsBelowABound(t *testing.T) {
	for _, l := range manySheets(9) {
		least, _ := slowBest(l)
		greatest := 0
		for machine := range 2 {
			for k := range l {
				greatest = max(greatest, bound(t, l, machine, k))
			}
		}
		machine, k, e := press.Prove(l)
		if e != api.OK || greatest != least || bound(t, l, machine, k) != least {
			t.Errorf("%v: the greatest bound is %d, that of %d and %d is %d %d, the smallest time %d", l, greatest, machine, k, bound(t, l, machine, k), e, least)
		}
	}
}

// P7.10: what Proves accepts is a best order, and each best order is accepted with the bound of Prove.
func TestProofsAreOfBestOrders(t *testing.T) {
	for _, l := range manySheets(10) {
		least, _ := slowBest(l)
		machine, k, _ := press.Prove(l)
		for _, order := range someOrders(l) {
			isBest := slowTime(l, order) == least
			if e := press.Proves(l, order, machine, k); (e == api.OK) != isBest {
				t.Errorf("Proves of %v, %v, %d, %d: %d", l, order, machine, k, e)
			}
			for machine := range 2 {
				for k := range l {
					if e := press.Proves(l, order, machine, k); e == api.OK && !isBest {
						t.Errorf("Proves accepts %v, %v, %d, %d", l, order, machine, k)
					}
				}
			}
		}
	}
}

// P7.11
func TestTimeIsTheGreatestSum(t *testing.T) {
	for _, l := range manySheets(11) {
		for _, order := range someOrders(l) {
			greatest, at := -1, 0
			for place := range order {
				if sum := slowSum(l, order, place); sum > greatest {
					greatest, at = sum, place
				}
			}
			last, e := press.Last(l, order)
			if time(t, l, order) != greatest || last != at || e != api.OK {
				t.Errorf("%v, %v: time %d, Last %d %d, the greatest sum is %d at %d", l, order, time(t, l, order), last, e, greatest, at)
			}
		}
	}
}

// P7.12
func TestNeighbours(t *testing.T) {
	worse := 0
	for _, l := range manySheets(12) {
		for _, order := range someOrders(l) {
			for place := 1; place < len(order); place++ {
				i, j := order[place-1], order[place]
				goes, e := press.Goes(l, i, j)
				back, f := press.Goes(l, j, i)
				if e != api.OK || f != api.OK || !goes && !back {
					t.Fatalf("Goes of %v: %d, %d: %v %d; back: %v %d", l, i, j, goes, e, back, f)
				}
				exchanged := slices.Clone(order)
				exchanged[place-1], exchanged[place] = j, i
				one, other := time(t, l, order), time(t, l, exchanged)
				if goes && other < one {
					t.Errorf("%v: %d may go before %d, but %v has the time %d, %v %d", l, i, j, order, one, exchanged, other)
				}
				if goes && other > one {
					worse++
				}
			}
		}
	}
	if worse == 0 {
		t.Error("no exchange makes a time greater")
	}
}

// P7.13
func TestTurned(t *testing.T) {
	for _, l := range manySheets(13) {
		turned, e := press.Turn(l)
		if e != api.OK {
			t.Fatalf("Turn of %v: %d", l, e)
		}
		if again, e := press.Turn(turned); !slices.Equal(again, l) || e != api.OK {
			t.Errorf("Turn of %v: %v, and of that: %v %d", l, turned, again, e)
		}
		for _, order := range someOrders(l) {
			// The first sheet is the last one of the turned sheets.
			var opposite []int
			for _, number := range slices.Backward(order) {
				opposite = append(opposite, len(l)-1-number)
			}
			if one, other := time(t, l, order), time(t, turned, opposite); one != other {
				t.Errorf("%v, %v: time %d; %v, %v: %d", l, order, one, turned, opposite, other)
			}
		}
	}
}

// P7.14
func TestOtherNumbers(t *testing.T) {
	r := rand.New(rand.NewSource(14))
	for _, l := range manySheets(14) {
		var other []press.Sheet
		for _, number := range r.Perm(len(l)) {
			other = append(other, l[number])
		}
		one, e := press.Count(l)
		two, f := press.Count(other)
		if one != two || e != api.OK || f != api.OK || best(t, l) != best(t, other) {
			t.Errorf("%v: %d best orders %d with the time %d; %v: %d %d, %d", l, one, e, best(t, l), other, two, f, best(t, other))
		}
	}
}

// P7.15
func TestOneSheetMore(t *testing.T) {
	r := rand.New(rand.NewSource(15))
	grown := [2]int{}
	for _, l := range manySheets(15) {
		if len(l) == press.MaxSheets {
			continue
		}
		hours := 1 + r.Intn(press.MaxHours+1)
		more := press.Sheet{Set: r.Intn(hours), Print: r.Intn(hours)}
		longer := slices.Insert(slices.Clone(l), r.Intn(len(l)+1), more)
		one, other := best(t, l), best(t, longer)
		switch {
		case other < one:
			t.Errorf("%v: time %d; %v: %d", l, one, longer, other)
		case other > one:
			grown[1]++
		default:
			grown[0]++
		}
	}
	if slices.Min(grown[:]) == 0 {
		t.Errorf("%d sheets changed nothing, %d made the time greater", grown[0], grown[1])
	}
}

// P7.15
func TestMoreHours(t *testing.T) {
	r := rand.New(rand.NewSource(16))
	grown := [2]int{}
	for _, l := range manySheets(16) {
		for k, s := range l {
			larger := slices.Clone(l)
			larger[k] = press.Sheet{Set: s.Set + r.Intn(press.MaxHours+1-s.Set), Print: s.Print + r.Intn(press.MaxHours+1-s.Print)}
			if one, other := best(t, l), best(t, larger); other < one {
				t.Errorf("%v: time %d; %v: %d", l, one, larger, other)
			}
			for _, more := range sheets(1, 0, 0, 1) {
				larger[k] = press.Sheet{Set: s.Set + more.Set, Print: s.Print + more.Print}
				if press.Check(larger) != api.OK {
					continue
				}
				hours := best(t, larger) - best(t, l)
				if hours < 0 || hours > 1 {
					t.Fatalf("%v: time %d; %v: %d", l, best(t, l), larger, best(t, larger))
				}
				grown[hours]++
			}
		}
	}
	if slices.Min(grown[:]) == 0 {
		t.Errorf("%d hours changed nothing, %d made the time greater", grown[0], grown[1])
	}
}

// P7.16
func TestHours(t *testing.T) {
	for _, l := range manySheets(17) {
		prints := 0
		for _, s := range l {
			prints += s.Print
		}
		for _, order := range someOrders(l) {
			idle, e := press.Idle(l, order)
			if e != api.OK || idle < 0 || time(t, l, order) != prints+idle {
				t.Errorf("%v, %v: time %d, prints %d, Idle %d %d", l, order, time(t, l, order), prints, idle, e)
			}
		}
	}
}
