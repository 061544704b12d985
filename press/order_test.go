package press_test

import (
	"slices"
	"testing"

	"headword/api"
	"headword/press"
)

// examineOrder compares what the functions return of an order with what they are to return.
func examineOrder(t *testing.T, l []press.Sheet, order, set, printed []int, idle, last int) {
	t.Helper()
	a, b, e := press.Ends(l, order)
	if !slices.Equal(a, set) || !slices.Equal(b, printed) || e != api.OK {
		t.Errorf("Ends of %v, %v: %v, %v %d, want %v, %v", l, order, a, b, e, set, printed)
	}
	if n, e := press.Time(l, order); n != printed[len(printed)-1] || e != api.OK {
		t.Errorf("Time of %v, %v: %d %d, want %d", l, order, n, e, printed[len(printed)-1])
	}
	if n, e := press.Idle(l, order); n != idle || e != api.OK {
		t.Errorf("Idle of %v, %v: %d %d, want %d", l, order, n, e, idle)
	}
	if n, e := press.Last(l, order); n != last || e != api.OK {
		t.Errorf("Last of %v, %v: %d %d, want %d", l, order, n, e, last)
	}
}

// P7.2, P7.3
func TestEndsTimeIdleAndLast(t *testing.T) {
	for _, x := range []struct {
		l                   []press.Sheet
		order, set, printed []int
		idle, last          int
	}{
		{sheetsA(), list(0, 1, 2), list(3, 4, 9), list(5, 9, 10), 3, 0},
		{sheetsA(), list(1, 0, 2), list(1, 4, 9), list(5, 7, 10), 3, 2},
		{sheetsA(), list(2, 1, 0), list(5, 6, 9), list(6, 10, 12), 5, 0},
		{sheetsB(), list(1, 0), list(2, 4), list(4, 6), 2, 0},
		{sheets(0, 0), list(0), list(0), list(0), 0, 0},
		{sheets(0, 7), list(0), list(0), list(7), 0, 0},
		{sheets(7, 0), list(0), list(7), list(7), 7, 0},
		{sheets(50, 50), list(0), list(50), list(100), 50, 0},
		{sheets(5, 0, 1, 0), list(0, 1), list(5, 6), list(5, 6), 6, 1},
		{sheets(0, 5, 0, 1), list(1, 0), list(0, 0), list(1, 6), 0, 0},
		{sheets(1, 1, 4, 1, 1, 9), list(0, 1, 2), list(1, 5, 6), list(2, 6, 15), 4, 1}, // the press waits between, and then not
		{sheets(50, 50, 50, 50, 50, 50, 50, 50, 50, 50, 50, 50, 50, 50), list(6, 5, 4, 3, 2, 1, 0), list(50, 100, 150, 200, 250, 300, 350), list(100, 150, 200, 250, 300, 350, 400), 50, 0},
		{sheets(50, 0, 50, 0, 50, 0, 50, 0, 50, 0, 50, 0, 50, 0), list(0, 2, 4, 6, 1, 3, 5), list(50, 100, 150, 200, 250, 300, 350), list(50, 100, 150, 200, 250, 300, 350), 350, 6},
	} {
		examineOrder(t, x.l, x.order, x.set, x.printed, x.idle, x.last)
	}
}

// P7.2, P7.3
func TestAllOrders(t *testing.T) {
	lasts := [press.MaxSheets]int{}
	for _, l := range manySheets(2) {
		orders := allOrders[len(l)]
		for i := 0; i < len(orders); i += 1 + len(orders)/100 {
			order := orders[i]
			set, printed := slowEnds(l, order)
			last := slowLast(l, order)
			lasts[last]++
			examineOrder(t, l, order, set, printed, slowIdle(l, order), last)
		}
	}
	if slices.Min(lasts[:]) == 0 {
		t.Errorf("the places were the last one so often: %v", lasts)
	}
}
