package press_test

import (
	"slices"
	"testing"

	"headword/api"
	"headword/press"
)

// examineBest compares Rule, First and Count with what they are to return.
func examineBest(t *testing.T, l []press.Sheet, rule, first []int, count int) {
	t.Helper()
	if order, e := press.Rule(l); !slices.Equal(order, rule) || e != api.OK {
		t.Errorf("Rule of %v: %v %d, want %v", l, order, e, rule)
	}
	if order, e := press.First(l); !slices.Equal(order, first) || e != api.OK {
		t.Errorf("First of %v: %v %d, want %v", l, order, e, first)
	}
	if n, e := press.Count(l); n != count || e != api.OK {
		t.Errorf("Count of %v: %d %d, want %d", l, n, e, count)
	}
}

// P7.4, P7.5
func TestRuleFirstAndCount(t *testing.T) {
	for _, x := range []struct {
		l           []press.Sheet
		rule, first []int
		count       int
	}{
		{sheetsA(), list(1, 0, 2), list(0, 1, 2), 2},
		{sheetsB(), list(0, 1), list(0, 1), 2},
		{sheets(7, 0), list(0), list(0), 1},
		{sheets(0, 0, 0, 0, 0, 0), list(0, 1, 2), list(0, 1, 2), 6},
		{sheets(2, 3, 1, 3), list(1, 0), list(1, 0), 1},             // smaller Set
		{sheets(3, 1, 3, 2), list(1, 0), list(1, 0), 1},             // greater Print
		{sheets(3, 3, 2, 9), list(1, 0), list(1, 0), 1},             // as many hours is not fewer
		{sheets(9, 4, 4, 4, 3, 4), list(2, 0, 1), list(1, 2, 0), 3}, // of equal ones the smaller number
		{sheets(4, 4, 9, 4, 3, 9, 3, 4), list(2, 3, 0, 1), list(2, 0, 1, 3), 9},
		{sheets(5, 6, 1, 2, 6, 5, 2, 1), list(1, 0, 2, 3), list(1, 0, 2, 3), 1},
		{make([]press.Sheet, 7), list(0, 1, 2, 3, 4, 5, 6), list(0, 1, 2, 3, 4, 5, 6), 5040},
		{sheets(50, 49, 50, 50, 50, 48, 49, 50, 0, 50, 50, 0, 0, 0), list(4, 3, 1, 0, 2, 5, 6), list(4, 0, 1, 2, 3, 5, 6), 154},
	} {
		examineBest(t, x.l, x.rule, x.first, x.count)
	}
}

// P7.4, P7.5, M1, M3
func TestBestOfManySheets(t *testing.T) {
	alone, different := 0, 0
	for _, l := range append(manySheets(3), sheetsOf(3, 3)...) {
		rule := slowRule(l)
		_, best := slowBest(l)
		examineBest(t, l, rule, best[0], len(best))
		if len(best) == 1 && len(l) > 4 {
			alone++
		}
		if !slices.Equal(rule, best[0]) {
			different++
		}
	}
	if alone == 0 || different == 0 {
		t.Errorf("%d lists of five or more sheets have one best order, for %d the rule's is not the first one", alone, different)
	}
}

// P7.6
func TestGoes(t *testing.T) {
	for _, x := range []struct {
		l    []press.Sheet
		i, j int
		want bool
	}{
		{sheetsA(), 0, 1, false},
		{sheetsA(), 1, 0, true},
		{sheetsA(), 0, 2, true},
		{sheetsA(), 2, 0, false},
		{sheetsA(), 1, 2, true},
		{sheetsA(), 2, 1, false},
		{sheetsA(), 2, 2, true},
		{sheetsB(), 0, 1, true},
		{sheetsB(), 1, 0, true},
	} {
		if goes, e := press.Goes(x.l, x.i, x.j); goes != x.want || e != api.OK {
			t.Errorf("Goes of %v, %d, %d: %v %d", x.l, x.i, x.j, goes, e)
		}
	}
	for _, l := range append(manySheets(4), sheetsOf(2, 5)...) {
		for i := range l {
			for j := range l {
				if goes, e := press.Goes(l, i, j); goes != slowGoes(l, i, j) || e != api.OK {
					t.Fatalf("Goes of %v, %d, %d: %v %d, want %v", l, i, j, goes, e, slowGoes(l, i, j))
				}
			}
		}
	}
}

// P7.6
func TestErrorsOfGoes(t *testing.T) {
	for _, wrong := range list(-1, 3, 7, 1<<62, -1<<63) {
		for _, other := range list(wrong, 0, 2) {
			for _, x := range [][2]int{{wrong, other}, {other, wrong}} {
				if goes, e := press.Goes(sheetsA(), x[0], x[1]); goes || e != api.ErrNone {
					t.Errorf("Goes of %v, %d, %d: %v %d", sheetsA(), x[0], x[1], goes, e)
				}
			}
		}
	}
}
