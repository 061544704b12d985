package press_test

import (
	"slices"
	"testing"

	"headword/api"
	"headword/press"
)

func TestLimits(t *testing.T) {
	if press.MaxSheets != 7 || press.MaxHours != 50 {
		t.Errorf("limits %d, %d", press.MaxSheets, press.MaxHours)
	}
}

// wrongSheets are sheets with an error, and the error that counts.
var wrongSheets = []struct {
	l    []press.Sheet
	want api.Errno
}{
	{nil, api.ErrEmpty},
	{[]press.Sheet{}, api.ErrEmpty}, // R3
	{make([]press.Sheet, 8), api.ErrMany},
	{make([]press.Sheet, 100000), api.ErrMany},
	{append(make([]press.Sheet, 7), sheets(51, 0)...), api.ErrMany}, // too many come before wrong ones
	{append(sheets(-1, 0), make([]press.Sheet, 7)...), api.ErrMany},
	{sheets(51, 0), api.ErrRange},
	{sheets(0, 51), api.ErrRange},
	{sheets(-1, 0), api.ErrRange},
	{sheets(0, -1), api.ErrRange},
	{sheets(51, -1), api.ErrRange},
	{sheets(1<<63-1, 0), api.ErrRange},
	{sheets(0, 1<<63-1), api.ErrRange},
	{sheets(-1<<63, 50), api.ErrRange},
	{sheets(50, -1<<63), api.ErrRange},
	{sheets(3, 2, 1, 51, 5, 1), api.ErrRange},
	{sheets(3, 2, 1, 4, -1, 1), api.ErrRange},
	{append(make([]press.Sheet, 6), sheets(0, 51)...), api.ErrRange},
}

// P7.1
func TestCheck(t *testing.T) {
	for _, l := range [][]press.Sheet{
		sheetsA(), sheetsB(), sheets(0, 0), sheets(50, 50), sheets(0, 50), sheets(50, 0), make([]press.Sheet, 7),
	} {
		if e := press.Check(l); e != api.OK {
			t.Errorf("Check of %v: %d", l, e)
		}
	}
	for _, x := range wrongSheets {
		if e := press.Check(x.l); e != x.want {
			t.Errorf("Check of %.9v: %d, want %d", x.l, e, x.want)
		}
	}
}

// examineOrderError examines that an order has an error, and that there is no result besides it.
func examineOrderError(t *testing.T, l []press.Sheet, order []int, want api.Errno) {
	t.Helper()
	set, printed, e1 := press.Ends(l, order)
	time, e2 := press.Time(l, order)
	idle, e3 := press.Idle(l, order)
	last, e4 := press.Last(l, order)
	e5 := press.Proves(l, order, 0, 0)
	e6 := press.Proves(l, order, 2, -1) // the order comes before the machine and the sheet
	errors := []api.Errno{e1, e2, e3, e4, e5, e6}
	if slices.ContainsFunc(errors, func(e api.Errno) bool { return e != want }) {
		t.Errorf("%.9v, %.9v: errors %v, want %d", l, order, errors, want)
	}
	if len(set) != 0 || len(printed) != 0 || time != 0 || idle != 0 || last != 0 {
		t.Errorf("%.9v, %.9v: %v, %v, %d, %d, %d besides an error", l, order, set, printed, time, idle, last)
	}
}

// P7.1, R2: the error of the sheets comes before all other ones.
func TestErrorsOfSheets(t *testing.T) {
	for _, x := range wrongSheets {
		for _, order := range [][]int{nil, list(0), list(0, 1, 2), list(9), list(0, 0), make([]int, 20)} {
			examineOrderError(t, x.l, order, x.want)
		}
		rule, e1 := press.Rule(x.l)
		first, e2 := press.First(x.l)
		count, e3 := press.Count(x.l)
		machine, k, e4 := press.Prove(x.l)
		turned, e5 := press.Turn(x.l)
		errors := []api.Errno{e1, e2, e3, e4, e5}
		if len(rule) != 0 || len(first) != 0 || count != 0 || machine != 0 || k != 0 || len(turned) != 0 {
			t.Errorf("%.9v: %v, %v, %d, %d, %d, %v besides an error", x.l, rule, first, count, machine, k, turned)
		}
		for _, i := range list(-1, 0, 8, 1<<62) {
			goes, e6 := press.Goes(x.l, 0, i)
			bound, e7 := press.Bound(x.l, 0, i)
			_, e8 := press.Bound(x.l, i, 0)
			errors = append(errors, e6, e7, e8)
			if goes || bound != 0 {
				t.Errorf("%.9v, %d: %v, %d besides an error", x.l, i, goes, bound)
			}
		}
		if slices.ContainsFunc(errors, func(e api.Errno) bool { return e != x.want }) {
			t.Errorf("%.9v: errors %v, want %d", x.l, errors, x.want)
		}
	}
}

// P7.1, R1
func TestErrorsOfOrders(t *testing.T) {
	for _, x := range []struct {
		order []int
		want  api.Errno
	}{
		{nil, api.ErrShape},
		{list(), api.ErrShape},
		{list(0, 1), api.ErrShape},
		{list(0, 1, 2, 0), api.ErrShape},
		{list(9, 9), api.ErrShape}, // the length comes first
		{list(0, 0), api.ErrShape},
		{make([]int, 100000), api.ErrShape},
		{list(0, 1, 3), api.ErrNone},
		{list(-1, 1, 2), api.ErrNone},
		{list(0, 1, 1<<62), api.ErrNone},
		{list(-1<<63, 1, 0), api.ErrNone},
		{list(3, 3, 3), api.ErrNone},
		{list(-1, 0, 0), api.ErrNone}, // the first number with an error counts
		{list(0, 9, 0), api.ErrNone},
		{list(0, 0, 9), api.ErrTwice},
		{list(0, 0, 1), api.ErrTwice},
		{list(0, 1, 0), api.ErrTwice},
		{list(2, 1, 1), api.ErrTwice},
		{list(0, 0, 0), api.ErrTwice},
	} {
		examineOrderError(t, sheetsA(), x.order, x.want)
	}
	examineOrderError(t, sheets(1, 2), list(1), api.ErrNone)
	examineOrderError(t, make([]press.Sheet, 7), list(0, 1, 2, 3, 4, 5, 7), api.ErrNone)
	examineOrderError(t, make([]press.Sheet, 7), list(6, 1, 2, 3, 4, 5, 6), api.ErrTwice)
}

// P7.8
func TestTurn(t *testing.T) {
	for _, x := range []struct{ l, want []press.Sheet }{
		{sheetsA(), sheets(1, 5, 4, 1, 2, 3)},
		{sheetsB(), sheetsB()},
		{sheets(7, 0), sheets(0, 7)},
		{sheets(1, 2, 3, 4), sheets(4, 3, 2, 1)},
		{sheets(0, 1, 2, 3, 4, 5, 6, 7, 8, 9, 10, 11, 12, 50), sheets(50, 12, 11, 10, 9, 8, 7, 6, 5, 4, 3, 2, 1, 0)},
	} {
		if l, e := press.Turn(x.l); !slices.Equal(l, x.want) || e != api.OK {
			t.Errorf("Turn of %v: %v %d, want %v", x.l, l, e, x.want)
		}
	}
}

// R4, P1: no memory is shared, no argument is changed, and equal arguments have equal results.
func TestOwnMemory(t *testing.T) {
	for _, l := range append(drawSheets(1, 100), sheetsA(), sheetsB()) {
		before := slices.Clone(l)
		order := allOrders[len(l)][len(allOrders[len(l)])-1]
		orderBefore := slices.Clone(order)
		for name, result := range map[string]func() []int{
			"Rule":    func() []int { r, _ := press.Rule(l); return r },
			"First":   func() []int { r, _ := press.First(l); return r },
			"set":     func() []int { r, _, _ := press.Ends(l, order); return r },
			"printed": func() []int { _, r, _ := press.Ends(l, order); return r },
		} {
			r := result()
			want := slices.Clone(r)
			_ = append(r, 9)
			clear(r)
			if again := result(); !slices.Equal(again, want) || !slices.Equal(l, before) || !slices.Equal(order, orderBefore) {
				t.Fatalf("%s of %v, %v: %v, then %v", name, before, orderBefore, want, again)
			}
		}
		turned, _ := press.Turn(l)
		want := slices.Clone(turned)
		clear(turned)
		if again, _ := press.Turn(l); !slices.Equal(again, want) || !slices.Equal(l, before) {
			t.Fatalf("Turn of %v: %v, then %v", before, want, again)
		}
	}
}

// R4: the two lists of Ends share no memory.
func TestEndsHaveOwnMemory(t *testing.T) {
	set, printed, _ := press.Ends(sheetsA(), list(0, 1, 2))
	_ = append(set, 9)
	clear(set)
	if !slices.Equal(printed, list(5, 9, 10)) {
		t.Errorf("printed is now %v", printed)
	}
}

// R4: arguments are not changed.
func TestArgumentsStay(t *testing.T) {
	l, order := sheetsA(), list(2, 1, 0)
	press.Check(l)
	press.Time(l, order)
	press.Idle(l, order)
	press.Last(l, order)
	press.Count(l)
	press.Goes(l, 0, 2)
	press.Bound(l, 1, 2)
	press.Prove(l)
	press.Proves(l, order, 1, 2)
	if !slices.Equal(l, sheetsA()) || !slices.Equal(order, list(2, 1, 0)) {
		t.Errorf("the arguments are now %v, %v", l, order)
	}
}
