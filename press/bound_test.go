package press_test

import (
	"testing"

	"headword/api"
	"headword/press"
)

// P7.7
func TestBound(t *testing.T) {
	for _, x := range []struct {
		l                []press.Sheet
		machine, k, want int
	}{
		{sheetsA(), 0, 0, 7},
		{sheetsA(), 0, 1, 8},
		{sheetsA(), 0, 2, 9},
		{sheetsA(), 1, 0, 7},
		{sheetsA(), 1, 1, 8},
		{sheetsA(), 1, 2, 10},
		{sheetsB(), 0, 1, 6}, // as many hours is not fewer
		{sheets(0, 0), 1, 0, 0},
		{sheets(50, 0), 0, 0, 50},
		{sheets(50, 0), 1, 0, 50},
		{sheets(2, 9, 3, 4), 0, 1, 9},
		{sheets(9, 2, 4, 3), 1, 1, 9},
		{sheets(2, 1, 3, 4), 0, 1, 8}, // fewer hours, but fewer still on the other machine
		{sheets(1, 2, 4, 3), 1, 1, 8},
		{sheets(50, 50, 50, 50, 50, 50, 50, 50, 50, 50, 50, 50, 50, 50), 1, 6, 400},
	} {
		if n, e := press.Bound(x.l, x.machine, x.k); n != x.want || e != api.OK {
			t.Errorf("Bound of %v, %d, %d: %d %d, want %d", x.l, x.machine, x.k, n, e, x.want)
		}
	}
	for _, l := range append(manySheets(5), sheetsOf(3, 3)...) {
		for machine := range 2 {
			for k := range l {
				if n, e := press.Bound(l, machine, k); n != slowBound(l, machine, k) || e != api.OK {
					t.Fatalf("Bound of %v, %d, %d: %d %d, want %d", l, machine, k, n, e, slowBound(l, machine, k))
				}
			}
		}
	}
}

// P7.7
func TestErrorsOfBounds(t *testing.T) {
	for _, x := range [][2]int{
		{2, 0}, {-1, 0}, {1 << 62, 0}, {-1 << 63, 2},
		{0, 3}, {1, 3}, {0, -1}, {1, -1}, {0, 1 << 62}, {1, -1 << 63}, {2, 3}, {-1, -1},
	} {
		if n, e := press.Bound(sheetsA(), x[0], x[1]); n != 0 || e != api.ErrNone {
			t.Errorf("Bound of %d, %d: %d %d", x[0], x[1], n, e)
		}
		for _, order := range allOrders[3] { // no bound comes before no proof
			if e := press.Proves(sheetsA(), order, x[0], x[1]); e != api.ErrNone {
				t.Errorf("Proves of %v, %d, %d: %d", order, x[0], x[1], e)
			}
		}
	}
}

// P7.7
func TestProve(t *testing.T) {
	for _, x := range []struct {
		l          []press.Sheet
		machine, k int
	}{
		{sheetsA(), 1, 2},
		{sheetsB(), 0, 0},
		{sheets(0, 0), 0, 0},
		{sheets(1, 3, 2, 3), 0, 0},
		{sheets(3, 2, 3, 1), 1, 1},
		{sheets(2, 5, 4, 4, 6, 3, 1, 2), 0, 2},
		{sheets(5, 1, 5, 1, 5, 1), 1, 0},
		{sheets(3, 2, 3, 2, 3, 2, 3, 2, 3, 2, 3, 2, 5, 1), 1, 6},
	} {
		if machine, k, e := press.Prove(x.l); machine != x.machine || k != x.k || e != api.OK {
			t.Errorf("Prove of %v: %d, %d %d, want %d, %d", x.l, machine, k, e, x.machine, x.k)
		}
	}
}

// P7.7, P7.10
func TestProveOfManySheets(t *testing.T) {
	found := [2][press.MaxSheets]int{}
	for _, l := range append(manySheets(6), sheetsOf(3, 3)...) {
		best, _ := slowBest(l)
		wantMachine, wantSheet, is := slowProve(l, best)
		machine, k, e := press.Prove(l)
		if !is || machine != wantMachine || k != wantSheet || e != api.OK {
			t.Fatalf("Prove of %v: %d, %d %d, want %d, %d", l, machine, k, e, wantMachine, wantSheet)
		}
		found[machine][k]++
	}
	for machine := range found {
		for k, many := range found[machine] {
			if many == 0 && k < 5 {
				t.Errorf("machine %d and sheet %d are nowhere the first", machine, k)
			}
		}
	}
}

// P7.7, M4
func TestProves(t *testing.T) {
	for _, x := range []struct {
		order      []int
		machine, k int
		want       api.Errno
	}{
		{list(0, 1, 2), 1, 2, api.OK},
		{list(1, 0, 2), 1, 2, api.OK},
		{list(0, 1, 2), 0, 0, api.ErrProof},
		{list(0, 1, 2), 0, 2, api.ErrProof}, // one hour less
		{list(2, 1, 0), 1, 2, api.ErrProof},
	} {
		if e := press.Proves(sheetsA(), x.order, x.machine, x.k); e != x.want {
			t.Errorf("Proves of %v, %d, %d: %d, want %d", x.order, x.machine, x.k, e, x.want)
		}
	}
	for _, l := range manySheets(7) {
		if len(l) <= 4 {
			examineProofs(t, l)
		}
	}
}

// examineProofs examines Proves of all orders and all bounds.
func examineProofs(t *testing.T, l []press.Sheet) {
	t.Helper()
	for _, order := range allOrders[len(l)] {
		for machine := range 2 {
			for k := range l {
				want := api.ErrProof
				if slowBound(l, machine, k) == slowTime(l, order) {
					want = api.OK
				}
				if e := press.Proves(l, order, machine, k); e != want {
					t.Errorf("Proves of %v, %v, %d, %d: %d, want %d", l, order, machine, k, e, want)
				}
			}
		}
	}
}
