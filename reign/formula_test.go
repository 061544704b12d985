package reign_test

import (
	"testing"

	"headword/api"
	"headword/reign"
)

// P8.4
func TestHighAndLow(t *testing.T) {
	for _, x := range []struct {
		l    []reign.Source
		i    int
		want reign.Frac
	}{
		{sourcesA(), 0, frac(2, 1)},
		{sourcesA(), 1, frac(2, 1)},
		{sourcesA(), 2, frac(2, 1)},
		{sourcesB(), 0, frac(2, 1)},
		{sourcesB(), 3, frac(3, 1)},
		{sourcesC(), 0, frac(1, 1)},
		{sources(0, 5), 0, frac(0, 1)},
		{sources(100, 9, 0, 8), 1, frac(900, 17)},
		{eight(100, 9), 7, frac(100, 1)},
	} {
		if high, e := reign.High(x.l, x.i); high != x.want || e != api.OK {
			t.Errorf("High of %v, %d: %v %d, want %v", x.l, x.i, high, e, x.want)
		}
		if low, e := reign.Low(x.l, x.i); low != x.want || e != api.OK {
			t.Errorf("Low of %v, %d: %v %d, want %v", x.l, x.i, low, e, x.want)
		}
	}
}

// P8.4
func TestHighAndLowOfManySources(t *testing.T) {
	for _, l := range manySources(7) {
		for i := range l {
			if high, e := reign.High(l, i); high != fracOf(slowHigh(l, i)) || e != api.OK {
				t.Errorf("High of %v, %d: %v %d, want %v", l, i, high, e, slowHigh(l, i))
			}
			if low, e := reign.Low(l, i); low != fracOf(slowLow(l, i)) || e != api.OK {
				t.Errorf("Low of %v, %d: %v %d, want %v", l, i, low, e, slowLow(l, i))
			}
		}
	}
}

// P8.4, R2
func TestErrorsOfHighAndLow(t *testing.T) {
	for _, i := range list(-1, 4, 5, 8, 1<<63-1, -1<<63) {
		high, e := reign.High(sourcesB(), i)
		low, f := reign.Low(sourcesB(), i)
		if high != frac(0, 0) || low != frac(0, 0) || e != api.ErrNone || f != api.ErrNone {
			t.Errorf("High of %d: %v %d, Low: %v %d", i, high, e, low, f)
		}
	}
}
