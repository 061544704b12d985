package reign_test

import (
	"slices"
	"testing"

	"headword/api"
	"headword/reign"
)

func TestLimits(t *testing.T) {
	if reign.MaxSources != 8 || reign.MaxYear != 100 || reign.MaxTrust != 9 || reign.MaxDen != 72 {
		t.Errorf("limits %d, %d, %d, %d", reign.MaxSources, reign.MaxYear, reign.MaxTrust, reign.MaxDen)
	}
}

// eight returns eight times the same source.
func eight(year, trust int) []reign.Source {
	return slices.Repeat(sources(year, trust), 8)
}

// wrongSources are sources with an error, and the error that counts.
var wrongSources = []struct {
	l    []reign.Source
	want api.Errno
}{
	{nil, api.ErrEmpty},
	{[]reign.Source{}, api.ErrEmpty}, // R3
	{append(eight(5, 1), sources(5, 1)...), api.ErrMany},
	{slices.Repeat(sources(5, 1), 100000), api.ErrMany},
	{make([]reign.Source, 9), api.ErrMany}, // too many come before wrong ones
	{append(eight(5, 1), sources(101, 0)...), api.ErrMany},
	{sources(101, 1), api.ErrRange},
	{sources(-1, 1), api.ErrRange},
	{sources(5, 0), api.ErrRange},
	{sources(5, 10), api.ErrRange},
	{sources(5, -1), api.ErrRange},
	{sources(101, 10), api.ErrRange},
	{sources(1<<63-1, 1), api.ErrRange},
	{sources(-1<<63, 1), api.ErrRange},
	{sources(5, 1<<63-1), api.ErrRange},
	{sources(5, -1<<63), api.ErrRange},
	{sources(3, 1, 101, 1, 2, 1), api.ErrRange},
	{sources(3, 1, 1, 1, 2, 0), api.ErrRange},
	{append(eight(5, 1)[:7], sources(5, 10)...), api.ErrRange},
}

// P8.1
func TestCheck(t *testing.T) {
	for _, l := range [][]reign.Source{
		sourcesA(), sourcesB(), sourcesC(), sources(0, 1), sources(100, 9), sources(0, 9), sources(100, 1), eight(100, 9), eight(0, 1),
	} {
		if e := reign.Check(l); e != api.OK {
			t.Errorf("Check of %v: %d", l, e)
		}
	}
	for _, x := range wrongSources {
		if e := reign.Check(x.l); e != x.want {
			t.Errorf("Check of %.9v: %d, want %d", x.l, e, x.want)
		}
	}
}

// P8.1, R2: the error of the sources comes before all other ones.
func TestErrorsOfSources(t *testing.T) {
	for _, x := range wrongSources {
		at, e1 := reign.Falls(x.l)
		nearest, e2 := reign.Nearest(x.l)
		blocks, e3 := reign.Blocks(x.l)
		least, e4 := reign.Least(x.l)
		rests, e5 := reign.Rests(x.l)
		wrong, e6 := reign.Wrong(x.l)
		errors := []api.Errno{e1, e2, e3, e4, e5, e6}
		if at != 0 || len(nearest) != 0 || len(blocks) != 0 || least != frac(0, 0) || len(rests) != 0 || len(wrong) != 0 {
			t.Errorf("%.9v: %d, %v, %v, %v, %v, %v besides an error", x.l, at, nearest, blocks, least, rests, wrong)
		}
		for _, i := range list(-1, 0, 1, 101, 1<<62) {
			mean, e7 := reign.Mean(x.l, i, 0)
			other, e8 := reign.Mean(x.l, 0, i)
			high, e9 := reign.High(x.l, i)
			low, e10 := reign.Low(x.l, i)
			bounded, e11 := reign.Bounded(x.l, i, 0)
			between, e12 := reign.Bounded(x.l, 0, i)
			errors = append(errors, e7, e8, e9, e10, e11, e12)
			if mean != frac(0, 0) || other != frac(0, 0) || high != frac(0, 0) || low != frac(0, 0) || len(bounded) != 0 || len(between) != 0 {
				t.Errorf("%.9v, %d: %v, %v, %v, %v, %v, %v besides an error", x.l, i, mean, other, high, low, bounded, between)
			}
		}
		for _, values := range [][]reign.Frac{nil, whole(5), fracs(5, 0), whole(3, 2, 1), make([]reign.Frac, len(x.l))} {
			errors = append(errors, reign.Proves(x.l, values))
		}
		if slices.ContainsFunc(errors, func(e api.Errno) bool { return e != x.want }) {
			t.Errorf("%.9v: errors %v, want %d", x.l, errors, x.want)
		}
	}
}

// P8.2
func TestFalls(t *testing.T) {
	for _, x := range []struct {
		l    []reign.Source
		at   int
		want api.Errno
	}{
		{sourcesA(), 0, api.OK},
		{sourcesB(), 0, api.OK},
		{sourcesC(), 0, api.ErrClash},
		{sources(100, 9), 0, api.ErrClash},
		{eight(7, 3), 0, api.ErrClash},
		{sources(0, 9, 1, 1), 0, api.ErrClash}, // trusts do not count
		{sources(1, 1, 0, 9), 0, api.OK},
		{sources(1, 1, 3, 1, 2, 1, 1, 1), 1, api.OK},
		{sources(1, 1, 2, 1, 2, 1, 3, 1, 3, 1, 4, 1, 5, 1, 4, 1), 6, api.OK},
	} {
		if at, e := reign.Falls(x.l); at != x.at || e != x.want {
			t.Errorf("Falls of %v: %d %d, want %d %d", x.l, at, e, x.at, x.want)
		}
	}
	for _, l := range manySources(1) {
		want, wantError := 0, api.ErrClash
		for i := len(l) - 2; i >= 0; i-- {
			if l[i].Year > l[i+1].Year {
				want, wantError = i, api.OK
			}
		}
		if at, e := reign.Falls(l); at != want || e != wantError {
			t.Errorf("Falls of %v: %d %d, want %d %d", l, at, e, want, wantError)
		}
	}
}

// P8.2
func TestMean(t *testing.T) {
	for _, x := range []struct {
		l          []reign.Source
		begin, end int
		want       reign.Frac
	}{
		{sourcesB(), 0, 4, frac(5, 2)},
		{sourcesB(), 0, 1, frac(5, 1)},
		{sourcesB(), 3, 4, frac(2, 1)},
		{sourcesB(), 1, 4, frac(15, 7)},
		{sourcesB(), 1, 3, frac(11, 5)},
		{sourcesA(), 1, 3, frac(3, 2)},
		{sources(0, 7), 0, 1, frac(0, 1)}, // 0 is 0 by 1
		{eight(0, 9), 0, 8, frac(0, 1)},
		{eight(100, 9), 0, 8, frac(100, 1)},
		{append(eight(100, 9)[:7], sources(99, 9)...), 0, 8, frac(799, 8)},
		{append(eight(100, 9)[:7], sources(99, 8)...), 0, 8, frac(7092, 71)},
	} {
		if mean, e := reign.Mean(x.l, x.begin, x.end); mean != x.want || e != api.OK {
			t.Errorf("Mean of %v, %d to %d: %v %d, want %v", x.l, x.begin, x.end, mean, e, x.want)
		}
	}
	for _, l := range manySources(2) {
		for begin := range l {
			for end := begin + 1; end <= len(l); end++ {
				want := fracOf(slowMean(l[begin:end]))
				if mean, e := reign.Mean(l, begin, end); mean != want || e != api.OK {
					t.Errorf("Mean of %v, %d to %d: %v %d, want %v", l, begin, end, mean, e, want)
				}
			}
		}
	}
}

// P8.2, R1, R2
func TestErrorsOfMean(t *testing.T) {
	for _, x := range []struct {
		begin, end int
		want       api.Errno
	}{
		{0, 0, api.ErrOrder},
		{1, 1, api.ErrOrder},
		{4, 4, api.ErrOrder},
		{2, 1, api.ErrOrder},
		{4, 0, api.ErrOrder},
		{0, 5, api.ErrNone},
		{-1, 2, api.ErrNone},
		{-1, -1, api.ErrNone},
		{0, -1, api.ErrNone},  // not in order either
		{5, 1, api.ErrNone},   // so
		{5, 5, api.ErrNone},   // so
		{3, -1, api.ErrNone},  // so
		{-1, -2, api.ErrNone}, // so
		{0, 1<<63 - 1, api.ErrNone},
		{-1 << 63, 4, api.ErrNone},
		{1<<63 - 1, -1 << 63, api.ErrNone},
	} {
		if mean, e := reign.Mean(sourcesB(), x.begin, x.end); mean != frac(0, 0) || e != x.want {
			t.Errorf("Mean of %d to %d: %v %d, want %d", x.begin, x.end, mean, e, x.want)
		}
	}
}

// examineWrong compares Wrong with what it is to return.
func examineWrong(t *testing.T, l []reign.Source, want []int) {
	t.Helper()
	if wrong, e := reign.Wrong(l); !slices.Equal(wrong, want) || e != api.OK {
		t.Errorf("Wrong of %v: %v %d, want %v", l, wrong, e, want)
	}
}

// P8.7
func TestWrong(t *testing.T) {
	for _, x := range []struct {
		l    []reign.Source
		want []int
	}{
		{sourcesA(), list(0)},
		{sourcesB(), list(0, 2)},
		{sourcesC(), nil},
		{sources(0, 1), nil},
		{eight(100, 9), nil},
		{sources(2, 9, 1, 1), list(0)}, // trusts do not count
		{sources(1, 1, 3, 1, 2, 1), list(1)},
		{sources(2, 1, 3, 1, 1, 1), list(2)},
		{sources(1, 1, 9, 1, 2, 1, 3, 1), list(1)},
		{sources(1, 1, 2, 1, 9, 1, 9, 1, 3, 1, 4, 1), list(2, 3)},
		{sources(2, 1, 2, 1, 1, 1, 1, 1), list(0, 1)},
		{sources(5, 1, 1, 1, 6, 1, 2, 1, 7, 1, 3, 1, 8, 1, 4, 1), list(0, 2, 4, 6)},
		{sources(8, 1, 7, 1, 6, 1, 5, 1, 4, 1, 3, 1, 2, 1, 1, 1), list(0, 1, 2, 3, 4, 5, 6)},
		{sources(0, 1, 100, 1, 0, 1), list(1)}, // as many without the last one
		{sources(0, 1, 0, 1, 100, 1, 0, 1, 100, 1), list(2)},
	} {
		examineWrong(t, x.l, x.want)
	}
}

// P8.7, M3
func TestWrongOfManySources(t *testing.T) {
	lengths := [reign.MaxSources]int{}
	for _, l := range slices.Concat(manySources(3), sourcesOf(6, 2, 1), sourcesOf(5, 4, 1)) {
		want := slowWrong(l)
		examineWrong(t, l, want)
		lengths[len(want)]++
	}
	if slices.Min(lengths[:]) == 0 {
		t.Errorf("so many lists of sources have 0, 1 and more wrong ones: %v", lengths)
	}
}
