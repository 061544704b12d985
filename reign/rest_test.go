package reign_test

import (
	"math/rand"
	"slices"
	"testing"

	"headword/api"
	"headword/reign"
)

// P8.6, M4
func TestProves(t *testing.T) {
	for _, x := range []struct {
		l      []reign.Source
		values []reign.Frac
		want   api.Errno
	}{
		{sourcesA(), whole(2, 2, 2), api.OK},
		{sourcesA(), fracs(4, 2, 2, 1, 144, 72), api.OK}, // not in lowest terms
		{sourcesA(), whole(1, 1, 2), api.ErrProof},
		{sourcesA(), whole(1, 1, 1), api.ErrProof}, // too much is left at the end
		{sourcesA(), whole(3, 3, 3), api.ErrProof}, // too little is left at the end
		{sourcesA(), whole(1, 2, 3), api.ErrProof}, // nothing is left at the end, but too much before
		{sourcesA(), fracs(71, 36, 2, 1, 73, 36), api.ErrProof},
		{sourcesA(), fracs(143, 72, 143, 72, 146, 72), api.ErrProof},
		{sourcesB(), whole(2, 2, 3, 3), api.OK},
		{sourcesB(), fracs(2, 1, 4, 2, 6, 2, 3, 1), api.OK},
		{sourcesB(), fracs(5, 2, 5, 2, 5, 2, 5, 2), api.ErrProof}, // too little is left before the end, but nothing at the end
		{sourcesB(), fracs(2, 1, 2, 1, 5, 2, 7, 2), api.ErrProof},
		{sourcesC(), whole(1, 2, 2), api.OK},
		{sourcesC(), whole(0, 2, 2), api.ErrProof},
		{sourcesC(), whole(1, 2, 3), api.ErrProof},
		{sourcesC(), whole(1, 1, 2), api.ErrProof},
		{sources(0, 1), whole(0), api.OK},
		{sources(0, 1), fracs(0, 72), api.OK},
		{sources(0, 1), fracs(1, 72), api.ErrProof},
		{sources(100, 9), fracs(7200, 72), api.OK},
		{sources(100, 9), fracs(7199, 72), api.ErrProof},
		{sources(0, 9, 100, 9), whole(0, 100), api.OK},
		{sources(100, 9, 0, 8), fracs(900, 17, 900, 17), api.OK},
		{sources(100, 9, 0, 8), fracs(3600, 68, 900, 17), api.OK},
		{sources(100, 9, 0, 8), fracs(900, 17, 901, 17), api.ErrProof},
		{eight(100, 9), whole(100, 100, 100, 100, 100, 100, 100, 100), api.OK},
		{eight(100, 9), whole(0, 0, 0, 0, 0, 0, 0, 0), api.ErrProof},
		{eight(0, 9), whole(100, 100, 100, 100, 100, 100, 100, 100), api.ErrProof},
		{eight(100, 9), fracs(1, 72, 1, 71, 1, 67, 1, 65, 1, 61, 1, 59, 1, 53, 1, 49), api.ErrProof}, // Dens that have nothing in common
		{eight(0, 9), fracs(4899, 49, 5299, 53, 5899, 59, 6099, 61, 6499, 65, 6699, 67, 7099, 71, 7199, 72), api.ErrProof},
	} {
		if e := reign.Proves(x.l, x.values); e != x.want {
			t.Errorf("Proves of %v, %v: %d, want %d", x.l, x.values, e, x.want)
		}
	}
}

// P8.6, R1
func TestErrorsOfProves(t *testing.T) {
	for _, x := range []struct {
		values []reign.Frac
		want   api.Errno
	}{
		{nil, api.ErrShape},
		{fracs(), api.ErrShape},
		{whole(2), api.ErrShape},
		{whole(2, 2), api.ErrShape},
		{whole(2, 2, 2, 2), api.ErrShape},
		{whole(101, 1), api.ErrShape}, // how many they are comes first
		{fracs(2, 0, 2, 1, 1, 1, 1, 1), api.ErrShape},
		{slices.Repeat(whole(2), 100000), api.ErrShape},
		{fracs(2, 1, 2, 1, 2, 0), api.ErrRange},
		{fracs(0, 0, 2, 1, 2, 1), api.ErrRange},
		{fracs(2, 1, -2, -1, 2, 1), api.ErrRange},
		{fracs(2, 1, 2, 1, 146, 73), api.ErrRange},
		{fracs(2, -1<<63, 2, 1, 2, 1), api.ErrRange},
		{fracs(2, 1, 2, 1<<63-1, 2, 1), api.ErrRange},
		{fracs(-1, 1, 2, 1, 2, 1), api.ErrRange},
		{fracs(-1, 72, 2, 1, 2, 1), api.ErrRange},
		{fracs(2, 1, 2, 1, 101, 1), api.ErrRange},
		{fracs(2, 1, 2, 1, 7201, 72), api.ErrRange},
		{fracs(2, 1, 2, 1, 101, 1), api.ErrRange},
		{fracs(2, 1, 2, 1, 1<<63-1, 72), api.ErrRange},
		{fracs(-1<<63, 72, 2, 1, 2, 1), api.ErrRange},
		{fracs(2, 1, 1, 1, 101, 1), api.ErrRange}, // what falls comes later, and is found later
		{fracs(2, 1, 1, 1, 2, 0), api.ErrRange},   // so
		{whole(2, 1, 3), api.ErrOrder},
		{whole(2, 2, 1), api.ErrOrder},
		{whole(100, 0, 0), api.ErrOrder},
		{fracs(2, 1, 143, 72, 2, 1), api.ErrOrder},
		{fracs(2, 1, 72, 35, 71, 35), api.ErrOrder},
		{fracs(2, 1, 71, 35, 69, 35), api.ErrOrder}, // nor is it a proof
	} {
		if e := reign.Proves(sourcesA(), x.values); e != x.want {
			t.Errorf("Proves of %.9v: %d, want %d", x.values, e, x.want)
		}
	}
}

// allValues returns all lists of so many values with a Num from low to high and a Den up to one (and 0).
func allValues(many, low, high, den int) [][]reign.Frac {
	lists := [][]reign.Frac{nil}
	for range many {
		var longer [][]reign.Frac
		for _, values := range lists {
			for num := low; num <= high; num++ {
				for d := range den + 1 {
					longer = append(longer, append(slices.Clone(values), frac(num, d)))
				}
			}
		}
		lists = longer
	}
	return lists
}

// proofs counts how often Proves returns what.
type proofs map[api.Errno]int

// examine compares Proves with what it is to return.
func (p proofs) examine(t *testing.T, l []reign.Source, values []reign.Frac) {
	t.Helper()
	want := slowProves(l, values)
	p[want]++
	if e := reign.Proves(l, values); e != want {
		t.Fatalf("Proves of %v, %v: %d, want %d", l, values, e, want)
	}
}

// examineAll examines that all four answers were there.
func (p proofs) examineAll(t *testing.T) {
	t.Helper()
	if p[api.OK] == 0 || p[api.ErrRange] == 0 || p[api.ErrOrder] == 0 || p[api.ErrProof] == 0 {
		t.Errorf("so often Proves returns each error: %v", p)
	}
}

// P8.6, M4
func TestProvesOfAllValues(t *testing.T) {
	found := proofs{}
	for _, x := range []struct{ many, year, trust, low, high, den int }{{1, 5, 3, -1, 7, 3}, {2, 3, 2, -1, 9, 3}, {3, 2, 2, 0, 4, 2}} {
		values := allValues(x.many, x.low, x.high, x.den)
		for _, l := range sourcesOf(x.many, x.year, x.trust) {
			for _, v := range values {
				found.examine(t, l, v)
			}
		}
	}
	found.examineAll(t)
}

// P8.6, M4: of many sources the nearest values, told in other Dens, and values that differ a little.
func TestProvesOfManySources(t *testing.T) {
	r := rand.New(rand.NewSource(8))
	found := proofs{}
	for _, l := range manySources(9) {
		nearest := fracsOf(slowNearest(l))
		for i, value := range nearest {
			times := 1 + r.Intn(reign.MaxDen/value.Den)
			nearest[i] = frac(value.Num*times, value.Den*times)
		}
		found.examine(t, l, nearest)
		for i := range nearest {
			for _, change := range list(-1, 1) {
				values := slices.Clone(nearest)
				values[i].Num += change
				found.examine(t, l, values)
				// What is equal to it remains so.
				for k := range values {
					if bigOf(nearest[k]).Cmp(bigOf(nearest[i])) == 0 {
						values[k] = values[i]
					}
				}
				found.examine(t, l, values)
				values = slices.Clone(nearest)
				values[i].Den += change
				found.examine(t, l, values)
			}
			other := slices.Clone(nearest)
			other[i] = nearest[r.Intn(len(l))]
			found.examine(t, l, other)
		}
	}
	found.examineAll(t)
}

// P8.6: of drawn values that do not fall, most of them with Dens that have little in common.
func TestProvesOfDrawnValues(t *testing.T) {
	r := rand.New(rand.NewSource(10))
	found := proofs{}
	for _, l := range drawSources(11, 500) {
		var values []reign.Frac
		for range l {
			den := 1 + r.Intn(reign.MaxDen)
			values = append(values, frac(r.Intn(reign.MaxYear*den+1), den))
		}
		slices.SortFunc(values, func(one, other reign.Frac) int { return bigOf(one).Cmp(bigOf(other)) })
		found.examine(t, l, values)
	}
	if found[api.ErrProof] < 400 {
		t.Errorf("so often Proves returns each error: %v", found)
	}
}
