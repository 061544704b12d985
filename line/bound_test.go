package line_test

import (
	"math/rand"
	"testing"

	"headword/api"
	"headword/line"
)

func examineBound(t *testing.T, x line.Text, prices []int, want int, e api.Errno) {
	t.Helper()
	if n, f := line.Bound(x, prices); n != want || f != e {
		t.Errorf("Bound of %v, %v: %d %d, want %d %d", x, short(prices), n, f, want, e)
	}
}

func examineProves(t *testing.T, x line.Text, ends, prices []int, want api.Errno) {
	t.Helper()
	if e := line.Proves(x, ends, prices); e != want {
		t.Errorf("Proves of %v, %v, %v: %d, want %d", x, ends, short(prices), e, want)
	}
}

// P13.6, R1, R2. The ends are those of First, and the bound 10 is their cost.
func TestBound(t *testing.T) {
	for _, x := range []struct {
		prices []int
		want   int
		e      api.Errno
	}{
		{list(0, 9, 0, 10), 10, api.OK},
		{list(0, 0, 0, 0), 0, api.OK},
		{list(0, 9, 0, 9), 9, api.OK},
		{list(0, 9, 0, 0), 0, api.OK},
		{list(0, 8, 0, 9), 9, api.OK},
		{list(0, 8, 0, 10), 0, api.ErrProof}, // 8 and 1 are 9
		{list(0, 9, 0, 11), 0, api.ErrProof},
		{list(0, 10, 0, 10), 0, api.ErrProof},
		{list(0, 9, 1, 10), 0, api.ErrProof},
		{list(1, 9, 0, 10), 0, api.ErrProof},
		{list(1, 0, 0, 0), 0, api.ErrProof},
		{list(20000, 0, 0, 0), 0, api.ErrProof},
		{list(0, 0, 0, 20000), 0, api.ErrProof},
		{list(0, 20000, 0, 0), 0, api.ErrProof},
		{list(0, 0, 0, 20001), 0, api.ErrRange},
		{list(0, 20001, 0, 10), 0, api.ErrRange},
		{list(20001, 0, 0, 0), 0, api.ErrRange},
		{list(1, 9, 0, 20001), 0, api.ErrRange}, // the numbers come before what can be proved
		{list(1, 99, -1, 10), 0, api.ErrRange},
		{list(0, 9, -1, 10), 0, api.ErrRange},
		{list(-1, 9, 0, 10), 0, api.ErrRange},
		{list(0, 9, 0, -1), 0, api.ErrRange},
		{list(0, 1<<63-1, 0, 0), 0, api.ErrRange},
		{list(0, 0, 0, -1<<63), 0, api.ErrRange},
		{nil, 0, api.ErrShape},
		{list(), 0, api.ErrShape},
		{list(0, 9, 0), 0, api.ErrShape},
		{list(0, 9, 0, 10, 0), 0, api.ErrShape},
		{list(0, 9, 0, 10, 26), 0, api.ErrShape},
		{list(-1), 0, api.ErrShape}, // the shape comes before the numbers
		{list(1, 20001, 0), 0, api.ErrShape},
		{make([]int, 100000), 0, api.ErrShape},
	} {
		examineBound(t, textB(), x.prices, x.want, x.e)
		want := x.e
		if x.e == api.OK && x.want != 10 {
			want = api.ErrProof
		}
		examineProves(t, textB(), list(1, 3, 4), x.prices, want)
	}
}

// P13.6
func TestBoundAtTheLimits(t *testing.T) {
	for _, x := range []struct {
		line.Text
		prices []int
		want   int
		e      api.Errno
	}{
		{text(1, 1), list(0), 0, api.OK},
		{text(1, 1), list(1), 0, api.ErrProof},
		{text(1, 1), list(20000), 0, api.ErrProof},
		{text(1, 1), list(20001), 0, api.ErrRange},
		{text(40, 1, 40), list(0, 1521), 1521, api.OK},
		{text(40, 1, 40), list(0, 1522), 0, api.ErrProof},
		{text(40, 1, 1), list(0, 1521), 0, api.OK}, // one line is enough
		{flat(40, 10, 21), list(0, 361, 722, 1083, 1444, 1805, 2166, 2527, 2888, 3249), 3249, api.OK},
		{flat(40, 10, 21), list(0, 361, 722, 1083, 1444, 1805, 2166, 2527, 2888, 3250), 0, api.ErrProof},
		{flat(40, 10, 21), list(0, 361, 722, 1083, 1444, 1805, 2166, 2527, 2889, 3249), 0, api.ErrProof},
		{flat(40, 10, 21), list(0, 361, 722, 1083, 1444, 1805, 2166, 2527, 2000, 2361), 2361, api.OK},
		{flat(40, 10, 40), make([]int, 10), 0, api.OK},
		{flat(40, 10, 1), list(0, 39*39, 37*37, 35*35, 33*33, 31*31, 29*29, 27*27, 25*25, 23*23), 0, api.OK},
		{flat(40, 10, 1), list(0, 39*39, 37*37, 35*35, 33*33, 31*31, 29*29, 27*27, 25*25, 23*23+1), 0, api.ErrProof},
		{text(7, 2, 2, 2, 2, 2), list(0, 25, 4, 29, 8), 8, api.OK},
		{text(7, 2, 2, 2, 2, 2), list(0, 25, 4, 7, 8), 7, api.OK}, // the smallest number, not the last one
	} {
		examineBound(t, x.Text, x.prices, x.want, x.e)
	}
}

// P13.6, R1
func TestProves(t *testing.T) {
	for _, x := range []struct {
		line.Text
		ends, prices []int
		want         api.Errno
	}{
		{textB(), list(1, 3, 4), list(0, 9, 0, 10), api.OK},
		{textB(), list(2, 3, 4), list(0, 9, 0, 10), api.ErrProof},
		{textB(), list(1, 2, 3, 4), list(0, 9, 0, 10), api.ErrProof},
		{textB(), list(1, 3, 4), list(0, 0, 0, 0), api.ErrProof},
		{textB(), list(2, 3, 4), list(0, 9, 0, 16), api.ErrProof},
		{textA(), list(2, 4, 5), list(0, 49, 9, 45, 18), api.OK},
		{textA(), list(2, 4, 5), list(0, 14, 9, 18, 18), api.OK}, // lower than they could be, and enough
		{textA(), list(2, 4, 5), list(0, 13, 9, 17, 18), api.ErrProof},
		{textA(), list(2, 4, 5), list(0, 0, 0, 0, 0), api.ErrProof},
		{text(4, 1, 2, 1, 3), list(1, 3, 4), list(0, 9, 0, 9), api.OK},
		{text(4, 1, 2, 1, 3), list(2, 3, 4), list(0, 9, 0, 9), api.OK}, // best, too
		{text(4, 1, 2, 1, 3), list(1, 2, 3, 4), list(0, 9, 0, 9), api.ErrProof},
		{text(1, 1), list(1), list(0), api.OK},
		{text(1, 1), list(1), list(1), api.ErrProof},
		{textB(), list(4), nil, api.ErrOver}, // the ends come before the prices
		{textB(), list(4), list(0, 9, 0, -1), api.ErrOver},
		{textB(), list(4), list(1, 9, 0, 10), api.ErrOver},
		{textB(), nil, list(0, 9, 0, 10), api.ErrShape},
		{textB(), nil, list(-1, 9, 0, 10), api.ErrShape},
		{textB(), list(5), list(0, 9), api.ErrNone},
		{textB(), list(2, 2), list(20001), api.ErrOrder},
		{textB(), list(2, 3, 4), list(0, 9, 0), api.ErrShape}, // the prices come before the cost
		{textB(), list(2, 3, 4), list(0, 9, 0, -1), api.ErrRange},
	} {
		examineProves(t, x.Text, x.ends, x.prices, x.want)
	}
}

// P13.6: all lists of small numbers, right or wrong, and all ends.
func TestProvesOfAllSmallPrices(t *testing.T) {
	found := map[api.Errno]int{}
	for _, x := range []line.Text{text(2, 1), text(3, 2, 1), text(3, 1, 1), text(3, 2, 2), text(3, 1, 3, 1), text(3, 1, 1, 1), text(4, 1, 2, 1), text(3, 2, 2, 2)} {
		for many := range 4 {
			for _, prices := range numbersOf(many, -1, 9) {
				want, e := slowBound(x, prices)
				examineBound(t, x, prices, want, e)
				for _, ends := range endsOf(x) {
					e := slowProves(x, ends, prices)
					examineProves(t, x, ends, prices, e)
					found[e]++
				}
			}
		}
	}
	examineFound(t, found, 20, api.OK, api.ErrShape, api.ErrRange, api.ErrOver, api.ErrProof)
}

// P13.6: all prices of four places that could be proved.
func TestProvesOfFourPlaces(t *testing.T) {
	found := map[api.Errno]int{}
	for _, x := range []line.Text{text(3, 2, 1, 1, 3), text(4, 1, 2, 1, 3), text(3, 1, 1, 1, 1), text(4, 2, 3, 2, 3)} {
		for _, rest := range numbersOf(3, 0, 10) {
			prices := append(list(0), rest...)
			want, e := slowBound(x, prices)
			examineBound(t, x, prices, want, e)
			for _, ends := range slowFitting(x) {
				e := slowProves(x, ends, prices)
				examineProves(t, x, ends, prices, e)
				found[e]++
			}
		}
	}
	examineFound(t, found, 20, api.OK, api.ErrProof)
}

// drawPrices draws prices that can be proved, some of them lower than they could be.
func drawPrices(r *rand.Rand, x line.Text) []int {
	prices := list(0)
	lower := r.Intn(4)
	for j := 1; j < len(x.Words); j++ {
		price := 1 << 62
		for i := range j {
			if left := x.Width - slowLength(x.Words[i:j]); left >= 0 {
				price = min(price, prices[i]+left*left)
			}
		}
		if r.Intn(4) < lower {
			price = r.Intn(price + 1)
		}
		prices = append(prices, price)
	}
	return prices
}

// P13.6, M4: prices that can be proved, and these with a number changed a little.
func TestDrawnPrices(t *testing.T) {
	r := rand.New(rand.NewSource(8))
	found := map[api.Errno]int{}
	for _, x := range append(someTexts(9, 300), drawTexts(10, 300)...) {
		best, _ := slowBest(x)
		fitting := slowFitting(x)
		for i := range 8 {
			prices := drawPrices(r, x)
			if i > 2 {
				prices[r.Intn(len(prices))] += 1 - 2*r.Intn(2)
			}
			want, e := slowBound(x, prices)
			examineBound(t, x, prices, want, e)
			found[e]++
			for _, ends := range lists(best[0], best[len(best)-1], fitting[r.Intn(len(fitting))]) {
				examineProves(t, x, ends, prices, slowProves(x, ends, prices))
			}
		}
	}
	examineFound(t, found, 500, api.OK, api.ErrProof, api.ErrRange)
}
