package line_test

import (
	"math/rand"
	"slices"
	"testing"

	"headword/api"
	"headword/line"
)

// fits reports whether Fits accepts ends.
func fits(t *testing.T, x line.Text, ends []int) bool {
	t.Helper()
	e := line.Fits(x, ends)
	if e != api.OK && e != api.ErrOver {
		t.Fatalf("Fits of %v, %v: %d", x, ends, e)
	}
	return e == api.OK
}

func cost(t *testing.T, x line.Text, ends []int) int {
	t.Helper()
	n, e := line.Cost(x, ends)
	if e != api.OK {
		t.Fatalf("Cost of %v, %v: %d", x, ends, e)
	}
	return n
}

func left(t *testing.T, x line.Text, ends []int) []int {
	t.Helper()
	l, e := line.Left(x, ends)
	if e != api.OK {
		t.Fatalf("Left of %v, %v: %d", x, ends, e)
	}
	return l
}

func full(t *testing.T, x line.Text) []int {
	t.Helper()
	ends, e := line.Full(x)
	if e != api.OK {
		t.Fatalf("Full of %v: %d", x, e)
	}
	return ends
}

func pricesOf(t *testing.T, x line.Text) []int {
	t.Helper()
	l, e := line.Prices(x)
	if e != api.OK {
		t.Fatalf("Prices of %v: %d", x, e)
	}
	return l
}

func leastOf(t *testing.T, x line.Text) int {
	t.Helper()
	n, e := line.Least(x)
	if e != api.OK {
		t.Fatalf("Least of %v: %d", x, e)
	}
	return n
}

// P13.9
func TestPricesProveLeast(t *testing.T) {
	for _, x := range append(manyTexts(15), drawTexts(16, 400)...) {
		prices, least := pricesOf(t, x), leastOf(t, x)
		examineBound(t, x, prices, least, api.OK)
		first, _ := line.First(x)
		examineProves(t, x, first, prices, api.OK)
		for _, ends := range slowFitting(x) {
			if cost(t, x, ends) < least {
				t.Errorf("Least of %v: %d, but %v cost %d", x, least, ends, cost(t, x, ends))
			}
		}
	}
}

// P13.9, M4: no prices prove more than some ends cost, and no ends that are not best are accepted.
func TestProvedEndsAreBest(t *testing.T) {
	r := rand.New(rand.NewSource(17))
	accepted, below := 0, 0
	for _, x := range someTexts(18, 100) {
		fitting := slowFitting(x)
		best, least := slowBest(x)
		for range 6 {
			prices := drawPrices(r, x)
			bound, e := line.Bound(x, prices)
			if e != api.OK || bound > least {
				t.Errorf("Bound of %v, %v: %d %d, but the least is %d", x, prices, bound, e, least)
			}
			if bound < least {
				below++
			}
			for _, ends := range fitting {
				if line.Proves(x, ends, prices) != api.OK {
					continue
				}
				accepted++
				if !slices.ContainsFunc(best, func(other []int) bool { return slices.Equal(other, ends) }) {
					t.Errorf("Proves accepts %v, %v, %v", x, ends, prices)
				}
			}
		}
	}
	if accepted < 1000 || below < 1000 {
		t.Errorf("%d ends were accepted, and %d prices proved less than the least", accepted, below)
	}
}

// P13.10
func TestStartsDoNotFall(t *testing.T) {
	for _, x := range append(manyTexts(19), drawTexts(20, 3000)...) {
		starts, e := line.Starts(x)
		if e != api.OK || !slices.IsSorted(starts) {
			t.Errorf("Starts of %v: %v %d", x, starts, e)
		}
	}
}

// P13.11
func TestFullIsAhead(t *testing.T) {
	for _, x := range manyTexts(21) {
		ends := full(t, x)
		for _, other := range endsOf(x) {
			if !fits(t, x, other) {
				continue
			}
			if len(other) < len(ends) {
				t.Errorf("Full of %v: %v, but %v fit", x, ends, other)
			}
			for i := range min(len(ends), len(other)) {
				if other[i] > ends[i] {
					t.Errorf("Full of %v: %v, but %v are ahead", x, ends, other)
				}
			}
		}
	}
}

// isBehind reports whether one of ends is behind that of others with its number.
func isBehind(ends, others []int) bool {
	for i := range min(len(ends), len(others)) {
		if ends[i] > others[i] {
			return true
		}
	}
	return false
}

// P13.12
func TestGrownEndsAreTheFurthest(t *testing.T) {
	r := rand.New(rand.NewSource(22))
	moved := 0
	for _, x := range someTexts(23, 200) {
		all := append(slowFitting(x), full(t, x), full(t, x))
		for range 4 {
			ends, word := all[r.Intn(len(all))], r.Intn(len(x.Words))
			if x.Words[word] == x.Width {
				continue
			}
			by := 1 + r.Intn(x.Width-x.Words[word])
			grown, at, e := line.Grow(x, ends, word, by)
			more := longer(x, word, by)
			if e != api.OK || !fits(t, more, grown) || isBehind(grown, ends) || at >= len(grown) {
				t.Errorf("Grow of %v, %v, %d, %d: %v %d %d", x, ends, word, by, grown, at, e)
			}
			if !slices.Equal(grown, ends) {
				moved++
			}
			for _, other := range slowFitting(more) {
				if !isBehind(other, ends) && isBehind(other, grown) {
					t.Errorf("Grow of %v, %v, %d, %d: %v, but %v is ahead", x, ends, word, by, grown, other)
				}
			}
		}
	}
	if moved < 500 {
		t.Errorf("only %d ends moved", moved)
	}
}

// P13.13, M2
func TestAllOfIt(t *testing.T) {
	for _, x := range someTexts(24, 300) {
		words := 0
		for _, length := range x.Words {
			words += length
		}
		for _, ends := range endsOf(x) {
			if !fits(t, x, ends) {
				continue
			}
			blanks := len(x.Words) - 1 - (len(ends) - 1) // none where a line ends between two words
			all := words + blanks
			for _, one := range left(t, x, ends) {
				all += one
			}
			if all != x.Width*len(ends) {
				t.Errorf("Left of %v, %v: %v, all of it is %d", x, ends, left(t, x, ends), all)
			}
		}
	}
}

// opposite returns a text whose words come in the opposite order.
func opposite(x line.Text) line.Text {
	x = clone(x)
	slices.Reverse(x.Words)
	return x
}

// oppositeEnds returns the ends of the same lines, from the other end.
func oppositeEnds(ends []int) []int {
	n := ends[len(ends)-1]
	var turned []int
	for _, end := range slices.Backward(ends[:len(ends)-1]) {
		turned = append(turned, n-end)
	}
	return append(turned, n)
}

// P13.14
func TestOppositeWords(t *testing.T) {
	found := map[bool]int{}
	for _, x := range someTexts(25, 300) {
		other := opposite(x)
		if one, turned := full(t, x), full(t, other); len(one) != len(turned) {
			t.Errorf("Full of %v: %v, of the opposite words %v", x, one, turned)
		}
		for _, ends := range endsOf(x) {
			turned := oppositeEnds(ends)
			is := fits(t, x, ends)
			found[is]++
			if fits(t, other, turned) != is {
				t.Errorf("%v: %v fit: %t, but from the other end %v do not", x, ends, is, turned)
			}
			if !is {
				continue
			}
			one, back := left(t, x, ends), left(t, other, turned)
			slices.Reverse(back)
			if !slices.Equal(one, back) {
				t.Errorf("Left of %v, %v: %v, from the other end, turned back, %v", x, ends, one, back)
			}
		}
	}
	if found[false] < 1000 || found[true] < 1000 {
		t.Errorf("so often ends fit: %v", found)
	}
}

// P13.15
func TestGreaterWidth(t *testing.T) {
	r := rand.New(rand.NewSource(26))
	fewer := 0
	for _, x := range someTexts(27, 300) {
		for _, width := range list(x.Width+1, x.Width+1+r.Intn(line.MaxWidth)) {
			if width > line.MaxWidth {
				continue
			}
			wide := text(width, x.Words...)
			if len(full(t, wide)) > len(full(t, x)) {
				t.Errorf("Full of %v: %v, of the width %d %v", x, full(t, x), width, full(t, wide))
			}
			if len(full(t, wide)) < len(full(t, x)) {
				fewer++
			}
			for _, ends := range endsOf(x) {
				if fits(t, x, ends) && !fits(t, wide, ends) {
					t.Errorf("%v: %v fit, but not of the width %d", x, ends, width)
				}
			}
		}
	}
	if fewer < 100 {
		t.Errorf("only %d times there are fewer lines", fewer)
	}
}

// P13.15
func TestOneWordMore(t *testing.T) {
	r := rand.New(rand.NewSource(28))
	found := map[int]int{}
	for _, x := range append(manyTexts(29), drawTexts(30, 500)...) {
		if len(x.Words) == line.MaxWords {
			continue
		}
		for _, length := range list(1, 1+r.Intn(x.Width), x.Width) {
			more := text(x.Width, append(slices.Clone(x.Words), length)...)
			one, other := pricesOf(t, x), pricesOf(t, more)
			if !slices.Equal(one, other[:len(one)]) {
				t.Errorf("Prices of %v: %v, with %d at the end %v", x, one, length, other)
			}
			lines := len(full(t, more)) - len(full(t, x))
			if lines < 0 || lines > 1 {
				t.Errorf("Full of %v: %v, with %d at the end %v", x, full(t, x), length, full(t, more))
			}
			found[lines]++
		}
	}
	if found[0] < 1000 || found[1] < 1000 {
		t.Errorf("so often there is another line: %v", found)
	}
}

// P13.16
func TestThereAreBestEnds(t *testing.T) {
	for _, x := range manyTexts(31) {
		first, e1 := line.First(x)
		count, e2 := line.Count(x)
		least := leastOf(t, x)
		if e1 != api.OK || e2 != api.OK || count < 1 || !fits(t, x, first) || cost(t, x, first) != least {
			t.Errorf("%v: %v %d, %d %d, %d", x, first, e1, count, e2, least)
		}
		lines := len(full(t, x))
		for _, ends := range slowFitting(x) {
			if cost(t, x, ends) != least {
				continue
			}
			count--
			if len(ends) < lines {
				t.Errorf("%v: %v are best, but Full has %d lines", x, ends, lines)
			}
		}
		if count != 0 {
			t.Errorf("Count of %v is wrong by %d", x, count)
		}
	}
}
