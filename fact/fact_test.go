package fact_test

import (
	"slices"
	"testing"

	"headword/api"
	"headword/fact"
)

func TestLimits(t *testing.T) {
	if fact.MaxArticles != 7 || fact.MaxPairs != 10 {
		t.Errorf("limits %d, %d", fact.MaxArticles, fact.MaxPairs)
	}
}

// pairs returns so many pairs, all of them with an error.
func pairs(many int) [][2]int { return make([][2]int, many) }

// wrongBooks are books with an error, and the error that counts.
var wrongBooks = []struct {
	b    fact.Book
	want api.Errno
}{
	{book(0), api.ErrRange},
	{book(8), api.ErrRange},
	{book(-1), api.ErrRange},
	{fact.Book{Articles: 1 << 62}, api.ErrRange},
	{fact.Book{Articles: -1 << 63}, api.ErrRange},
	{fact.Book{Articles: 8, Pairs: pairs(11)}, api.ErrRange}, // the articles come first
	{fact.Book{Articles: 7, Pairs: pairsOf(7)[:11]}, api.ErrMany},
	{fact.Book{Articles: 7, Pairs: pairs(11)}, api.ErrMany}, // too many come before wrong ones
	{fact.Book{Articles: 7, Pairs: pairs(100000)}, api.ErrMany},
	{fact.Book{Articles: 7, Pairs: pairs(10)}, api.ErrOrder},
	{book(2, "02"), api.ErrNone},
	{book(2, "22"), api.ErrNone}, // no article comes before the order
	{book(2, "20"), api.ErrNone},
	{fact.Book{Articles: 2, Pairs: [][2]int{{-1, 1}}}, api.ErrNone},
	{fact.Book{Articles: 2, Pairs: [][2]int{{0, -1}}}, api.ErrNone},
	{fact.Book{Articles: 2, Pairs: [][2]int{{-1 << 63, 0}}}, api.ErrNone},
	{fact.Book{Articles: 2, Pairs: [][2]int{{0, 1 << 62}}}, api.ErrNone},
	{book(1, "01"), api.ErrNone},
	{book(1, "00"), api.ErrOrder},
	{book(2, "10"), api.ErrOrder},
	{book(2, "11"), api.ErrOrder},
	{book(2, "01", "10"), api.ErrOrder},
	{book(2, "01", "01"), api.ErrTwice},
	{book(7, "01", "56", "02", "34", "56"), api.ErrTwice},
	{book(3, "01", "01", "10"), api.ErrTwice}, // the first pair with an error counts
	{book(3, "10", "01", "01"), api.ErrOrder},
	{book(3, "10", "10"), api.ErrOrder},
	{book(3, "01", "03", "01"), api.ErrNone},
	{book(3, "21", "03"), api.ErrOrder},
}

// P4.1
func TestCheck(t *testing.T) {
	for _, b := range []fact.Book{
		book(1), book(7), bookA(), bookB(), bookC(), book(7, "56", "06"), book(3, "12", "01"),
		{Articles: 7, Pairs: pairsOf(7)[:10]}, {Articles: 5, Pairs: pairsOf(5)}, {Articles: 2, Pairs: [][2]int{}},
	} {
		if e := fact.Check(b); e != api.OK {
			t.Errorf("Check of %v: %d", b, e)
		}
	}
	for _, x := range wrongBooks {
		if e := fact.Check(x.b); e != x.want {
			t.Errorf("Check of %v: %d, want %d", x.b, e, x.want)
		}
	}
}

// P4.1, R2: the error of a book comes before all other ones, and there is no result besides it.
func TestErrorsOfBooks(t *testing.T) {
	for _, x := range wrongBooks {
		long := make([]int, 20)
		first, e1 := fact.First(x.b)
		count, e2 := fact.Count(x.b)
		halves, e3 := fact.Halves(x.b)
		shares, e4 := fact.Shares(x.b)
		rings, e5 := fact.Rings(x.b)
		wrong, right, e6 := fact.Sure(x.b)
		rest, left, e7 := fact.Rest(x.b)
		for name, e := range map[string]api.Errno{
			"Valid":  fact.Valid(x.b, list(-1)),
			"First":  e1,
			"Count":  e2,
			"Half":   fact.Half(x.b, long),
			"Halves": e3,
			"Shared": fact.Shared(x.b, long),
			"Shares": e4,
			"Proves": fact.Proves(x.b, long, long),
			"Rings":  e5,
			"Sure":   e6,
			"Rest":   e7,
		} {
			if e != x.want {
				t.Errorf("%s of %v: %d, want %d", name, x.b, e, x.want)
			}
		}
		if len(first)+len(halves)+len(shares)+len(rings)+len(wrong)+len(right)+len(left) != 0 || count != 0 || !equalBooks(rest, fact.Book{}) {
			t.Errorf("%v has results: %v %d %v %v %v %v %v %v %v", x.b, first, count, halves, shares, rings, wrong, right, rest, left)
		}
	}
}

// R4: no argument is changed, and no memory is shared.
func TestOwnMemory(t *testing.T) {
	for _, b := range append(drawBooks(4, 100), bookA(), bookB(), bookC()) {
		before := clone(b)
		for name, result := range map[string]func() []int{
			"First":  func() []int { l, _ := fact.First(b); return l },
			"Halves": func() []int { l, _ := fact.Halves(b); return l },
			"Shares": func() []int { l, _ := fact.Shares(b); return l },
			"wrong":  func() []int { l, _, _ := fact.Sure(b); return l },
			"right":  func() []int { _, l, _ := fact.Sure(b); return l },
			"left":   func() []int { _, l, _ := fact.Rest(b); return l },
		} {
			first := result()
			want := slices.Clone(first)
			clear(first)
			if again := result(); !slices.Equal(again, want) || !equalBooks(b, before) {
				t.Fatalf("%s of %v: %v, then %v", name, before, want, again)
			}
		}
		rest, _, _ := fact.Rest(b)
		_ = append(rest.Pairs, [2]int{9, 9})
		clear(rest.Pairs)
		if !equalBooks(b, before) {
			t.Fatalf("the rest of %v shares memory with it", before)
		}
	}
}

// R4: lists that are checked are not changed.
func TestArgumentsStay(t *testing.T) {
	b := bookC()
	wrong, values, shares := list(0, 3, 4), list(2, 0, 0, 1, 1, 1), list(0, 2, 0, 1, 1, 1)
	if e := fact.Valid(b, wrong); e != api.OK || !slices.Equal(wrong, list(0, 3, 4)) {
		t.Errorf("Valid: %d, %v", e, wrong)
	}
	a, c, d := fact.Half(b, values), fact.Shared(b, shares), fact.Proves(b, values, shares)
	if a != api.OK || c != api.OK || d != api.OK || !slices.Equal(values, list(2, 0, 0, 1, 1, 1)) || !slices.Equal(shares, list(0, 2, 0, 1, 1, 1)) {
		t.Errorf("Half, Shared, Proves: %d %d %d, %v %v", a, c, d, values, shares)
	}
}

// R4: the rings of a book share no memory.
func TestRingsHaveOwnMemory(t *testing.T) {
	b := book(7, "01", "02", "12", "34", "35", "45")
	rings, _ := fact.Rings(b)
	_ = append(rings[0], 9)
	clear(rings[0])
	if !slices.Equal(rings[1], list(3, 4, 5)) {
		t.Errorf("the second ring is now %v", rings[1])
	}
	if again, _ := fact.Rings(b); !equalLists(again, [][]int{{0, 1, 2}, {3, 4, 5}}) {
		t.Errorf("the rings are now %v", again)
	}
}
