package see_test

import (
	"slices"
	"testing"

	"headword/api"
	"headword/see"
)

func TestLimits(t *testing.T) {
	if see.MaxWords != 7 || see.MaxRefs != 16 {
		t.Errorf("limits %d, %d", see.MaxWords, see.MaxRefs)
	}
}

// refs returns so many references, all of them with an error.
func refs(many int) [][2]int { return make([][2]int, many) }

// wrongBooks are books with an error, and the error that counts.
var wrongBooks = []struct {
	b    see.Book
	want api.Errno
}{
	{book(0), api.ErrRange},
	{book(8), api.ErrRange},
	{book(-1), api.ErrRange},
	{see.Book{Words: 1 << 62}, api.ErrRange},
	{see.Book{Words: -1 << 63}, api.ErrRange},
	{see.Book{Words: 8, Refs: refs(17)}, api.ErrRange}, // the words come first
	{see.Book{Words: 7, Refs: pairs(7)[:17]}, api.ErrMany},
	{see.Book{Words: 7, Refs: refs(17)}, api.ErrMany}, // too many come before wrong ones
	{see.Book{Words: 7, Refs: refs(100000)}, api.ErrMany},
	{book(2, "02"), api.ErrNone},
	{book(2, "20"), api.ErrNone},
	{book(2, "22"), api.ErrNone}, // no word comes before the same word
	{see.Book{Words: 2, Refs: [][2]int{{0, -1}}}, api.ErrNone},
	{see.Book{Words: 2, Refs: [][2]int{{-1 << 63, 0}}}, api.ErrNone},
	{see.Book{Words: 2, Refs: [][2]int{{0, 1 << 62}}}, api.ErrNone},
	{book(1, "01"), api.ErrNone},
	{book(1, "00"), api.ErrShape},
	{book(2, "00"), api.ErrShape},
	{book(3, "01", "22"), api.ErrShape},
	{book(2, "01", "01"), api.ErrTwice},
	{book(3, "01", "12", "20", "10", "12"), api.ErrTwice},
	{book(3, "01", "01", "11"), api.ErrTwice}, // the first reference with an error counts
	{book(3, "11", "01", "01"), api.ErrShape},
	{book(3, "01", "03", "01"), api.ErrNone},
	{book(3, "00", "00"), api.ErrShape},
}

// P2.1
func TestCheck(t *testing.T) {
	for _, b := range []see.Book{
		book(1), book(7), bookA(), bookB(), bookC(), book(2, "01", "10"), book(7, "60", "06"),
		{Words: 7, Refs: pairs(7)[:16]}, {Words: 2, Refs: [][2]int{}},
	} {
		if e := see.Check(b); e != api.OK {
			t.Errorf("Check of %v: %d", b, e)
		}
	}
	for _, x := range wrongBooks {
		if e := see.Check(x.b); e != x.want {
			t.Errorf("Check of %v: %d, want %d", x.b, e, x.want)
		}
	}
}

// P2.1, R2: the error of a book comes before all other ones, and there is no result besides it.
func TestErrorsOfBooks(t *testing.T) {
	for _, x := range wrongBooks {
		for name, e := range map[string]api.Errno{
			"Valid":   see.Valid(x.b, list(-1)),
			"First":   errorOf(see.First(x.b)),
			"All":     errorOf(see.All(x.b)),
			"Ring":    errorOf(see.Ring(x.b)),
			"Proves":  see.Proves(x.b, nil),
			"Way":     errorOf(see.Way(x.b, nil, -1)),
			"Numbers": errorOf(see.Numbers(x.b)),
			"Circles": errorOf(see.Circles(x.b)),
			"Through": errorOf(see.Through(x.b, -1)),
			"Worst":   errorOf(see.Worst(x.b)),
			"Without": errorOf(see.Without(x.b, -1)),
		} {
			if e != x.want {
				t.Errorf("%s of %v: %d, want %d", name, x.b, e, x.want)
			}
		}
		first, _ := see.First(x.b)
		all, _ := see.All(x.b)
		ring, _ := see.Ring(x.b)
		way, _ := see.Way(x.b, list(0), 0)
		numbers, _ := see.Numbers(x.b)
		circles, _ := see.Circles(x.b)
		through, _ := see.Through(x.b, 0)
		worst, _ := see.Worst(x.b)
		without, _ := see.Without(x.b, 0)
		if len(first)+len(all)+len(ring)+len(way)+len(numbers) != 0 || circles != 0 || through != 0 || worst != 0 || !equalBooks(without, see.Book{}) {
			t.Errorf("%v has results: %v %v %v %v %v %d %d %d %v", x.b, first, all, ring, way, numbers, circles, through, worst, without)
		}
	}
}

// P2.7
func TestWithout(t *testing.T) {
	for _, x := range []struct {
		b    see.Book
		ref  int
		want see.Book
		e    api.Errno
	}{
		{bookA(), 0, book(3, "12"), api.OK},
		{bookA(), 1, book(3, "01"), api.OK},
		{bookA(), 2, see.Book{}, api.ErrNone},
		{bookA(), -1, see.Book{}, api.ErrNone},
		{bookA(), 1 << 62, see.Book{}, api.ErrNone},
		{bookA(), -1 << 63, see.Book{}, api.ErrNone},
		{bookC(), 2, book(4, "01", "10", "23", "32"), api.OK},
		{book(5, "34", "01", "43"), 1, book(5, "34", "43"), api.OK}, // the others stay in their order
		{book(2, "10"), 0, book(2), api.OK},
		{book(2), 0, see.Book{}, api.ErrNone},
	} {
		if b, e := see.Without(x.b, x.ref); !equalBooks(b, x.want) || e != x.e {
			t.Errorf("%v without %d: %v %d, want %v %d", x.b, x.ref, b, e, x.want, x.e)
		}
	}
}

// R4: no argument is changed, and no memory is shared.
func TestOwnMemory(t *testing.T) {
	for _, b := range drawBooks(4, 100) {
		before := clone(b)
		articles := []int{0, 1, 2}[:min(3, b.Words)]
		choices := func() [][]int { all, _ := see.All(b); return all }
		for name, result := range map[string]func() []int{
			"First":   func() []int { l, _ := see.First(b); return l },
			"All":     func() []int { return slices.Concat(choices()...) },
			"Ring":    func() []int { l, _ := see.Ring(b); return l },
			"Way":     func() []int { l, _ := see.Way(b, articles, b.Words-1); return l },
			"Numbers": func() []int { l, _ := see.Numbers(b); return l },
		} {
			first := result()
			want := slices.Clone(first)
			clear(first)
			if again := result(); !slices.Equal(again, want) || !equalBooks(b, before) {
				t.Fatalf("%s of %v: %v, then %v", name, before, want, again)
			}
		}
		if all := choices(); len(all) > 1 {
			want := slices.Clone(all[1])
			_ = append(all[0], 99)
			clear(all[0])
			if !slices.Equal(all[1], want) {
				t.Fatalf("choices of %v share memory", before)
			}
		}
		for ref := range b.Refs {
			less, _ := see.Without(b, ref)
			_ = append(less.Refs, [2]int{9, 9})
			clear(less.Refs)
			if !equalBooks(b, before) {
				t.Fatalf("%v without %d shares memory with it", before, ref)
			}
		}
		if !slices.Equal(articles, []int{0, 1, 2}[:len(articles)]) {
			t.Fatalf("Way changed the articles to %v", articles)
		}
	}
}
