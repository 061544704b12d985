package class_test

import (
	"math/rand"
	"slices"
	"testing"

	"headword/api"
	"headword/class"
)

// P5.4
func TestGrow(t *testing.T) {
	for _, x := range []struct {
		b    book
		want class.Tree
		e    api.Errno
	}{
		{bookA(), treeT(), api.OK},
		{bookB(), class.Tree{}, api.ErrLost},
		{bookC(), tree("012", "01233"), api.OK},
		{say(2), tree("", "00"), api.OK},
		{say(2, "0"), tree("0", "01"), api.OK},
		{say(2, "1"), tree("0", "01"), api.OK},
		{say(3), tree("", "000"), api.OK},
		{say(3, "0", "1", "2"), tree("202", "013"), api.OK},
		{say(4, "3", "1", "2"), tree("000", "0123"), api.OK},       // corner 0 has three lanes and article 0
		{say(4, "0", "1", "2", "3"), tree("2022", "0134"), api.OK}, // corner 2 has four lanes and no article
		{say(5, "34", "12", "23"), class.Tree{}, api.ErrLost},
		{say(6, "123", "45"), tree("00", "011122"), api.OK},
		{say(5, "12", "1", "34", "1234"), tree("2303", "01244"), api.OK},
		{say(8, "0123", "5", "45", "456"), tree("2301", "00001423"), api.OK},
	} {
		if g, e := class.Grow(x.b.articles, x.b.sides); !equalTrees(g, x.want) || e != x.e {
			t.Errorf("Grow of %v: %v %d, want %v %d", x.b, g, e, x.want, x.e)
		}
	}
}

// P5.4: the lanes have just the divisions.
func TestGrowOfManyBooks(t *testing.T) {
	lost := 0
	for _, b := range manyBooks(4) {
		g, e := class.Grow(b.articles, b.sides)
		if len(slowClashes(b)) > 0 {
			lost++
			if e != api.ErrLost || len(g.Up)+len(g.At) > 0 {
				t.Errorf("Grow of %v: %v %d", b, g, e)
			}
			continue
		}
		if e != api.OK || slowValid(b.articles, g) != api.OK || !equal(slowLanes(g), slowTidy(b)) {
			t.Errorf("Grow of %v: %v %d", b, g, e)
		}
	}
	if lost == 0 {
		t.Error("all divisions agree")
	}
}

// wrongTrees are trees with an error, and the error that counts.
var wrongTrees = []struct {
	articles int
	t        class.Tree
	want     api.Errno
}{
	{1, tree("", "0"), api.ErrRange},
	{9, tree("", "000000000"), api.ErrRange},
	{0, class.Tree{}, api.ErrRange},
	{-1, class.Tree{}, api.ErrRange},
	{1 << 62, class.Tree{}, api.ErrRange},
	{-1 << 63, class.Tree{}, api.ErrRange},
	{9, class.Tree{Up: make([]int, 14)}, api.ErrRange}, // the articles come first
	{2, class.Tree{Up: make([]int, 14)}, api.ErrMany},  // too many lanes come before the shape
	{2, class.Tree{Up: long(0), At: list(0, 0)}, api.ErrMany},
	{8, class.Tree{Up: slices.Repeat([]int{99}, 14), At: list(0, 1, 2, 3, 4, 5, 6, 7)}, api.ErrMany},
	{2, tree("", "0"), api.ErrShape},
	{2, tree("", "000"), api.ErrShape},
	{2, class.Tree{}, api.ErrShape},
	{2, tree("", ""), api.ErrShape},
	{2, tree("9", "999"), api.ErrShape}, // the shape comes before the numbers
	{2, class.Tree{At: long(0)}, api.ErrShape},
	{2, tree("2", "01"), api.ErrNone},
	{2, tree("0", "02"), api.ErrNone},
	{2, tree("0", "20"), api.ErrNone},
	{2, tree("", "01"), api.ErrNone},
	{2, class.Tree{Up: list(-1), At: list(0, 1)}, api.ErrNone},
	{2, class.Tree{Up: list(0), At: list(0, -1)}, api.ErrNone},
	{2, class.Tree{Up: list(1 << 62), At: list(0, 1)}, api.ErrNone},
	{2, class.Tree{Up: list(0), At: list(0, -1<<63)}, api.ErrNone},
	{3, tree("13", "012"), api.ErrNone}, // numbers come before ways
	{3, tree("11", "013"), api.ErrNone},
	{2, tree("1", "01"), api.ErrLost},
	{2, tree("1", "00"), api.ErrLost},
	{2, tree("1", "10"), api.ErrLost}, // ways come before article 0
	{3, tree("21", "012"), api.ErrLost},
	{3, tree("02", "012"), api.ErrLost}, // from corner 2 alone
	{4, tree("0342", "0123"), api.ErrLost},
	{4, tree("2340", "1000"), api.ErrShape},
	{2, tree("0", "10"), api.ErrShape},
	{2, tree("0", "11"), api.ErrShape}, // article 0 comes before corners without articles
	{3, tree("00", "112"), api.ErrShape},
	{2, tree("0", "00"), api.ErrEmpty},     // an end
	{3, tree("01", "002"), api.ErrEmpty},   // a corner with two lanes
	{3, tree("01", "001"), api.ErrEmpty},   // an end below a corner with an article
	{3, tree("20", "001"), api.ErrEmpty},   // a corner above a smaller number
	{4, tree("000", "0112"), api.ErrEmpty}, // corner 0 has three lanes, corner 3 has one
	{4, tree("200", "0333"), api.ErrEmpty}, // corners without articles come before their numbers
	{2, tree("0000000000000", "00"), api.ErrEmpty},
	{3, tree("00", "021"), api.ErrOrder},
	{3, tree("01", "021"), api.ErrOrder}, // 1 2 and 1 are corners 1 and 2
	{3, tree("20", "021"), api.ErrOrder}, // 2 and 1 2 are
	{4, tree("011", "0231"), api.ErrOrder},
	{4, tree("020", "0123"), api.ErrLost},
	{4, tree("000", "0132"), api.ErrOrder},
	{4, tree("000", "0312"), api.ErrOrder}, // the ends are in order, but not with the first one
	{5, tree("0111", "00234"), api.ErrOrder},
}

// rightTrees are trees without an error.
var rightTrees = []struct {
	articles int
	t        class.Tree
}{
	{4, treeT()},
	{2, tree("", "00")},
	{2, tree("0", "01")},
	{3, tree("01", "012")},
	{3, tree("20", "012")},
	{3, tree("00", "012")},
	{3, tree("202", "013")},
	{4, tree("000", "0123")},
	{4, tree("2022", "0134")},    // corner 2 has four lanes and no article
	{5, tree("2022", "00134")},   // corner 0 has two articles
	{6, tree("20200", "001345")}, // corner 2 has three lanes and no article
	{8, tree("", "00000000")},
	{8, class.Tree{Up: list(2, 3, 4, 5, 6, 7, 0, 2, 3, 4, 5, 6, 7), At: list(0, 1, 8, 9, 10, 11, 12, 13)}},
}

// P5.5
func TestValid(t *testing.T) {
	for _, x := range rightTrees {
		if e := class.Valid(x.articles, x.t); e != api.OK {
			t.Errorf("Valid of %d, %v: %d", x.articles, x.t, e)
		}
	}
	for _, x := range wrongTrees {
		if e := class.Valid(x.articles, x.t); e != x.want {
			t.Errorf("Valid of %d, %.14v: %d, want %d", x.articles, x.t, e, x.want)
		}
	}
}

// P5.5, R2: the error of a tree comes before all other ones, and there is no result besides it.
func TestErrorsOfTrees(t *testing.T) {
	for _, x := range wrongTrees {
		l, e := class.Sides(x.articles, x.t)
		far, f := class.Far(x.articles, x.t, -1, 99)
		near, g := class.Far(x.articles, x.t, 0, 1)
		if len(l) > 0 || far != 0 || near != 0 || e != x.want || f != x.want || g != x.want {
			t.Errorf("%d, %.14v: Sides %v %d, Far %d %d, %d %d, want %d", x.articles, x.t, l, e, far, f, near, g, x.want)
		}
	}
}

// numberLists calls a function with all lists of so many numbers from one to another one.
func numberLists(size, from, to int, tell func(l []int)) {
	l := make([]int, size)
	var set func(at int)
	set = func(at int) {
		if at == size {
			tell(l)
			return
		}
		for number := from; number <= to; number++ {
			l[at] = number
			set(at + 1)
		}
	}
	set(0)
}

// treesOf calls a function with all trees, right or wrong, of so many articles and lanes whose corners go so far beyond those that there are.
func treesOf(articles, lanes, beyond int, tell func(t class.Tree)) {
	numberLists(lanes+articles, -beyond, lanes+beyond, func(l []int) { tell(class.Tree{Up: l[:lanes], At: l[lanes:]}) })
}

// P5.5
func TestValidOfAllTrees(t *testing.T) {
	for _, x := range []struct{ articles, lanes, beyond int }{
		{2, 0, 2}, {2, 1, 2}, {2, 2, 1}, {2, 3, 1}, {2, 4, 0}, {3, 0, 1}, {3, 1, 1}, {3, 2, 1}, {3, 3, 0}, {3, 4, 0}, {4, 0, 1}, {4, 1, 1}, {4, 2, 0}, {4, 3, 0},
	} {
		treesOf(x.articles, x.lanes, x.beyond, func(g class.Tree) {
			if e := class.Valid(x.articles, g); e != slowValid(x.articles, g) {
				t.Errorf("Valid of %d, %v: %d, want %d", x.articles, g, e, slowValid(x.articles, g))
			}
		})
	}
}

// almostTrees calls a function with trees of which some numbers were changed, or some corners got other numbers.
func almostTrees(seed int64, tell func(articles int, t class.Tree)) {
	r := rand.New(rand.NewSource(seed))
	for _, b := range agreeingBooks(seed) {
		g, _ := class.Grow(b.articles, b.sides)
		for range 10 {
			other := class.Tree{Up: slices.Clone(g.Up), At: slices.Clone(g.At)}
			if r.Intn(2) == 0 {
				other = renumber(r, g)
			}
			for range r.Intn(3) {
				number := r.Intn(len(g.Up)+3) - 1
				if at := r.Intn(len(g.Up) + len(g.At)); at < len(g.Up) {
					other.Up[at] = number
				} else {
					other.At[at-len(g.Up)] = number
				}
			}
			tell(b.articles, other)
		}
	}
}

// renumber returns a tree with other numbers for two of its corners.
func renumber(r *rand.Rand, g class.Tree) class.Tree {
	numbers := []int{}
	for corner := range len(g.Up) + 1 {
		numbers = append(numbers, corner)
	}
	one, other := r.Intn(len(numbers)), r.Intn(len(numbers))
	if one > 0 && other > 0 {
		numbers[one], numbers[other] = other, one
	}
	told := class.Tree{Up: make([]int, len(g.Up)), At: make([]int, len(g.At))}
	for i, above := range g.Up {
		told.Up[numbers[i+1]-1] = numbers[above]
	}
	for a, corner := range g.At {
		told.At[a] = numbers[corner]
	}
	return told
}

// P5.5
func TestValidOfAlmostTrees(t *testing.T) {
	found := map[api.Errno]int{}
	almostTrees(55, func(articles int, g class.Tree) {
		want := slowValid(articles, g)
		found[want]++
		if e := class.Valid(articles, g); e != want {
			t.Errorf("Valid of %d, %v: %d, want %d", articles, g, e, want)
		}
	})
	for _, e := range []api.Errno{api.OK, api.ErrNone, api.ErrLost, api.ErrShape, api.ErrEmpty, api.ErrOrder} {
		if found[e] < 10 {
			t.Errorf("the error %d was found %d times", e, found[e])
		}
	}
}

// P5.5
func TestSides(t *testing.T) {
	for _, x := range []struct {
		articles int
		t        class.Tree
		want     [][]int
	}{
		{4, treeT(), digits("1", "12", "3")},
		{2, tree("", "00"), nil},
		{2, tree("0", "01"), digits("1")},
		{5, tree("012", "01233"), digits("1234", "234", "34")},
		{4, tree("2022", "0134"), digits("1", "123", "2", "3")},
		{6, tree("20200", "001345"), digits("2", "23", "3", "4", "5")},
	} {
		if l, e := class.Sides(x.articles, x.t); !equal(l, x.want) || e != api.OK {
			t.Errorf("Sides of %d, %v: %v %d, want %v", x.articles, x.t, l, e, x.want)
		}
	}
	almostTrees(56, func(articles int, g class.Tree) {
		if slowValid(articles, g) != api.OK {
			return
		}
		if l, e := class.Sides(articles, g); !equal(l, slowLanes(g)) || e != api.OK {
			t.Errorf("Sides of %d, %v: %v %d", articles, g, l, e)
		}
	})
}

// P5.6
func TestFar(t *testing.T) {
	c := tree("012", "01233")
	for _, x := range []struct {
		articles   int
		t          class.Tree
		one, other int
		want       int
		e          api.Errno
	}{
		{4, treeT(), 0, 1, 2, api.OK},
		{4, treeT(), 1, 3, 3, api.OK},
		{4, treeT(), 3, 1, 3, api.OK},
		{4, treeT(), 1, 2, 1, api.OK},
		{4, treeT(), 2, 2, 0, api.OK},
		{5, c, 3, 4, 0, api.OK}, // at one corner
		{5, c, 0, 4, 3, api.OK},
		{5, c, 4, 1, 2, api.OK}, // one above the other
		{5, c, 0, 5, 0, api.ErrNone},
		{5, c, 5, 0, 0, api.ErrNone},
		{5, c, -1, 0, 0, api.ErrNone},
		{5, c, 0, -1, 0, api.ErrNone},
		{5, c, 5, 5, 0, api.ErrNone},
		{5, c, 1 << 62, 0, 0, api.ErrNone},
		{5, c, 0, -1 << 63, 0, api.ErrNone},
		{4, tree("2022", "0134"), 1, 3, 2, api.OK}, // along a corner without articles
		{2, tree("", "00"), 0, 1, 0, api.OK},
		{2, tree("", "00"), 0, 2, 0, api.ErrNone},
	} {
		if k, e := class.Far(x.articles, x.t, x.one, x.other); k != x.want || e != x.e {
			t.Errorf("Far of %d, %v, %d and %d: %d %d, want %d %d", x.articles, x.t, x.one, x.other, k, e, x.want, x.e)
		}
	}
}

// P5.6
func TestFarOfManyTrees(t *testing.T) {
	almostTrees(57, func(articles int, g class.Tree) {
		if slowValid(articles, g) != api.OK {
			return
		}
		for one := range articles {
			for other := range articles {
				if k, e := class.Far(articles, g, one, other); k != slowFar(g, one, other) || e != api.OK {
					t.Errorf("Far of %d, %v, %d and %d: %d %d", articles, g, one, other, k, e)
				}
			}
		}
	})
}
