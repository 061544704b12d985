package class_test

import (
	"math/rand"
	"slices"
	"testing"

	"headword/api"
	"headword/class"
)

// grow returns the tree of divisions that agree.
func grow(t *testing.T, b book) class.Tree {
	t.Helper()
	g, e := class.Grow(b.articles, b.sides)
	if e != api.OK {
		t.Fatalf("Grow of %v: %d", b, e)
	}
	return g
}

// sides returns the small sides of a tree.
func sides(t *testing.T, articles int, g class.Tree) [][]int {
	t.Helper()
	l, e := class.Sides(articles, g)
	if e != api.OK {
		t.Fatalf("Sides of %d, %v: %d", articles, g, e)
	}
	return l
}

// most returns how many divisions agree.
func most(t *testing.T, b book) int {
	t.Helper()
	l, e := class.Most(b.articles, b.sides)
	if e != api.OK {
		t.Fatalf("Most of %v: %d", b, e)
	}
	return len(l)
}

// P5.9
func TestTreeOfDivisions(t *testing.T) {
	grown := [2]int{}
	for _, b := range manyBooks(9) {
		g, e := class.Grow(b.articles, b.sides)
		_, _, clash := class.Why(b.articles, b.sides)
		if (e == api.OK) != (clash == api.ErrClash) {
			t.Errorf("%v: Grow %d, Why %d", b, e, clash)
		}
		if e != api.OK {
			grown[0]++
			continue
		}
		grown[1]++
		if f := class.Valid(b.articles, g); f != api.OK || !equal(slowLanes(g), slowTidy(b)) {
			t.Errorf("Grow of %v: %v, Valid: %d", b, g, f)
		}
	}
	if slices.Min(grown[:]) == 0 {
		t.Errorf("%d books have no tree, %d have one", grown[0], grown[1])
	}
}

// P5.9: of all trees of few articles, each belongs to other divisions that agree, and each such divisions have one.
func TestEachTreeHasItsDivisions(t *testing.T) {
	for articles := 2; articles <= 4; articles++ {
		want := make([]int, 2*articles-2)
		for _, b := range booksOf(articles) {
			if len(slowClashes(b)) == 0 {
				want[len(b.sides)]++
			}
		}
		for lanes := range len(want) {
			trees := 0
			treesOf(articles, lanes, 0, func(g class.Tree) {
				if class.Valid(articles, g) != api.OK {
					return
				}
				trees++
				told := sides(t, articles, g)
				if again := grow(t, book{articles, told}); !equalTrees(again, g) {
					t.Errorf("%v has the sides %v, and these have %v", g, told, again)
				}
			})
			if trees != want[lanes] {
				t.Errorf("%d articles: %d trees of %d lanes, want %d", articles, trees, lanes, want[lanes])
			}
		}
	}
}

// P5.9, P5.10
func TestDivisionsOfTrees(t *testing.T) {
	found := 0
	almostTrees(10, func(articles int, g class.Tree) {
		if class.Valid(articles, g) != api.OK {
			return
		}
		found++
		b := book{articles, sides(t, articles, g)}
		if _, _, e := class.Why(b.articles, b.sides); e != api.ErrClash {
			t.Errorf("%v has the sides %v: %d", g, b, e)
		}
		if again := grow(t, b); !equalTrees(again, g) {
			t.Errorf("%v has the sides %v, and these have %v", g, b, again)
		}
	})
	if found < 100 {
		t.Errorf("only %d trees", found)
	}
}

// P5.10
func TestThereAndBack(t *testing.T) {
	for _, b := range agreeingBooks(11) {
		tidy, e := class.Tidy(b.articles, b.sides)
		if l := sides(t, b.articles, grow(t, b)); !equal(l, tidy) || e != api.OK {
			t.Errorf("%v: %v, Tidy: %v %d", b, l, tidy, e)
		}
	}
}

// P5.11
func TestHowMany(t *testing.T) {
	full := 0
	for _, b := range manyBooks(12) {
		size := 2*b.articles - 3
		if k := most(t, b); k > size {
			t.Errorf("Most of %v: %d", b, k)
		} else if k == size {
			full++
		}
		l, e := class.Fill(b.articles, b.sides)
		if e == api.ErrLost {
			continue
		}
		if f := class.Check(b.articles, l); len(l) != size || f != api.OK || most(t, book{b.articles, l}) != size {
			t.Errorf("Fill of %v: %v, Check: %d", b, l, f)
		}
		for _, side := range slowTidy(b) {
			if !slices.ContainsFunc(l, func(s []int) bool { return slices.Equal(s, side) }) {
				t.Errorf("Fill of %v: %v, without %v", b, l, side)
			}
		}
	}
	if full == 0 {
		t.Error("no book has as many as possible that agree")
	}
}

// P5.12
func TestFourTellClashes(t *testing.T) {
	clashing, agreeing := 0, 0
	for _, b := range manyBooks(13) {
		lost := slices.ContainsFunc(fours(b.articles), func(four []int) bool {
			_, e := class.Pairs(b.articles, b.sides, four)
			return e == api.ErrLost
		})
		_, _, e := class.Why(b.articles, b.sides)
		if lost != (e == api.OK) {
			t.Errorf("%v: Pairs finds a clash: %v, Why: %d", b, lost, e)
		}
		if e == api.OK {
			clashing++
		} else {
			agreeing++
		}
	}
	if clashing == 0 || agreeing == 0 {
		t.Errorf("%d books clash, %d do not", clashing, agreeing)
	}
}

// P5.12
func TestTwoGreaterSums(t *testing.T) {
	different := 0
	for _, b := range agreeingBooks(14) {
		g := grow(t, b)
		far := func(one, other int) int {
			k, e := class.Far(b.articles, g, one, other)
			if e != api.OK {
				t.Fatalf("Far of %v, %d and %d: %d", g, one, other, e)
			}
			return k
		}
		for _, four := range fours(b.articles) {
			sums := []int{}
			for i := 1; i < 4; i++ {
				rest := slices.Delete(slices.Clone(four), i, i+1)
				sums = append(sums, far(four[0], four[i])+far(rest[1], rest[2]))
			}
			slices.Sort(sums)
			if sums[1] != sums[2] {
				t.Errorf("%v, %v: sums %v", g, four, sums)
			}
			if sums[0] < sums[1] {
				different++
			}
		}
	}
	if different == 0 {
		t.Error("all sums are equal")
	}
}

// P5.13
func TestFarIsParted(t *testing.T) {
	for _, b := range agreeingBooks(15) {
		g := grow(t, b)
		for one := range b.articles {
			for other := range b.articles {
				far, e := class.Far(b.articles, g, one, other)
				parted, f := class.Parted(b.articles, b.sides, one, other)
				if far != parted || e != api.OK || f != api.OK {
					t.Errorf("%v, %d and %d: Far %d %d, Parted %d %d", b, one, other, far, e, parted, f)
				}
			}
		}
	}
}

// P5.14
func TestOtherNumbers(t *testing.T) {
	r := rand.New(rand.NewSource(16))
	for _, b := range manyBooks(16) {
		numbers := r.Perm(b.articles)
		other := book{articles: b.articles}
		for _, side := range b.sides {
			var renumbered []int
			for _, a := range side {
				renumbered = append(renumbered, numbers[a])
			}
			slices.Sort(renumbered)
			other.sides = append(other.sides, renumbered)
		}
		if most(t, b) != most(t, other) {
			t.Errorf("Most of %v: %d; of %v: %d", b, most(t, b), other, most(t, other))
		}
		for i := range b.sides {
			for j := range b.sides {
				one, e := class.Agree(b.articles, b.sides, i, j)
				two, f := class.Agree(b.articles, other.sides, i, j)
				if one != two || e != api.OK || f != api.OK {
					t.Errorf("%d and %d agree in %v: %v %d; in %v: %v %d", i, j, b, one, e, other, two, f)
				}
			}
		}
	}
}

// P5.14
func TestToldInOtherWays(t *testing.T) {
	r := rand.New(rand.NewSource(17))
	for _, b := range manyBooks(17) {
		other := retell(r, b)
		one, e := class.Tidy(b.articles, b.sides)
		two, f := class.Tidy(b.articles, other.sides)
		if !equal(one, two) || e != api.OK || f != api.OK || most(t, b) != most(t, other) {
			t.Errorf("Tidy of %v: %v %d; of %v: %v %d", b, one, e, other, two, f)
		}
		g, e := class.Grow(b.articles, b.sides)
		h, f := class.Grow(b.articles, other.sides)
		if !equalTrees(g, h) || e != f {
			t.Errorf("Grow of %v: %v %d; of %v: %v %d", b, g, e, other, h, f)
		}
		one, e = class.Fill(b.articles, b.sides)
		two, f = class.Fill(b.articles, other.sides)
		if !equal(one, two) || e != f {
			t.Errorf("Fill of %v: %v %d; of %v: %v %d", b, one, e, other, two, f)
		}
	}
}

// P5.15
func TestOneDivisionMore(t *testing.T) {
	grown := [2]int{}
	for _, b := range manyBooks(18) {
		for i := range b.sides {
			fewer := book{b.articles, slices.Delete(slices.Clone(b.sides), i, i+1)}
			more := most(t, b) - most(t, fewer)
			if more < 0 || more > 1 {
				t.Errorf("Most of %v: %d; of %v: %d", fewer, most(t, fewer), b, most(t, b))
				continue
			}
			grown[more]++
		}
	}
	if slices.Min(grown[:]) == 0 {
		t.Errorf("%d divisions changed nothing, %d made Most longer", grown[0], grown[1])
	}
}
