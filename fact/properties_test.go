package fact_test

import (
	"math/rand"
	"slices"
	"testing"

	"headword/api"
	"headword/fact"
)

// facts is what the functions return of a book that has no error.
type facts struct {
	first, values, shares []int
	count                 int
}

func factsOf(t *testing.T, b fact.Book) facts {
	t.Helper()
	first, e1 := fact.First(b)
	count, e2 := fact.Count(b)
	values, e3 := fact.Halves(b)
	shares, e4 := fact.Shares(b)
	if e1 != api.OK || e2 != api.OK || e3 != api.OK || e4 != api.OK {
		t.Fatalf("%v has the errors %d %d %d %d", b, e1, e2, e3, e4)
	}
	return facts{first, values, shares, count}
}

// P4.8
func TestAsMuch(t *testing.T) {
	for _, b := range manyBooks(8) {
		f := factsOf(t, b)
		if e := fact.Proves(b, f.values, f.shares); e != api.OK || sum(f.values) != sum(f.shares) {
			t.Errorf("%v has the values %v and the shares %v: %d", b, f.values, f.shares, e)
		}
	}
}

// P4.8: of all values and shares that are accepted.
func TestNoValuesAreCheaperThanShares(t *testing.T) {
	for _, b := range append(drawBooks(82, 60), booksOf(4)...) {
		cheapest, most := 2*b.Articles, 0
		for _, values := range allHalves[b.Articles] {
			if fact.Half(b, values) == api.OK {
				cheapest = min(cheapest, sum(values))
			}
		}
		for _, shares := range allHalves[len(b.Pairs)] {
			if fact.Shared(b, shares) == api.OK {
				most = max(most, sum(shares))
			}
		}
		if f := factsOf(t, b); cheapest < most || sum(f.values) != cheapest || sum(f.shares) != most {
			t.Errorf("%v: values cost from %d on, shares are worth up to %d, but %v and %v were found", b, cheapest, most, f.values, f.shares)
		}
	}
}

// P4.9
func TestHalvesAndWholes(t *testing.T) {
	some := 0
	for _, b := range manyBooks(9) {
		wrong, right, e := fact.Sure(b)
		rest, left, f := fact.Rest(b)
		if e != api.OK || f != api.OK {
			t.Fatalf("Sure and Rest of %v: %d %d", b, e, f)
		}
		if !slices.ContainsFunc(slowShortest(b), func(l []int) bool { return agrees(l, wrong, right) }) {
			t.Errorf("no shortest list of %v has %v and none of %v", b, wrong, right)
		}
		want := len(wrong)
		if len(left) > 0 {
			want += len(factsOf(t, rest).first)
		}
		if first := factsOf(t, b).first; len(first) != want {
			t.Errorf("First of %v: %v, but with its rest %v there are %d", b, first, rest, want)
		}
		if len(wrong) > 0 && len(left) > 0 {
			some++
		}
	}
	if some == 0 {
		t.Error("no book has both articles that are wrong and a rest")
	}
}

// agrees reports whether a list has all of some articles and none of others.
func agrees(l, wrong, right []int) bool {
	lacks := slices.ContainsFunc(wrong, func(article int) bool { return !slices.Contains(l, article) })
	has := slices.ContainsFunc(right, func(article int) bool { return slices.Contains(l, article) })
	return !lacks && !has
}

// P4.10
func TestBounds(t *testing.T) {
	equal, more := 0, 0
	for _, b := range manyBooks(10) {
		f := factsOf(t, b)
		twice, cost := 2*len(f.first), sum(f.values)
		if twice < cost || twice > 2*cost {
			t.Errorf("First of %v: %v, Halves: %v", b, f.first, f.values)
		}
		if twice == cost {
			equal++
			continue
		}
		more++
		if !hasOddRing(b) {
			t.Errorf("%v has no odd ring; First: %v, Halves: %v", b, f.first, f.values)
		}
	}
	if equal == 0 || more == 0 {
		t.Errorf("First has as many as Halves cost in %d books, more in %d", equal, more)
	}
}

// P4.11
func TestSharesAreRingsAndPairs(t *testing.T) {
	found := 0
	for _, b := range manyBooks(11) {
		rings, e := fact.Rings(b)
		shares := factsOf(t, b).shares
		if e != api.OK {
			t.Fatalf("Rings of %v: %d", b, e)
		}
		var articles []int
		var pairs [][2]int
		for _, ring := range rings {
			articles = append(articles, ring...)
			pairs = append(pairs, pairsOn(ring)...)
			if !isOdd(ring) || ring[0] != slices.Min(ring) || ring[1] >= ring[len(ring)-1] {
				t.Errorf("%v has the ring %v", b, ring)
			}
		}
		ones := pairsWith(b, shares, 1)
		// A pair with the share 2 has no article of a ring, and none of another such pair.
		for _, pair := range pairsWith(b, shares, 2) {
			articles = append(articles, pair[:]...)
		}
		if !slices.EqualFunc(sortedPairs(ones), sortedPairs(pairs), func(p, q [2]int) bool { return p == q }) {
			t.Errorf("%v with the shares %v has the rings %v", b, shares, rings)
		}
		slices.Sort(articles)
		if different := slices.Compact(slices.Clone(articles)); len(different) != len(articles) {
			t.Errorf("%v with the shares %v and the rings %v: articles %v", b, shares, rings, articles)
		}
		found += len(rings)
	}
	if found == 0 {
		t.Error("no book has a ring")
	}
}

// sortedPairs returns pairs in ascending order.
func sortedPairs(pairs [][2]int) [][2]int {
	sorted := slices.Clone(pairs)
	slices.SortFunc(sorted, func(p, q [2]int) int { return slices.Compare(p[:], q[:]) })
	return sorted
}

// P4.12
func TestRestNeedsHalves(t *testing.T) {
	for _, b := range manyBooks(12) {
		rest, left, e := fact.Rest(b)
		if e != api.OK || rest.Articles != len(left) {
			t.Fatalf("Rest of %v: %v %v %d", b, rest, left, e)
		}
		if len(left) == 0 {
			if len(rest.Pairs) > 0 {
				t.Errorf("Rest of %v: %v", b, rest)
			}
			continue
		}
		f := factsOf(t, rest)
		ones := slices.Repeat([]int{1}, rest.Articles)
		if e := fact.Proves(rest, ones, f.shares); e != api.OK || sum(f.values) != rest.Articles {
			t.Errorf("values 1 of %v, the rest of %v: %d; Halves: %v", rest, b, e, f.values)
		}
		if 2*len(f.first) < rest.Articles {
			t.Errorf("First of %v, the rest of %v: %v", rest, b, f.first)
		}
	}
}

// P4.13
func TestNames(t *testing.T) {
	r := rand.New(rand.NewSource(13))
	for _, b := range manyBooks(13) {
		numbers := r.Perm(b.Articles)
		other := fact.Book{Articles: b.Articles}
		for _, at := range r.Perm(len(b.Pairs)) {
			one, two := numbers[b.Pairs[at][0]], numbers[b.Pairs[at][1]]
			other.Pairs = append(other.Pairs, [2]int{min(one, two), max(one, two)})
		}
		f, g := factsOf(t, b), factsOf(t, other)
		if len(f.first) != len(g.first) || f.count != g.count || sum(f.values) != sum(g.values) {
			t.Errorf("%v has %v, but %v has %v", b, f, other, g)
		}
	}
}

// P4.14
func TestOnePairMore(t *testing.T) {
	r := rand.New(rand.NewSource(14))
	grown := [2]int{}
	for _, b := range manyBooks(14) {
		if len(b.Pairs) == fact.MaxPairs {
			continue
		}
		f := factsOf(t, b)
		for _, pair := range pairsOf(b.Articles) {
			if slices.Contains(b.Pairs, pair) {
				continue
			}
			more := fact.Book{Articles: b.Articles, Pairs: slices.Insert(slices.Clone(b.Pairs), r.Intn(len(b.Pairs)+1), pair)}
			g := factsOf(t, more)
			longer, dearer := len(g.first)-len(f.first), sum(g.values)-sum(f.values)
			if longer < 0 || longer > 1 || dearer < 0 || dearer > 2 {
				t.Errorf("%v has %v, but %v has %v", b, f, more, g)
			}
			grown[longer]++
		}
	}
	if grown[0] == 0 || grown[1] == 0 {
		t.Errorf("%d pairs changed nothing, %d made First longer", grown[0], grown[1])
	}
}
