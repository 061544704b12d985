package see_test

import (
	"math/rand"
	"slices"
	"testing"

	"headword/api"
	"headword/see"
)

// ring returns a book whose words see one another in a single circle.
func ring(words int) see.Book {
	b := see.Book{Words: words}
	for word := range words {
		b.Refs = append(b.Refs, [2]int{word, (word + 1) % words})
	}
	return b
}

// renamed returns a book whose words have the numbers of a list, and whose references come in another order.
func renamed(r *rand.Rand, b see.Book, numbers []int) see.Book {
	other := see.Book{Words: b.Words}
	for _, at := range r.Perm(len(b.Refs)) {
		other.Refs = append(other.Refs, [2]int{numbers[b.Refs[at][0]], numbers[b.Refs[at][1]]})
	}
	return other
}

// choicesOf returns all choices of a book that has no error.
func choicesOf(t *testing.T, b see.Book) [][]int {
	t.Helper()
	choices, e := see.All(b)
	if e != api.OK {
		t.Fatalf("All of %v: %d", b, e)
	}
	return choices
}

// circlesOf returns how many circles a book has that has no error.
func circlesOf(t *testing.T, b see.Book) int {
	t.Helper()
	circles, e := see.Circles(b)
	if e != api.OK {
		t.Fatalf("Circles of %v: %d", b, e)
	}
	return circles
}

// P2.8
func TestOddCircles(t *testing.T) {
	lost, rings := 0, 0
	for _, b := range manyBooks(8) {
		_, e := see.First(b)
		odd, f := see.Ring(b)
		if e == api.ErrLost && f == api.ErrClash {
			t.Errorf("%v has neither a choice nor an odd circle", b)
		}
		if f == api.OK && (odd[0] != slices.Min(odd) || see.Proves(b, odd) != api.OK) {
			t.Errorf("Ring of %v: %v", b, odd)
		}
		if e == api.ErrLost {
			lost++
		}
		if f == api.OK {
			rings++
		}
	}
	if lost == 0 || lost >= rings {
		t.Errorf("%d books have no choice, %d an odd circle", lost, rings)
	}
}

// P2.9
func TestNoCircles(t *testing.T) {
	for _, b := range append(drawBooksWithoutCircles(9, 500), manyBooks(9)...) {
		numbers, e := see.Numbers(b)
		if (e == api.ErrClash) != (circlesOf(t, b) > 0) {
			t.Fatalf("Numbers of %v: %d", b, e)
		}
		if e != api.OK {
			continue
		}
		zeros := slices.DeleteFunc(sets(b.Words)[1:], func(set []int) bool {
			for word, number := range numbers {
				if slices.Contains(set, word) != (number == 0) {
					return true
				}
			}
			return false
		})
		if choices := choicesOf(t, b); len(choices) != 1 || !equalLists(choices, zeros) {
			t.Errorf("%v with the numbers %v has the choices %v", b, numbers, choices)
		}
		for word, number := range numbers {
			for smaller := range number + 1 {
				seen := slices.ContainsFunc(b.Refs, func(ref [2]int) bool { return ref[0] == word && numbers[ref[1]] == smaller })
				if seen != (smaller < number) {
					t.Errorf("%v with the numbers %v: word %d sees the number %d: %v", b, numbers, word, smaller, seen)
				}
			}
		}
	}
}

// P2.10
func TestRings(t *testing.T) {
	r := rand.New(rand.NewSource(10))
	for words := 2; words <= see.MaxWords; words++ {
		for range 20 {
			b := renamed(r, ring(words), r.Perm(words))
			want := 0
			if words%2 == 0 {
				want = 2
			}
			if choices := choicesOf(t, b); len(choices) != want {
				t.Errorf("%v has the choices %v", b, choices)
			}
			if n := circlesOf(t, b); n != 1 {
				t.Errorf("%v has %d circles", b, n)
			}
			found, e := see.Ring(b)
			if want == 0 && (len(found) != words || e != api.OK) || want == 2 && e != api.ErrClash {
				t.Errorf("Ring of %v: %v %d", b, found, e)
			}
		}
	}
}

// bothWays returns books in which each word that is seen sees the other one.
func bothWays() []see.Book {
	var books []see.Book
	for _, b := range manyBooks(11) {
		both := see.Book{Words: b.Words}
		for _, ref := range b.Refs {
			back := [2]int{ref[1], ref[0]}
			if len(both.Refs)+2 <= see.MaxRefs && !slices.Contains(both.Refs, ref) {
				both.Refs = append(both.Refs, ref, back)
			}
		}
		books = append(books, both)
	}
	return books
}

// P2.11
func TestBothWays(t *testing.T) {
	for _, b := range bothWays() {
		lonely := func(set []int) bool {
			return !slices.ContainsFunc(b.Refs, func(ref [2]int) bool {
				return slices.Contains(set, ref[0]) && slices.Contains(set, ref[1])
			})
		}
		var want [][]int
		for _, set := range sets(b.Words) {
			full := true
			for word := range b.Words {
				full = full && (slices.Contains(set, word) || !lonely(append(slices.Clone(set), word)))
			}
			if lonely(set) && full {
				want = append(want, set)
			}
		}
		if choices := choicesOf(t, b); len(choices) == 0 || !equalLists(choices, want) {
			t.Errorf("%v has the choices %v, want %v", b, choices, want)
		}
	}
}

// P2.12
func TestThroughIsCounted(t *testing.T) {
	for _, b := range drawBooks(12, 300) {
		words := 0
		for _, circle := range slowCircles(b) {
			words += len(circle)
		}
		sum, all := 0, circlesOf(t, b)
		for ref := range b.Refs {
			through, _ := see.Through(b, ref)
			sum += through
			less, e := see.Without(b, ref)
			if n := circlesOf(t, less); n != all-through || e != api.OK {
				t.Errorf("%v has %d circles, reference %d lies on %d, without it there are %d", b, all, ref, through, n)
			}
		}
		if sum != words {
			t.Errorf("%v: references lie on %d circles together, circles have %d words", b, sum, words)
		}
	}
}

// P2.13
func TestWaysToChoices(t *testing.T) {
	for _, b := range manyBooks(13) {
		for _, choice := range choicesOf(t, b) {
			for word := range b.Words {
				want := 2
				if slices.Contains(choice, word) {
					want = 1
				}
				if way, e := see.Way(b, choice, word); len(way) != want || e != api.OK {
					t.Errorf("Way of %v, %v, %d: %v %d", b, choice, word, way, e)
				}
			}
		}
	}
}

// P2.13: on the first shortest way each word but the last one has one step more to go than the next one.
func TestStepsOfWays(t *testing.T) {
	r := rand.New(rand.NewSource(13))
	for _, b := range drawBooks(14, 1000) {
		articles := drawSet(r, b.Words)
		for word := range b.Words {
			way, _ := see.Way(b, articles, word)
			for i := range way {
				if rest, e := see.Way(b, articles, way[i]); !slices.Equal(rest, way[i:]) || e != api.OK {
					t.Errorf("Way of %v, %v, %d: %v; from %d: %v %d", b, articles, word, way, way[i], rest, e)
				}
			}
		}
	}
}

// P2.14
func TestNames(t *testing.T) {
	r := rand.New(rand.NewSource(14))
	for _, b := range manyBooks(14) {
		numbers := r.Perm(b.Words)
		other := renamed(r, b, numbers)
		if n, m := len(choicesOf(t, b)), len(choicesOf(t, other)); n != m {
			t.Errorf("%v has %d choices, %v has %d", b, n, other, m)
		}
		if n, m := circlesOf(t, b), circlesOf(t, other); n != m {
			t.Errorf("%v has %d circles, %v has %d", b, n, other, m)
		}
		odd, e := see.Ring(b)
		if same, f := see.Ring(other); len(same) != len(odd) || e != f {
			t.Errorf("Ring of %v: %v %d, of %v: %v %d", b, odd, e, other, same, f)
		}
		for _, choice := range choicesOf(t, b) {
			var same []int
			for _, word := range choice {
				same = append(same, numbers[word])
			}
			slices.Sort(same)
			if f := see.Valid(other, same); f != api.OK {
				t.Errorf("%v is a choice of %v, and %v of %v: %d", choice, b, same, other, f)
			}
		}
	}
}

// P2.15: a choice remains one if a new word sees a word of it.
func TestNewWordThatSees(t *testing.T) {
	r := rand.New(rand.NewSource(15))
	for _, b := range manyBooks(15) {
		if b.Words == see.MaxWords || len(b.Refs) == see.MaxRefs {
			continue
		}
		for _, choice := range choicesOf(t, b) {
			more := clone(b)
			more.Words++
			more.Refs = append(more.Refs, [2]int{b.Words, choice[r.Intn(len(choice))]})
			// It may see any other words, too.
			for _, word := range r.Perm(b.Words)[:r.Intn(b.Words)] {
				if len(more.Refs) < see.MaxRefs && !sees(more, b.Words, word) {
					more.Refs = append(more.Refs, [2]int{b.Words, word})
				}
			}
			if e := see.Valid(more, choice); e != api.OK {
				t.Errorf("%v is a choice of %v, and of %v: %d", choice, b, more, e)
			}
		}
	}
}

// P2.15: a choice with a new word is one if that word sees none, and no word of the choice sees it.
func TestNewWordThatIsSeen(t *testing.T) {
	r := rand.New(rand.NewSource(16))
	for _, b := range manyBooks(16) {
		if b.Words == see.MaxWords {
			continue
		}
		for _, choice := range choicesOf(t, b) {
			more := clone(b)
			more.Words++
			for word := range b.Words {
				if len(more.Refs) < see.MaxRefs && !slices.Contains(choice, word) && r.Intn(2) == 0 {
					more.Refs = append(more.Refs, [2]int{word, b.Words})
				}
			}
			if e := see.Valid(more, append(slices.Clone(choice), b.Words)); e != api.OK {
				t.Errorf("%v is a choice of %v, and with %d of %v: %d", choice, b, b.Words, more, e)
			}
		}
	}
}
