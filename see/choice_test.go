package see_test

import (
	"slices"
	"testing"

	"headword/api"
	"headword/see"
)

// P2.2
func TestValid(t *testing.T) {
	for _, x := range []struct {
		b      see.Book
		choice []int
		want   api.Errno
	}{
		{bookC(), list(1, 3), api.OK},
		{bookC(), list(0, 2), api.OK},
		{bookC(), list(0, 1), api.ErrClash},
		{bookC(), list(2, 3), api.ErrClash},
		{bookC(), list(0), api.ErrOpen},
		{bookC(), list(), api.ErrOpen},
		{bookC(), nil, api.ErrOpen},
		{bookC(), list(3, 1), api.ErrOrder},
		{bookC(), list(1, 1), api.ErrOrder},
		{bookC(), list(4), api.ErrNone},
		{bookC(), list(-1), api.ErrNone},
		{bookC(), list(1, 1<<62), api.ErrNone},
		{bookC(), list(-1<<63, 1), api.ErrNone},
		{bookC(), list(1, -1), api.ErrNone},    // no word comes before the order
		{bookC(), list(1, 0, 4), api.ErrOrder}, // the first number with an error counts
		{bookC(), list(4, 1, 0), api.ErrNone},  // here it is another one
		{bookC(), list(0, 1, 1), api.ErrOrder}, // numbers come before references
		{bookB(), list(0, 1), api.ErrClash},
		{book(4, "01"), list(0, 1), api.ErrClash}, // what clashes comes before what is open
		{book(3, "10"), list(0, 1), api.ErrClash}, // seen by the word before it
		{bookA(), list(2), api.ErrOpen},
		{bookA(), list(0, 2), api.OK},
		{book(3, "10"), list(0), api.ErrOpen},
		{book(3, "10"), list(1, 2), api.ErrOpen}, // to be seen is not to see
		{book(3), list(0, 1), api.ErrOpen},
		{book(3), list(0, 1, 2), api.OK},
		{book(1), list(0), api.OK},
		{book(1), nil, api.ErrOpen},
		{book(7), list(0, 1, 2, 3, 4, 5, 6), api.OK},
		{book(7), list(0, 1, 2, 3, 4, 5, 6, 7), api.ErrNone},
	} {
		if e := see.Valid(x.b, x.choice); e != x.want {
			t.Errorf("Valid of %v, %v: %d, want %d", x.b, x.choice, e, x.want)
		}
	}
}

// P2.2
func TestValidOfAllSets(t *testing.T) {
	for _, b := range manyBooks(2) {
		for _, set := range sets(b.Words) {
			e := see.Valid(b, set)
			if (e == api.OK) != slowChoice(b, set) {
				t.Fatalf("Valid of %v, %v: %d", b, set, e)
			}
			clash := slices.ContainsFunc(b.Refs, func(ref [2]int) bool {
				return slices.Contains(set, ref[0]) && slices.Contains(set, ref[1])
			})
			if (e == api.ErrClash) != clash || e != api.OK && e != api.ErrClash && e != api.ErrOpen {
				t.Fatalf("Valid of %v, %v: %d; a word sees another one: %v", b, set, e, clash)
			}
		}
	}
}

// P2.3
func TestFirstAndAll(t *testing.T) {
	for _, x := range []struct {
		b    see.Book
		want [][]int
	}{
		{bookA(), [][]int{{0, 2}}},
		{bookB(), nil},
		{bookC(), [][]int{{0, 2}, {0, 3}, {1, 3}}},
		{book(1), [][]int{{0}}},
		{book(7), [][]int{{0, 1, 2, 3, 4, 5, 6}}},
		{book(2, "01"), [][]int{{1}}},
		{book(2, "01", "10"), [][]int{{0}, {1}}},
		{book(4, "01", "10", "02", "20", "03", "30"), [][]int{{0}, {1, 2, 3}}},
		{book(4, "30", "03", "31", "13", "32", "23"), [][]int{{0, 1, 2}, {3}}},
		{book(3, "01", "10", "12", "21", "02", "20"), [][]int{{0}, {1}, {2}}},
		{book(4, "01", "12", "20", "03"), [][]int{{2, 3}}}, // in spite of an odd circle
		{book(4, "01", "12", "20", "30"), nil},
	} {
		all, e := see.All(x.b)
		if !equalLists(all, x.want) || e != api.OK {
			t.Errorf("All of %v: %v %d, want %v", x.b, all, e, x.want)
		}
		examineFirst(t, x.b, x.want)
	}
}

// examineFirst compares First with all choices.
func examineFirst(t *testing.T, b see.Book, choices [][]int) {
	t.Helper()
	want, lost := []int(nil), api.ErrLost
	if len(choices) > 0 {
		want, lost = choices[0], api.OK
	}
	if first, e := see.First(b); !slices.Equal(first, want) || e != lost {
		t.Errorf("First of %v: %v %d, want %v %d", b, first, e, want, lost)
	}
}

// P2.3
func TestAllOfManyBooks(t *testing.T) {
	for _, b := range manyBooks(3) {
		want := slowChoices(b)
		if all, e := see.All(b); !equalLists(all, want) || e != api.OK {
			t.Errorf("All of %v: %v %d, want %v", b, all, e, want)
		}
		examineFirst(t, b, want)
	}
}
