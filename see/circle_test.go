package see_test

import (
	"slices"
	"testing"

	"headword/api"
	"headword/see"
)

// P2.4
func TestRing(t *testing.T) {
	for _, x := range []struct {
		b    see.Book
		want []int
		e    api.Errno
	}{
		{bookB(), list(0, 1, 2), api.OK},
		{bookA(), nil, api.ErrClash},
		{bookC(), nil, api.ErrClash},
		{book(1), nil, api.ErrClash},
		{book(3, "02", "21", "10"), list(0, 2, 1), api.OK},
		{book(5, "01", "12", "23", "34", "40"), list(0, 1, 2, 3, 4), api.OK},
		{book(7, "01", "12", "23", "34", "45", "56", "60"), list(0, 1, 2, 3, 4, 5, 6), api.OK},
		{book(6, "01", "12", "23", "34", "45", "50"), nil, api.ErrClash},
		{book(7, "06", "65", "54", "43", "32", "21", "10"), list(0, 6, 5, 4, 3, 2, 1), api.OK},
		{book(6, "01", "12", "23", "34", "40", "35", "53", "45"), list(3, 4, 5), api.OK}, // shorter comes before smaller
		{book(6, "34", "45", "53", "01", "12", "20"), list(0, 1, 2), api.OK},
		{book(4, "13", "32", "21"), list(1, 3, 2), api.OK},
		{book(3, "01", "10", "12", "21", "02", "20"), list(0, 1, 2), api.OK},
		{book(5, "03", "34", "40", "02", "24"), list(0, 2, 4), api.OK},
	} {
		if ring, e := see.Ring(x.b); !slices.Equal(ring, x.want) || e != x.e {
			t.Errorf("Ring of %v: %v %d, want %v %d", x.b, ring, e, x.want, x.e)
		}
	}
}

// P2.4
func TestProves(t *testing.T) {
	five := book(5, "01", "12", "23", "34", "40", "20")
	for _, x := range []struct {
		b    see.Book
		ring []int
		want api.Errno
	}{
		{bookB(), list(0, 1, 2), api.OK},
		{bookB(), list(1, 2, 0), api.OK},
		{bookB(), list(2, 0, 1), api.OK},
		{bookB(), list(0, 2, 1), api.ErrProof},
		{bookB(), list(0, 1), api.ErrShape},
		{bookB(), list(0), api.ErrShape},
		{bookB(), list(), api.ErrShape},
		{bookB(), nil, api.ErrShape},
		{bookC(), list(0, 1, 2, 3), api.ErrShape},
		{bookC(), list(9, 9, 9, 9), api.ErrShape}, // the shape comes before the numbers
		{bookB(), list(0, 1, 3), api.ErrNone},
		{bookB(), list(0, 1, -1), api.ErrNone},
		{bookB(), list(0, 1<<62, 2), api.ErrNone},
		{bookB(), list(-1<<63, 1, 2), api.ErrNone},
		{bookB(), list(0, 1, 0), api.ErrTwice},
		{bookB(), list(0, 0, 3), api.ErrTwice}, // the first number with an error counts
		{bookB(), list(3, 0, 0), api.ErrNone},
		{bookB(), list(3, 3, 3), api.ErrNone},
		{bookB(), list(0, 1, 2, 0, 1), api.ErrTwice},
		{bookB(), list(0, 2, 2), api.ErrTwice}, // numbers come before references
		{bookB(), make([]int, 100001), api.ErrTwice},
		{bookA(), list(0, 1, 2), api.ErrProof}, // only the last one does not see the first one
		{bookA(), list(2, 0, 1), api.ErrProof}, // only the first one does not see the next one
		{five, list(0, 1, 2, 3, 4), api.OK},
		{five, list(3, 4, 0, 1, 2), api.OK},
		{five, list(2, 0, 1), api.OK}, // any odd circle does
		{five, list(0, 1, 3), api.ErrProof},
		{five, list(0, 1, 2, 4, 3), api.ErrProof},
	} {
		if e := see.Proves(x.b, x.ring); e != x.want {
			t.Errorf("Proves of %v, %v: %d, want %d", x.b, x.ring, e, x.want)
		}
	}
}

// P2.4, M4: no rings are accepted but odd circles, which may begin with any word.
func TestProvesOfAllLists(t *testing.T) {
	for _, b := range append(drawBooks(24, 60), booksOf(3)...) {
		circles := slowCircles(b)
		for _, ring := range allLists[b.Words] {
			want := api.ErrProof
			switch {
			case len(ring) < 3 || isEven(ring):
				want = api.ErrShape
			case slices.ContainsFunc(circles, func(c []int) bool { return slices.Equal(c, turned(ring)) }):
				want = api.OK
			}
			if e := see.Proves(b, ring); e != want {
				t.Fatalf("Proves of %v, %v: %d, want %d", b, ring, e, want)
			}
		}
	}
}

// turned returns a circle so that it begins with its smallest word.
func turned(circle []int) []int {
	at := slices.Index(circle, slices.Min(circle))
	return slices.Concat(circle[at:], circle[:at])
}

// P2.7
func TestCirclesThroughWorst(t *testing.T) {
	for _, x := range []struct {
		b       see.Book
		circles int
		through []int
		worst   number
	}{
		{bookA(), 0, list(0, 0), number{0, api.ErrLost}},
		{bookB(), 1, list(1, 1, 1), number{0, api.OK}},
		{bookC(), 2, list(1, 1, 0, 1, 1), number{0, api.OK}},
		{book(1), 0, nil, number{0, api.ErrLost}},
		{book(2, "01", "10"), 1, list(1, 1), number{0, api.OK}},
		{book(3, "20", "01", "10"), 1, list(0, 1, 1), number{1, api.OK}},
		{book(4, "30", "01", "12", "20", "23"), 2, list(1, 2, 2, 1, 1), number{1, api.OK}},
		{book(3, "01", "10", "12", "21", "02", "20"), 5, list(2, 2, 2, 2, 2, 2), number{0, api.OK}},
		{book(4, "01", "02", "13", "23", "30", "31"), 3, list(1, 1, 2, 1, 2, 1), number{2, api.OK}},
	} {
		if got := asNumber(see.Circles(x.b)); got != (number{x.circles, api.OK}) {
			t.Errorf("Circles of %v: %v, want %d", x.b, got, x.circles)
		}
		for ref, want := range x.through {
			if got := asNumber(see.Through(x.b, ref)); got != (number{want, api.OK}) {
				t.Errorf("Through of %v, %d: %v, want %d", x.b, ref, got, want)
			}
		}
		for _, ref := range []int{-1, len(x.b.Refs), 16, 1 << 62, -1 << 63} {
			if got := asNumber(see.Through(x.b, ref)); got != (number{0, api.ErrNone}) {
				t.Errorf("Through of %v, %d: %v", x.b, ref, got)
			}
		}
		if got := asNumber(see.Worst(x.b)); got != x.worst {
			t.Errorf("Worst of %v: %v, want %v", x.b, got, x.worst)
		}
	}
}

// P2.4, P2.7
func TestCirclesOfManyBooks(t *testing.T) {
	for _, b := range manyBooks(7) {
		circles := slowCircles(b)
		if got := asNumber(see.Circles(b)); got != (number{len(circles), api.OK}) {
			t.Errorf("Circles of %v: %v, want %d", b, got, len(circles))
		}
		through := []int{}
		for _, ref := range b.Refs {
			through = append(through, slowThrough(circles, ref))
		}
		for ref, want := range through {
			if got := asNumber(see.Through(b, ref)); got != (number{want, api.OK}) {
				t.Errorf("Through of %v, %d: %v, want %d", b, ref, got, want)
			}
		}
		worst := number{0, api.ErrLost}
		if len(circles) > 0 {
			worst = number{slices.Index(through, slices.Max(through)), api.OK}
		}
		if got := asNumber(see.Worst(b)); got != worst {
			t.Errorf("Worst of %v: %v, want %v", b, got, worst)
		}
		want, e := shortest(slices.DeleteFunc(circles, isEven)), api.OK
		if want == nil {
			e = api.ErrClash
		}
		if ring, f := see.Ring(b); !slices.Equal(ring, want) || f != e {
			t.Errorf("Ring of %v: %v %d, want %v %d", b, ring, f, want, e)
		}
	}
}
