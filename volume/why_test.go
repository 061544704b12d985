package volume_test

import (
	"math/rand"
	"slices"
	"testing"

	"headword/api"
	"headword/volume"
)

// examineWhy compares Why with what it is to return.
func examineWhy(t *testing.T, b volume.Book, want [][2]int, e api.Errno) {
	t.Helper()
	if stretches, f := volume.Why(b); !slices.Equal(stretches, want) || f != e {
		t.Errorf("Why of %v: %v %d, want %v %d", b, stretches, f, want, e)
	}
}

// P10.4, R2
func TestWhy(t *testing.T) {
	for _, x := range []struct {
		volume.Book
		want [][2]int
		e    api.Errno
	}{
		{bookA(), pairs(0, 2, 2, 4), api.OK},
		{withRoom(bookA(), 8, 0), pairs(0, 2), api.OK},
		{withRoom(bookA(), 14, 0), pairs(0, 4), api.OK},
		{withRoom(bookA(), 15, 0), nil, api.ErrClash},
		{withRoom(bookA(), 5, 0), pairs(0, 1, 1, 2, 2, 3, 3, 4), api.OK},
		{withRoom(bookA(), 4, 0), nil, api.ErrLost},
		{bookB(), nil, api.ErrLost}, // one volume is not enough, but no others are either
		{withRoom(bookB(), 8, 8), nil, api.ErrClash},
		{book(7, 0, 1, 7, 1, 8), nil, api.ErrLost},
		{fixed(2, 0, 1, 1), nil, api.ErrClash},
		{fixed(1, 0, 1, 1), pairs(0, 1), api.OK},
		{fixed(3, 0, 1, 1, 3, 3), pairs(0, 2, 2, 3), api.OK}, // 1 2, 2 3 is later
		{fixed(3, 0, 1, 1, 1, 3), pairs(0, 3), api.OK},       // 2 3 is shorter, but later
		{book(10, 3, 1, 9, 1, 1, 4, 9, 4, 5, 1, 5), pairs(0, 2, 2, 3), api.OK},
		{fixed(1, 0, slices.Repeat(list(1), 12)...), pairs(0, 1, 1, 2, 2, 3, 3, 4, 4, 5, 5, 6, 6, 7, 7, 8, 8, 9, 9, 10, 10, 11), api.OK},
		{fixed(11, 0, slices.Repeat(list(1), 12)...), pairs(0, 11), api.OK},
		{fixed(100, 0, slices.Repeat(list(30), 12)...), pairs(0, 3, 3, 6, 6, 9), api.OK},
	} {
		examineWhy(t, x.Book, x.want, x.e)
	}
}

// P10.4, M3
func TestWhyOfManyBooks(t *testing.T) {
	found := map[api.Errno]int{}
	for _, b := range append(manyBooks(6), drawBooks(7, 200)...) {
		want, e := slowWhy(b)
		examineWhy(t, b, want, e)
		found[e]++
	}
	if found[api.OK] < 1000 || found[api.ErrClash] < 1000 || found[api.ErrLost] < 1000 {
		t.Errorf("so often Why returns each error: %v", found)
	}
}

// examineProves compares Proves with what it is to return.
func examineProves(t *testing.T, b volume.Book, volumes int, stretches [][2]int, want api.Errno) {
	t.Helper()
	if e := volume.Proves(b, volumes, stretches); e != want {
		t.Errorf("Proves of %v, %d, %.9v: %d, want %d", b, volumes, stretches, e, want)
	}
}

// P10.4, R1
func TestProves(t *testing.T) {
	for _, x := range []struct {
		volumes   int
		stretches [][2]int
		want      api.Errno
	}{
		{3, pairs(0, 2, 2, 4), api.OK},
		{2, pairs(0, 2, 2, 4), api.OK}, // more stretches than are needed
		{1, pairs(0, 2, 2, 4), api.OK},
		{1, nil, api.OK},
		{1, pairs(), api.OK},
		{2, pairs(0, 2), api.OK},
		{2, pairs(0, 4), api.OK},
		{2, pairs(1, 4), api.OK},
		{3, pairs(1, 3), api.ErrProof},
		{2, pairs(2, 4), api.OK},
		{2, pairs(2, 3), api.ErrProof}, // as many lines as there is room for
		{2, pairs(0, 1), api.ErrProof},
		{1, pairs(0, 1), api.ErrProof}, // a stretch that is not needed counts too
		{3, pairs(0, 2, 3, 4), api.ErrProof},
		{3, pairs(0, 2), api.ErrProof},
		{4, pairs(0, 2, 2, 4), api.ErrProof},
		{2, nil, api.ErrProof},
		{1<<63 - 1, pairs(0, 2, 2, 4), api.ErrProof},
		{1<<63 - 1, nil, api.ErrProof},
		{0, pairs(0, 2, 2, 4), api.ErrRange},
		{0, nil, api.ErrRange},
		{-1, nil, api.ErrRange},
		{-1 << 63, nil, api.ErrRange},
		{-1 << 63, pairs(0, 2, 2, 4), api.ErrRange},
		{0, pairs(0, 5), api.ErrRange}, // the number of volumes comes first
		{0, pairs(2, 1), api.ErrRange},
		{2, pairs(0, 5), api.ErrNone},
		{2, pairs(-1, 4), api.ErrNone},
		{2, pairs(5, 0), api.ErrNone}, // not an article comes before the order
		{2, pairs(4, -1), api.ErrNone},
		{2, pairs(5, 5), api.ErrNone},
		{2, pairs(-1, -1), api.ErrNone},
		{2, pairs(5, 6), api.ErrNone},
		{2, pairs(0, 1<<63-1), api.ErrNone},
		{2, pairs(-1<<63, 4), api.ErrNone},
		{2, pairs(-1<<63, 1<<63-1), api.ErrNone},
		{3, pairs(0, 2, 2, 5), api.ErrNone},
		{3, pairs(0, 2, 1, 5), api.ErrNone}, // and before where the one before ends
		{2, pairs(2, 1), api.ErrOrder},
		{2, pairs(2, 2), api.ErrOrder},
		{2, pairs(0, 0), api.ErrOrder},
		{2, pairs(4, 0), api.ErrOrder},
		{3, pairs(0, 2, 1, 3), api.ErrOrder},
		{3, pairs(0, 2, 1, 2), api.ErrOrder}, // the order comes before the lines
		{3, pairs(0, 2, 0, 2), api.ErrOrder},
		{3, pairs(2, 4, 0, 2), api.ErrOrder},
		{3, pairs(0, 4, 3, 4), api.ErrOrder},
		{3, pairs(0, 1, 9, 9), api.ErrProof}, // the first stretch with an error counts
		{3, pairs(9, 9, 0, 1), api.ErrNone},
		{3, pairs(2, 1, 0, 9), api.ErrOrder},
		{9, pairs(0, 2, 2, 1), api.ErrOrder}, // and before how many there are
		{9, pairs(0, 2, 2, 5), api.ErrNone},
		{1, make([][2]int, 100000), api.ErrOrder},
	} {
		examineProves(t, bookA(), x.volumes, x.stretches, x.want)
	}
	examineProves(t, bookB(), 1, nil, api.OK)
	examineProves(t, bookB(), 2, nil, api.ErrProof)
	examineProves(t, bookB(), 2, pairs(0, 0), api.ErrOrder)
	examineProves(t, bookB(), 2, pairs(0, 1), api.ErrNone)
	// Stretches can be accepted though no cut holds, or though none is needed.
	examineProves(t, book(7, 0, 1, 8, 1, 1), 2, pairs(0, 1), api.OK)
	examineProves(t, fixed(2, 0, 1, 1), 1, nil, api.OK)
	examineProves(t, fixed(2, 0, 1, 1), 1, pairs(0, 1), api.ErrProof)
	// The Least lines do not matter.
	examineProves(t, book(7, 0, 1, 4, 1, 4), 2, pairs(0, 1), api.OK)
	examineProves(t, fixed(1, 0, slices.Repeat(list(1), 12)...), 12, pairs(0, 1, 1, 2, 2, 3, 3, 4, 4, 5, 5, 6, 6, 7, 7, 8, 8, 9, 9, 10, 10, 11), api.OK)
	examineProves(t, fixed(1, 0, slices.Repeat(list(1), 12)...), 13, pairs(0, 1, 1, 2, 2, 3, 3, 4, 4, 5, 5, 6, 6, 7, 7, 8, 8, 9, 9, 10, 10, 11), api.ErrProof)
}

// P10.4, M4: of few articles all lists of up to two stretches, right or wrong.
func TestAllStretches(t *testing.T) {
	for _, b := range []volume.Book{
		bookA(), bookB(), fixed(1, 0, 1, 1), fixed(2, 0, 1, 1), book(3, 2, 1, 2, 2, 3, 1, 1), fixed(1, 0, 1, 1, 1),
		fixed(2, 0, 1, 1, 1), fixed(7, 0, 3, 4, 3), book(5, 0, 1, 3, 2, 3, 2, 2, 1, 6), fixed(4, 0, 2, 2, 3, 1),
	} {
		n := len(b.Articles)
		for many := range 3 {
			for _, numbers := range numbersOf(2*many, -1, n) {
				for volumes := range 5 {
					stretches := pairs(numbers...)
					examineProves(t, b, volumes, stretches, slowProves(b, volumes, stretches))
				}
			}
		}
	}
}

// drawStretches draws stretches that are often in a row.
func drawStretches(r *rand.Rand, b volume.Book) [][2]int {
	var stretches [][2]int
	from := 0
	for from < len(b.Articles)-1 && r.Intn(8) > 0 {
		first := from
		if r.Intn(3) == 0 {
			first += r.Intn(len(b.Articles) - 1 - from)
		}
		last := first + 1
		for last < len(b.Articles)-1 && (!slowIsStretch(b, first, last) && r.Intn(20) > 0 || r.Intn(6) == 0) {
			last++
		}
		stretches = append(stretches, [2]int{first, last})
		from = last
	}
	if len(stretches) > 0 && r.Intn(3) == 0 {
		stretches[r.Intn(len(stretches))][r.Intn(2)] = r.Intn(len(b.Articles)+2) - 1
	}
	return stretches
}

// P10.4, P10.8, M4: no cut that holds has fewer volumes than Proves accepts.
func TestProvesOfManyBooks(t *testing.T) {
	r := rand.New(rand.NewSource(8))
	found := map[api.Errno]int{}
	for _, b := range append(drawBooks(8, 600), edgeBooks()...) {
		fewest, lost := slowFewest(b)
		for range 10 {
			stretches := drawStretches(r, b)
			for volumes := range len(stretches) + 3 {
				want := slowProves(b, volumes, stretches)
				examineProves(t, b, volumes, stretches, want)
				found[want]++
				if want == api.OK && lost == api.OK && len(fewest) < volumes {
					t.Errorf("%v prove that %v needs %d volumes, but %v holds", stretches, b, volumes, fewest)
				}
			}
		}
	}
	for _, e := range []api.Errno{api.OK, api.ErrRange, api.ErrNone, api.ErrOrder, api.ErrProof} {
		if found[e] < 300 {
			t.Errorf("so often Proves returns each error: %v", found)
		}
	}
}
