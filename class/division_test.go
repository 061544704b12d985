package class_test

import (
	"slices"
	"testing"

	"headword/api"
	"headword/class"
)

// P5.2
func TestTidy(t *testing.T) {
	for _, x := range []struct {
		b    book
		want [][]int
	}{
		{bookA(), digits("1", "12", "3")},
		{bookB(), digits("13", "23")},
		{bookC(), digits("1234", "234", "34")},
		{say(2), nil},
		{say(2, "0"), digits("1")},
		{say(2, "1"), digits("1")},
		{say(8, "01", "7", "0"), digits("1234567", "234567", "7")},
		{say(5, "2", "12", "1", "123", "13", "3"), digits("1", "12", "123", "13", "2", "3")},
	} {
		if l, e := class.Tidy(x.b.articles, x.b.sides); !equal(l, x.want) || e != api.OK {
			t.Errorf("Tidy of %v: %v %d, want %v", x.b, l, e, x.want)
		}
	}
	for _, b := range manyBooks(2) {
		if l, e := class.Tidy(b.articles, b.sides); !equal(l, slowTidy(b)) || e != api.OK {
			t.Errorf("Tidy of %v: %v %d, want %v", b, l, e, slowTidy(b))
		}
	}
}

// P5.2, P5.3
func TestAgreeAndProves(t *testing.T) {
	for _, x := range []struct {
		b            book
		i, j         int
		want         bool
		agree, prove api.Errno
	}{
		{bookA(), 0, 1, true, api.OK, api.ErrProof},
		{bookA(), 2, 0, true, api.OK, api.ErrProof},
		{bookB(), 0, 1, false, api.OK, api.OK},
		{bookB(), 1, 0, false, api.OK, api.OK}, // in any order
		{bookB(), 1, 1, true, api.OK, api.ErrProof},
		{bookB(), 0, 0, true, api.OK, api.ErrProof},
		{bookB(), 0, 2, false, api.ErrNone, api.ErrNone},
		{bookB(), 2, 0, false, api.ErrNone, api.ErrNone},
		{bookB(), 2, 2, false, api.ErrNone, api.ErrNone},
		{bookB(), -1, 0, false, api.ErrNone, api.ErrNone},
		{bookB(), 0, -1, false, api.ErrNone, api.ErrNone},
		{bookB(), 1 << 62, 0, false, api.ErrNone, api.ErrNone},
		{bookB(), 0, -1 << 63, false, api.ErrNone, api.ErrNone},
		{say(2), 0, 0, false, api.ErrNone, api.ErrNone},
		{say(4, "12", "13"), 0, 1, false, api.OK, api.OK},
		{say(5, "12", "34"), 0, 1, true, api.OK, api.ErrProof},  // nothing in common
		{say(5, "01", "34"), 0, 1, true, api.OK, api.ErrProof},  // one side in the other
		{say(5, "01", "012"), 0, 1, true, api.OK, api.ErrProof}, // both with article 0
		{say(5, "012", "34"), 0, 1, false, api.ErrTwice, api.ErrTwice},
		{say(5, "012", "234"), 0, 1, true, api.OK, api.ErrProof},
		{say(5, "012", "123"), 0, 1, false, api.OK, api.OK},
	} {
		is, e := class.Agree(x.b.articles, x.b.sides, x.i, x.j)
		f := class.Proves(x.b.articles, x.b.sides, x.i, x.j)
		if is != x.want || e != x.agree || f != x.prove {
			t.Errorf("Agree and Proves of %v, %d and %d: %v %d %d", x.b, x.i, x.j, is, e, f)
		}
	}
}

// P5.2, P5.3, M4
func TestAgreeAndProvesOfManyBooks(t *testing.T) {
	for _, b := range manyBooks(3) {
		for i, one := range b.sides {
			for j, other := range b.sides {
				want, proof := slowAgree(b.articles, one, other), api.OK
				if want {
					proof = api.ErrProof
				}
				is, e := class.Agree(b.articles, b.sides, i, j)
				if f := class.Proves(b.articles, b.sides, i, j); is != want || e != api.OK || f != proof {
					t.Errorf("Agree and Proves of %v, %d and %d: %v %d %d", b, i, j, is, e, f)
				}
			}
		}
	}
}

// P5.3
func TestWhy(t *testing.T) {
	for _, x := range []struct {
		b    book
		i, j int
		want api.Errno
	}{
		{bookB(), 0, 1, api.OK},
		{bookA(), 0, 0, api.ErrClash},
		{bookC(), 0, 0, api.ErrClash},
		{say(2), 0, 0, api.ErrClash},
		{say(4, "12"), 0, 0, api.ErrClash},
		{say(5, "34", "12", "23"), 0, 2, api.OK},
		{say(5, "4", "12", "02", "3"), 1, 2, api.OK},
		{say(5, "4", "12", "13", "23"), 1, 2, api.OK},
		{say(6, "45", "12", "13", "34"), 0, 3, api.OK}, // 1 and 2 come first by the greater index alone
	} {
		if i, j, e := class.Why(x.b.articles, x.b.sides); i != x.i || j != x.j || e != x.want {
			t.Errorf("Why of %v: %d %d %d, want %d %d %d", x.b, i, j, e, x.i, x.j, x.want)
		}
	}
	for _, b := range manyBooks(33) {
		want, code := [2]int{}, api.ErrClash
		if clashes := slowClashes(b); len(clashes) > 0 {
			want, code = clashes[0], api.OK
		}
		i, j, e := class.Why(b.articles, b.sides)
		if [2]int{i, j} != want || e != code {
			t.Errorf("Why of %v: %d %d %d, want %v %d", b, i, j, e, want, code)
		}
		if e == api.OK && class.Proves(b.articles, b.sides, i, j) != api.OK {
			t.Errorf("Why of %v: %d %d is not accepted", b, i, j)
		}
	}
}

// P5.6
func TestParted(t *testing.T) {
	for _, x := range []struct {
		b          book
		one, other int
		want       int
		e          api.Errno
	}{
		{bookA(), 0, 1, 2, api.OK},
		{bookA(), 1, 0, 2, api.OK},
		{bookA(), 1, 3, 3, api.OK},
		{bookA(), 2, 2, 0, api.OK},
		{bookB(), 0, 3, 2, api.OK}, // divisions need not agree
		{bookB(), 1, 3, 1, api.OK},
		{bookC(), 3, 4, 0, api.OK},
		{bookC(), 0, 4, 3, api.OK},
		{bookC(), 0, 5, 0, api.ErrNone},
		{bookC(), 5, 0, 0, api.ErrNone},
		{bookC(), 5, 5, 0, api.ErrNone},
		{bookC(), -1, 0, 0, api.ErrNone},
		{bookC(), 0, -1, 0, api.ErrNone},
		{bookC(), 1 << 62, 0, 0, api.ErrNone},
		{bookC(), 0, -1 << 63, 0, api.ErrNone},
		{say(2), 0, 1, 0, api.OK},
		{say(2), 0, 2, 0, api.ErrNone},
	} {
		if k, e := class.Parted(x.b.articles, x.b.sides, x.one, x.other); k != x.want || e != x.e {
			t.Errorf("Parted of %v, %d and %d: %d %d, want %d %d", x.b, x.one, x.other, k, e, x.want, x.e)
		}
	}
	for _, b := range manyBooks(6) {
		for one := range b.articles {
			for other := range b.articles {
				if k, e := class.Parted(b.articles, b.sides, one, other); k != slowParted(b, one, other) || e != api.OK {
					t.Errorf("Parted of %v, %d and %d: %d %d", b, one, other, k, e)
				}
			}
		}
	}
}

// P5.7
func TestPairs(t *testing.T) {
	for _, x := range []struct {
		b    book
		four []int
		want int
		e    api.Errno
	}{
		{bookA(), list(0, 1, 2, 3), 3, api.OK},
		{bookC(), list(0, 1, 3, 4), 1, api.OK},
		{bookC(), list(0, 1, 2, 3), 1, api.OK},
		{bookB(), list(0, 1, 2, 3), 0, api.ErrLost},
		{bookB(), list(0, 1, 2), 0, api.ErrShape},
		{say(4, "02"), list(0, 1, 2, 3), 2, api.OK},
		{say(4, "0", "1", "2", "3"), list(0, 1, 2, 3), 0, api.OK},
		{say(4), list(0, 1, 2, 3), 0, api.OK},
		{say(5, "01", "012", "02"), list(0, 1, 3, 4), 1, api.OK},      // two in the same way
		{say(5, "01", "012", "02"), list(0, 2, 3, 4), 1, api.OK},      // only the last two
		{say(5, "01", "012", "02"), list(0, 1, 2, 4), 0, api.ErrLost}, // only the first and the last one
		{say(5, "01", "012", "02"), list(1, 2, 3, 4), 1, api.OK},      // only the second one
		{say(8, "07", "0167"), list(0, 1, 6, 7), 3, api.OK},           // four on one side are not parted
		{say(8, "0167", "23"), list(0, 1, 6, 7), 0, api.OK},           // none on one side
		{say(4, "02", "01"), list(0, 1, 2, 3), 0, api.ErrLost},        // the greater number first
		{say(4, "03", "02", "01"), list(0, 1, 2, 3), 0, api.ErrLost},  // all three
		{bookB(), nil, 0, api.ErrShape},                               // the shape comes before the divisions
		{bookB(), list(0, 1, 2, 3, 4), 0, api.ErrShape},               // and before the numbers
		{bookB(), list(9, 9, 9), 0, api.ErrShape},
		{bookB(), list(0, 1, 2, 4), 0, api.ErrNone}, // the numbers come before the divisions
		{bookB(), list(-1, 0, 1, 2), 0, api.ErrNone},
		{bookB(), list(0, 2, 1, 9), 0, api.ErrOrder}, // the first number with an error counts
		{bookB(), list(0, 9, 2, 1), 0, api.ErrNone},
		{bookB(), list(0, 1, 1, 2), 0, api.ErrOrder},
		{bookB(), list(3, 2, 1, 0), 0, api.ErrOrder},
		{bookB(), list(0, 1, 2, -1), 0, api.ErrNone}, // no article comes before the order
		{bookB(), list(0, 1, 2, 1<<62), 0, api.ErrNone},
		{bookB(), list(-1<<63, 1, 2, 3), 0, api.ErrNone},
		{say(3, "1"), list(0, 1, 2, 3), 0, api.ErrNone}, // there are not four articles
		{say(3, "1"), list(0, 1, 2, 2), 0, api.ErrOrder},
		{say(4, "01"), long(0), 0, api.ErrShape},
		{say(8, "4567", "45"), list(4, 5, 6, 7), 1, api.OK},
		{say(8, "0145", "4567", "0246"), list(4, 5, 6, 7), 0, api.ErrLost}, // told by others, too
	} {
		if k, e := class.Pairs(x.b.articles, x.b.sides, x.four); k != x.want || e != x.e {
			t.Errorf("Pairs of %v, %.5v: %d %d, want %d %d", x.b, x.four, k, e, x.want, x.e)
		}
	}
}

// P5.7
func TestPairsOfManyBooks(t *testing.T) {
	found := [5]int{}
	for _, b := range manyBooks(7) {
		for _, four := range fours(b.articles) {
			ways, want, code := slowPairs(b, four), 0, api.OK
			if len(ways) > 1 {
				code = api.ErrLost
				found[4]++
			} else {
				want = slices.Max(append(ways, 0))
				found[want]++
			}
			if k, e := class.Pairs(b.articles, b.sides, four); k != want || e != code {
				t.Errorf("Pairs of %v, %v: %d %d, want %d %d", b, four, k, e, want, code)
			}
		}
	}
	if slices.Min(found[:]) == 0 {
		t.Errorf("results 0 to 3, and errors: %v", found)
	}
}
