package line_test

import (
	"math/rand"
	"slices"
	"testing"

	"headword/api"
	"headword/line"
)

func examineFull(t *testing.T, x line.Text, want []int) {
	t.Helper()
	if ends, e := line.Full(x); !slices.Equal(ends, want) || e != api.OK {
		t.Errorf("Full of %v: %v %d, want %v", x, ends, e, want)
	}
}

// P13.4
func TestFull(t *testing.T) {
	for _, x := range []struct {
		line.Text
		want []int
	}{
		{textA(), list(2, 4, 5)},
		{textB(), list(2, 3, 4)},
		{textC(), list(3, 6)},
		{text(1, 1), list(1)},
		{text(40, 1, 39), list(1, 2)}, // too long by the blank
		{text(40, 1, 38), list(2)},
		{text(9, 2, 2, 3, 4, 2, 3, 3), list(3, 5, 7)},
		{text(15, 10, 4, 3, 11, 3, 2, 10, 2), list(2, 4, 6, 8)},
		{flat(40, 10, 1), list(10)},
		{flat(19, 10, 1), list(10)},
		{flat(18, 10, 1), list(9, 10)},
		{flat(4, 10, 1), list(2, 4, 6, 8, 10)},
		{flat(5, 10, 1), list(3, 6, 9, 10)},
		{flat(1, 10, 1), list(1, 2, 3, 4, 5, 6, 7, 8, 9, 10)},
		{flat(40, 10, 40), list(1, 2, 3, 4, 5, 6, 7, 8, 9, 10)},
	} {
		examineFull(t, x.Text, x.want)
	}
}

// P13.4, M3
func TestFullOfManyTexts(t *testing.T) {
	for _, x := range append(manyTexts(11), drawTexts(12, 300)...) {
		examineFull(t, x, slowFull(x))
	}
}

func examineGrow(t *testing.T, x line.Text, ends []int, word, by int, want []int, at int, e api.Errno) {
	t.Helper()
	if grown, n, f := line.Grow(x, ends, word, by); !slices.Equal(grown, want) || n != at || f != e {
		t.Errorf("Grow of %v, %v, %d, %d: %v %d %d, want %v %d %d", x, ends, word, by, grown, n, f, want, at, e)
	}
}

// P13.8, R1, R2
func TestGrow(t *testing.T) {
	seven := text(9, 2, 2, 3, 4, 2, 3, 3)
	for _, x := range []struct {
		line.Text
		ends     []int
		word, by int
		want     []int
		at       int
		e        api.Errno
	}{
		{textB(), list(1, 3, 4), 1, 1, list(1, 3, 4), 1, 0},
		{textB(), list(1, 3, 4), 1, 2, list(1, 2, 3, 4), 3, 0}, // the third line is full and runs over, too
		{textB(), list(1, 3, 4), 0, 3, list(1, 3, 4), 0, 0},
		{textB(), list(1, 3, 4), 3, 1, list(1, 3, 4), 2, 0},
		{textB(), list(1, 3, 4), 3, 2, nil, 0, api.ErrLost},
		{textA(), list(2, 4, 5), 0, 4, list(1, 3, 5), 2, 0},
		{textA(), list(2, 4, 5), 4, 5, list(2, 4, 5), 2, 0},
		{seven, list(3, 5, 7), 0, 2, list(2, 4, 6, 7), 3, 0},
		{seven, list(3, 5, 7), 4, 3, list(3, 4, 6, 7), 3, 0},
		{seven, list(3, 5, 7), 6, 6, list(3, 5, 6, 7), 3, 0}, // a new line behind the last one
		{seven, list(3, 5, 7), 0, 7, list(1, 3, 5, 7), 3, 0}, // two words run over
		{seven, list(1, 2, 3, 4, 5, 6, 7), 2, 4, list(1, 2, 3, 4, 5, 6, 7), 2, 0},
		{seven, list(1, 2, 3, 4, 5, 6, 7), 6, 6, list(1, 2, 3, 4, 5, 6, 7), 6, 0},
		{textC(), list(3, 6), 5, 5, list(3, 5, 6), 2, 0},
		{textC(), list(3, 6), 0, 1, list(3, 6), 0, 0}, // just as long as the width
		{textC(), list(3, 6), 0, 2, list(2, 5, 6), 2, 0},
		{textC(), list(3, 6), 1, 5, list(1, 2, 5, 6), 3, 0}, // the word itself runs over
		{textC(), list(2, 4, 6), 0, 4, list(1, 4, 6), 1, 0}, // the next line has room
		{flat(2, 3, 1), list(1, 2, 3), 1, 1, list(1, 2, 3), 1, 0},
		{flat(19, 10, 1), list(10), 0, 18, list(1, 10), 1, 0},
		{flat(19, 10, 1), list(10), 9, 18, list(9, 10), 1, 0},
		{flat(19, 10, 1), list(10), 4, 1, list(9, 10), 1, 0},
		{flat(3, 10, 1), list(2, 4, 6, 8, 10), 0, 1, list(1, 3, 5, 7, 9, 10), 5, 0},
		{text(40, 1), list(1), 0, 39, list(1), 0, 0},
		{text(40, 1), list(1), 0, 40, nil, 0, api.ErrLost},
		{text(40, 1), list(1), 0, 41, nil, 0, api.ErrRange}, // the range comes before what is lost
		{text(1, 1), list(1), 0, 1, nil, 0, api.ErrLost},
		{textB(), list(1, 3, 4), 0, 4, nil, 0, api.ErrLost},
		{textB(), list(1, 3, 4), 0, 40, nil, 0, api.ErrLost},
		{textB(), list(1, 3, 4), 0, 41, nil, 0, api.ErrRange},
		{textB(), list(1, 3, 4), 0, 0, nil, 0, api.ErrRange},
		{textB(), list(1, 3, 4), 0, -1, nil, 0, api.ErrRange},
		{textB(), list(1, 3, 4), 0, 1<<63 - 1, nil, 0, api.ErrRange},
		{textB(), list(1, 3, 4), 0, -1 << 63, nil, 0, api.ErrRange},
		{textB(), list(1, 3, 4), 4, 1, nil, 0, api.ErrNone},
		{textB(), list(1, 3, 4), 4, 41, nil, 0, api.ErrNone}, // the word comes before the range
		{textB(), list(1, 3, 4), -1, 0, nil, 0, api.ErrNone},
		{textB(), list(1, 3, 4), 1<<63 - 1, 1, nil, 0, api.ErrNone},
		{textB(), list(1, 3, 4), -1 << 63, 1, nil, 0, api.ErrNone},
		{textB(), list(4), 9, 9, nil, 0, api.ErrOver}, // the ends come before the word
		{textB(), list(4), 3, 2, nil, 0, api.ErrOver},
		{textB(), list(1), 9, 0, nil, 0, api.ErrShape},
		{textB(), nil, -1, -1, nil, 0, api.ErrShape},
		{textB(), list(1, 1), -1, 1, nil, 0, api.ErrOrder},
		{textB(), list(5), 0, 41, nil, 0, api.ErrNone},
	} {
		examineGrow(t, x.Text, x.ends, x.word, x.by, x.want, x.at, x.e)
	}
}

// examineOneGrow compares Grow with what it is to return, and tells how many lines are new, and whether words run over.
func examineOneGrow(t *testing.T, x line.Text, ends []int, word, by int) (e api.Errno, more int, moved bool) {
	t.Helper()
	grown, at, e := slowGrow(x, ends, word, by)
	examineGrow(t, x, ends, word, by, grown, at, e)
	return e, len(grown) - len(ends), !slices.Equal(grown, ends)
}

// P13.8: all words, all lengths and all ends.
func TestGrowOfSmallTexts(t *testing.T) {
	found := map[api.Errno]int{}
	news := map[int]int{}
	for _, x := range fewTexts() {
		if x.Width > 5 {
			continue
		}
		for _, ends := range slowFitting(x) {
			for word := -1; word <= len(x.Words); word++ {
				for by := -1; by <= x.Width; by++ {
					e, more, _ := examineOneGrow(t, x, ends, word, by)
					found[e]++
					if e == api.OK {
						news[more]++
					}
				}
			}
		}
	}
	examineFound(t, found, 1000, api.OK, api.ErrNone, api.ErrRange, api.ErrLost)
	if news[0] < 1000 || news[1] < 1000 || news[2] < 10 {
		t.Errorf("so often there are new lines: %v", news)
	}
}

// P13.8
func TestGrowOfManyTexts(t *testing.T) {
	r := rand.New(rand.NewSource(13))
	found := map[bool]int{}
	for _, x := range slices.Concat(drawTexts(14, 500), edgeTexts(), longerTexts(), tiedTexts()) {
		all := append(slowFitting(x), slowFull(x), slowFull(x))
		for range 40 {
			ends, word := all[r.Intn(len(all))], r.Intn(len(x.Words))
			by := 1 + r.Intn(x.Width-x.Words[word]+2)
			_, _, moved := examineOneGrow(t, x, ends, word, by)
			found[moved]++
		}
	}
	if found[false] < 1000 || found[true] < 1000 {
		t.Errorf("so often words run over: %v", found)
	}
}
