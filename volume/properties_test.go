package volume_test

import (
	"math/rand"
	"slices"
	"testing"

	"headword/api"
	"headword/volume"
)

// fewest returns the ends of Fewest, none if no cut holds.
func fewest(t *testing.T, b volume.Book) []int {
	t.Helper()
	ends, e := volume.Fewest(b)
	if e != api.OK && e != api.ErrLost || (e == api.OK) != (len(ends) > 0) {
		t.Fatalf("Fewest of %v: %v %d", b, ends, e)
	}
	return ends
}

func level(t *testing.T, b volume.Book, volumes int) int {
	t.Helper()
	n, e := volume.Level(b, volumes)
	if e != api.OK {
		t.Fatalf("Level of %v, %d: %d", b, volumes, e)
	}
	return n
}

func count(t *testing.T, b volume.Book) int {
	t.Helper()
	n, e := volume.Count(b)
	if e != api.OK {
		t.Fatalf("Count of %v: %d", b, e)
	}
	return n
}

// holds reports whether Holds accepts a cut.
func holds(t *testing.T, b volume.Book, ends []int) bool {
	t.Helper()
	e := volume.Holds(b, ends)
	if e != api.OK && e != api.ErrOver {
		t.Fatalf("Holds of %v, %v: %d", b, ends, e)
	}
	return e == api.OK
}

// P10.8
func TestStretchesProveTheFewest(t *testing.T) {
	for _, b := range append(manyBooks(12), drawBooks(13, 200)...) {
		ends := fewest(t, b)
		if len(ends) == 0 {
			continue
		}
		if row := slowRow(b); len(ends) != len(row)+1 {
			t.Errorf("Fewest of %v is %v, but %v are in a row", b, ends, row)
		}
		why, e := volume.Why(b)
		if e != api.OK && (e != api.ErrClash || len(ends) > 1) {
			t.Errorf("Why of %v: %d, the fewest are %v", b, e, ends)
		}
		// All stretches of Why are needed, and with one volume more they are not enough.
		for volumes := 1; volumes <= len(ends)+1; volumes++ {
			want := api.OK
			if volumes > len(ends) {
				want = api.ErrProof
			}
			examineProves(t, b, volumes, why, want)
		}
		if len(why) > 0 {
			examineProves(t, b, len(ends), why[1:], api.ErrProof)
			examineProves(t, b, len(ends), why[:len(why)-1], api.ErrProof)
		}
	}
}

// P10.9
func TestFewestIsAhead(t *testing.T) {
	for _, b := range append(manyBooks(14), drawBooks(15, 200)...) {
		ends := fewest(t, b)
		for _, other := range cutsOf(b) {
			if !holds(t, b, other) {
				continue
			}
			if len(other) < len(ends) || len(ends) == 0 {
				t.Errorf("Fewest of %v is %v, but %v holds", b, ends, other)
			}
			for i := range ends {
				if ends[i] < other[i] {
					t.Errorf("Fewest of %v is %v, but %v is ahead", b, ends, other)
				}
			}
		}
	}
}

// roomy returns a book with other room and no floor.
func roomy(b volume.Book, room int) volume.Book { return withRoom(b, room, 0) }

// P10.10
func TestLevelIsTheRoom(t *testing.T) {
	found := [2]int{}
	books := append(drawBooks(16, 300), edgeBooks()...)
	for _, l := range fewArticles() {
		books = append(books, volume.Book{Articles: l, Room: 1})
	}
	for _, b := range books {
		longest, all := 0, 0
		for _, a := range b.Articles {
			longest, all = max(longest, a.Most), all+a.Most
		}
		n := len(b.Articles)
		if one, each := level(t, b, 1), level(t, b, n); one != all || each != longest {
			t.Errorf("%v: the levels of 1 and %d are %d, %d, want %d, %d", b, n, one, each, all, longest)
		}
		for volumes := 1; volumes <= n; volumes++ {
			least := level(t, b, volumes)
			if volumes > 1 && level(t, b, volumes-1) < least {
				t.Errorf("%v: the level of %d is greater than that of one less", b, volumes)
			}
			for room := 1; room <= volume.MaxRoom; room++ {
				many := len(fewest(t, roomy(b, room)))
				isEnough := many > 0 && many <= volumes
				if isEnough != (room >= least) {
					t.Errorf("%v: the level of %d is %d, but with room for %d there are %d", b, volumes, least, room, many)
				}
				if isEnough {
					found[1]++
				} else {
					found[0]++
				}
			}
		}
	}
	if slices.Min(found[:]) < 1000 {
		t.Errorf("so often the room is not enough, and is: %v", found)
	}
}

// lengthsOf returns all lengths that articles can have.
func lengthsOf(l []volume.Article) [][]int {
	all := lists(nil)
	for _, a := range l {
		var longer [][]int
		for _, lengths := range all {
			for length := a.Least; length <= a.Most; length++ {
				longer = append(longer, append(slices.Clone(lengths), length))
			}
		}
		all = longer
	}
	return all
}

// drawWide returns books with few articles, whose lengths are so few that they can all be tried.
func drawWide(seed int64, many int) []volume.Book {
	r := rand.New(rand.NewSource(seed))
	var books []volume.Book
	for range many {
		b := drawBook(r, 1+r.Intn(5))
		for i := range b.Articles {
			b.Articles[i].Most = min(b.Articles[i].Most, b.Articles[i].Least+3)
		}
		books = append(books, b)
	}
	return books
}

// burst returns, for each volume of a cut, whether it has more lines than there is room for with some lengths, and with all.
func burst(b volume.Book, ends []int) (can, must []bool) {
	for number := range ends {
		numbers := slowVolume(ends, number)
		can, must = append(can, false), append(must, true)
		for _, lengths := range lengthsOf(b.Articles[numbers[0] : numbers[len(numbers)-1]+1]) {
			together := 0
			for _, length := range lengths {
				together += length
			}
			if together > b.Room {
				can[number] = true
			} else {
				must[number] = false
			}
		}
	}
	return can, must
}

// P10.11
func TestAllLengths(t *testing.T) {
	found := [3]int{}
	for _, b := range slices.Concat(fewBooks(), drawWide(17, 300), []volume.Book{bookA(), bookB()}) {
		if b.Floor > 1 { // the floor does not matter here
			continue
		}
		for _, ends := range cutsOf(b) {
			can, must := burst(b, ends)
			first, last := slices.Index(can, true), slices.Index(must, true)
			examineBurst(t, b, ends, first, last)
			if is := holds(t, b, ends); is != (first < 0) {
				t.Errorf("%v, %v: it holds: %t, but these can burst: %v", b, ends, is, can)
			}
			switch {
			case first < 0:
				found[0]++
			case last < 0:
				found[1]++
			default:
				found[2]++
			}
		}
	}
	if slices.Min(found[:]) < 500 {
		t.Errorf("so often no volume can burst, one can, and one must: %v", found)
	}
}

// P10.12
func TestSafeCutsAreOfThoseThatHold(t *testing.T) {
	found := map[string]int{}
	for _, b := range append(manyBooks(18), drawBooks(19, 300)...) {
		ends := fewest(t, b)
		holding := 0
		for _, other := range cutsOf(b) {
			is, e := holds(t, b, other), volume.Safe(b, other)
			if is {
				holding++
			}
			if e == api.OK && (!is || len(other) < len(ends)) || b.Floor < 2 && is != (e == api.OK) {
				t.Errorf("Safe of %v, %v: %d, it holds: %t, the fewest are %v", b, other, e, is, ends)
			}
		}
		cut, e := volume.Cut(b)
		switch {
		case e == api.OK:
			found["safe"]++
			if volume.Safe(b, cut) != api.OK || len(cut) < len(ends) || len(ends) == 0 {
				t.Errorf("Cut of %v: %v, the fewest are %v", b, cut, ends)
			}
		case len(ends) > 0:
			found["none is safe"]++
		}
		n := count(t, b)
		if (n > 0) != (e == api.OK) || n > holding {
			t.Errorf("%v: Cut is %v %d, Count %d, and %d cuts hold", b, cut, e, n, holding)
		}
		if b.Floor < 2 && (n != holding || len(cut) != len(ends)) {
			t.Errorf("%v: Cut is %v, Count %d, %d cuts hold, and the fewest are %v", b, cut, n, holding, ends)
		}
	}
	if found["safe"] < 1000 || found["none is safe"] < 1000 {
		t.Errorf("so often a cut is safe: %v", found)
	}
}

// opposite returns a book whose articles come in the opposite order.
func opposite(b volume.Book) volume.Book {
	l := slices.Clone(b.Articles)
	slices.Reverse(l)
	return withArticles(b, l)
}

// oppositeEnds returns the ends of the same volumes, if articles come in the opposite order.
func oppositeEnds(ends []int) []int {
	n := ends[len(ends)-1]
	var turned []int
	for _, end := range slices.Backward(ends[:len(ends)-1]) {
		turned = append(turned, n-end)
	}
	return append(turned, n)
}

// P10.13
func TestOppositeOrder(t *testing.T) {
	for _, b := range append(manyBooks(20), drawBooks(21, 300)...) {
		other := opposite(b)
		if one, turned := fewest(t, b), fewest(t, other); len(one) != len(turned) {
			t.Errorf("Fewest of %v: %v, in the opposite order %v", b, one, turned)
		}
		for volumes := 1; volumes <= len(b.Articles); volumes++ {
			if one, turned := level(t, b, volumes), level(t, other, volumes); one != turned {
				t.Errorf("Level of %v, %d: %d, in the opposite order %d", b, volumes, one, turned)
			}
		}
		if one, turned := count(t, b), count(t, other); one != turned {
			t.Errorf("Count of %v: %d, in the opposite order %d", b, one, turned)
		}
		for _, ends := range someCuts(b) {
			if one, turned := volume.Safe(b, ends), volume.Safe(other, oppositeEnds(ends)); one != turned {
				t.Errorf("Safe of %v, %v: %d, in the opposite order %d", b, ends, one, turned)
			}
		}
	}
}

// P10.14
func TestLimitsOfArticles(t *testing.T) {
	found := [2]int{}
	for _, b := range append(drawBooks(22, 300), edgeBooks()...) {
		for _, ends := range someCuts(b) {
			for number := range ends {
				numbers := slowVolume(ends, number)
				_, most := slowLines(b, numbers)
				for _, article := range numbers {
					limit, e := volume.Limit(b, ends, article)
					can := b.Articles[article].Most <= limit
					if e != api.OK || can != (most <= b.Room) {
						t.Errorf("Limit of %v, %v, %d: %d %d", b, ends, article, limit, e)
					}
					if can {
						found[1]++
					} else {
						found[0]++
					}
				}
			}
			if all := volume.Holds(b, ends) == api.OK; all != allWithin(t, b, ends) {
				t.Errorf("%v, %v: it holds: %t", b, ends, all)
			}
		}
	}
	if slices.Min(found[:]) < 1000 {
		t.Errorf("so often an article cannot have its Most lines, and can: %v", found)
	}
}

// allWithin reports whether each article can have its Most lines.
func allWithin(t *testing.T, b volume.Book, ends []int) bool {
	t.Helper()
	for article, a := range b.Articles {
		limit, e := volume.Limit(b, ends, article)
		if e != api.OK {
			t.Fatalf("Limit of %v, %v, %d: %d", b, ends, article, e)
		}
		if a.Most > limit {
			return false
		}
	}
	return true
}

// P10.15
func TestLineMore(t *testing.T) {
	found := [3]int{}
	for _, b := range append(manyBooks(23), drawBooks(24, 500)...) {
		ends := fewest(t, b)
		if len(ends) == 0 {
			continue
		}
		for article := range b.Articles {
			more := clone(b)
			more.Articles[article].Least++
			more.Articles[article].Most++
			if volume.Check(more) != api.OK {
				continue
			}
			other := fewest(t, more)
			switch len(other) {
			case 0:
				found[2]++
				if more.Articles[article].Most <= b.Room {
					t.Errorf("Fewest of %v is %v, that of %v none", b, ends, more)
				}
			case len(ends), len(ends) + 1:
				found[len(other)-len(ends)]++
			default:
				t.Errorf("Fewest of %v is %v, that of %v is %v", b, ends, more, other)
			}
		}
	}
	if slices.Min(found[:]) < 500 {
		t.Errorf("so often as many volumes are needed, one more, and none hold: %v", found)
	}
}
