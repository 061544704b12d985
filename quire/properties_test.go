package quire_test

import (
	"reflect"
	"slices"
	"strings"
	"testing"

	"headword/api"
	"headword/quire"
)

// creasesOf returns the creases of folds that have no error.
func creasesOf(t *testing.T, folds string) string {
	t.Helper()
	creases, e := quire.Creases(folds)
	if e != api.OK || len(creases) != 1<<len(folds)-1 {
		t.Fatalf("Creases of %q: %q %d", folds, creases, e)
	}
	return creases
}

// pileOf returns the pile of folds that have no error.
func pileOf(t *testing.T, folds string) []int {
	t.Helper()
	pile, e := quire.Pile(folds)
	if e != api.OK || len(pile) != 1<<len(folds) {
		t.Fatalf("Pile of %q: %v %d", folds, pile, e)
	}
	return pile
}

// P3.8
func TestNoLaneTwice(t *testing.T) {
	for _, folds := range allFolds() {
		if got := asPair(quire.Lanes(creasesOf(t, folds))); got != (pair{0, 0, api.ErrClash}) {
			t.Errorf("Lanes of the creases of %q: %v", folds, got)
		}
	}
}

// P3.9
func TestClashes(t *testing.T) {
	folded := 0
	for _, creases := range manyCreases(9) {
		folds, e := quire.Folds(creases)
		why := asPair(quire.Why(creases))
		if (e == api.OK) != (why.e == api.ErrClash) {
			t.Errorf("Folds of %q: %q %d, Why: %v", creases, folds, e, why)
		}
		if e == api.OK {
			folded++
		} else if f := quire.Proves(creases, why.i, why.j); f != api.OK {
			t.Errorf("Proves of %q: %v: %d", creases, why, f)
		}
	}
	if folded == 0 {
		t.Errorf("no creases were folded")
	}
}

// P3.10
func TestMirror(t *testing.T) {
	for _, folds := range allFolds() {
		creases := creasesOf(t, folds)
		for i := range len(creases) {
			mirror := len(creases) - 1 - i
			if same := creases[i] == creases[mirror]; same != (i == mirror) {
				t.Errorf("Creases of %q: %q, those at %d and %d are the same: %v", folds, creases, i, mirror, same)
			}
		}
	}
}

// P3.11
func TestOneFoldMore(t *testing.T) {
	for _, folds := range textsUpTo(quire.MaxFolds-1, "ou") {
		before := creasesOf(t, folds)
		for way, turns := range map[string]string{"o": "vh", "u": "hv"} {
			creases := creasesOf(t, folds+way)
			want := ""
			for i := range 1 << len(folds) {
				want += turns[i%2 : i%2+1]
				if i < len(before) {
					want += before[i : i+1]
				}
			}
			if creases != want {
				t.Errorf("Creases of %q: %q, of %q: %q, want %q", folds, before, folds+way, creases, want)
			}
		}
	}
}

// P3.12
func TestPairs(t *testing.T) {
	for _, folds := range allFolds() {
		pile := pileOf(t, folds)
		if len(pile) > 1 {
			for place := 0; place < len(pile); place += 2 {
				if pile[place]+pile[place+1] != len(pile)-1 {
					t.Errorf("Pile of %q: %v; at %d lie %d and %d", folds, pile, place, pile[place], pile[place+1])
				}
			}
		}
		upper, lower, e := quire.Pages(folds)
		if e != api.OK {
			t.Fatalf("Pages of %q: %d", folds, e)
		}
		pages := slices.Concat(upper, lower)
		slices.Sort(pages)
		for i, page := range pages {
			if page != i+1 || len(pages) != 2*len(pile) {
				t.Fatalf("Pages of %q: %v %v", folds, upper, lower)
			}
		}
		for square, page := range upper {
			if (page%2 == 1) != (square%2 == 0) {
				t.Errorf("Pages of %q: the upper side of %d has page %d", folds, square, page)
			}
			if page%2 == 1 && lower[square] != page+1 || page%2 == 0 && lower[square] != page-1 {
				t.Errorf("Pages of %q: square %d has the pages %d and %d", folds, square, page, lower[square])
			}
		}
	}
}

// P3.13
func TestThereAndBack(t *testing.T) {
	creasesSeen, pilesSeen := map[string]string{}, map[string]string{}
	for _, folds := range allFolds() {
		creases, pile := creasesOf(t, folds), pileOf(t, folds)
		if got := asText(quire.Folds(creases)); got != (text{folds, api.OK}) {
			t.Errorf("Folds of the creases of %q: %v", folds, got)
		}
		if got := asText(quire.Folded(pile)); got != (text{folds, api.OK}) {
			t.Errorf("Folded of the pile of %q: %v", folds, got)
		}
		if other, is := creasesSeen[creases]; is {
			t.Errorf("%q and %q have the same creases", folds, other)
		}
		if other, is := pilesSeen[bytesOf(pile)]; is {
			t.Errorf("%q and %q have the same pile", folds, other)
		}
		creasesSeen[creases], pilesSeen[bytesOf(pile)] = folds, folds
	}
}

// P3.14
func TestHowFar(t *testing.T) {
	for _, folds := range allFolds() {
		end := asPair(quire.End(folds))
		if end.i*end.i+end.j*end.j != 1<<len(folds) || end.e != api.OK {
			t.Errorf("End of %q: %v", folds, end)
		}
		if walk, e := quire.Walk(creasesOf(t, folds)); walk[len(walk)-1] != [2]int{end.i, end.j} || e != api.OK {
			t.Errorf("End of %q: %v, Walk: %v %d", folds, end, walk, e)
		}
	}
}

// P3.15
func TestOtherNames(t *testing.T) {
	for _, folds := range allFolds() {
		other := exchange(folds, "ou")
		if creases, same := creasesOf(t, folds), creasesOf(t, other); same != exchange(creases, "vh") {
			t.Errorf("Creases of %q: %q, of %q: %q", folds, creases, other, same)
		}
		pile, opposite := pileOf(t, folds), pileOf(t, other)
		slices.Reverse(opposite)
		if !slices.Equal(pile, opposite) {
			t.Errorf("Pile of %q: %v, opposite of that of %q: %v", folds, pile, other, opposite)
		}
	}
}

// callAll calls all functions and returns their results, each one with its error behind it.
func callAll(folds, creases string, pile []int, i, j int) []any {
	var results []any
	squares, e := quire.Pile(folds)
	results = append(results, slices.Clone(squares), e)
	upper, lower, e := quire.Pages(folds)
	results = append(results, slices.Concat(upper, lower), e)
	made, e := quire.Creases(folds)
	results = append(results, made, e)
	x, y, e := quire.End(folds)
	results = append(results, [2]int{x, y}, e)
	found, e := quire.Folds(creases)
	results = append(results, found, e)
	one, other, e := quire.Why(creases)
	results = append(results, [2]int{one, other}, e)
	again, e := quire.Folded(pile)
	results = append(results, again, e)
	walk, e := quire.Walk(creases)
	results = append(results, slices.Clone(walk), e)
	one, other, e = quire.Lanes(creases)
	results = append(results, [2]int{one, other}, e)
	results = append(results, 0, quire.Check(folds), 0, quire.Proves(creases, i, j))
	// A later call must not see what is done to the results of an earlier one, nor one result what is done to another (R4).
	scratch(upper, -1)
	if slices.Contains(lower, -1) {
		results = append(results, "upper and lower share memory", api.ErrTorn)
	}
	scratch(squares, -1)
	scratch(lower, -1)
	scratch(walk, [2]int{-1, -1})
	return results
}

func scratch[T any](list []T, x T) {
	for i := range list[:cap(list)] {
		list[:cap(list)][i] = x
	}
}

// P1, R2, R4: each function returns for all arguments, the same for equal ones, zero values besides an error; arguments stay.
func TestAllArguments(t *testing.T) {
	texts := []string{"", "o", "uoo", "ououou", "ooooooo", "v", "vvh", "vvv", "vvvv", strings.Repeat("h", 63), strings.Repeat("h", 64), slowCreases("uouuoo"), "x", "O", "é", "\xff\xfe", "\x00", "o\nu", strings.Repeat("v", 5000)}
	ints := []int{-1 << 63, -1, 0, 1, 2, 3, 62, 63, 64, 1<<63 - 1}
	piles := [][]int{nil, {}, {0}, {1, 0}, {0, 1, 2}, {0, 1, 2, 3}, {3, 0, 1, 2}, slowPile("uouuoo"), {0, 0}, {-1 << 63}, {1<<63 - 1, 0}, make([]int, 64), make([]int, 65), make([]int, 5000)}
	for _, text := range texts {
		for _, pile := range piles {
			before := slices.Clone(pile)
			for _, i := range ints {
				for _, j := range ints {
					results := callAll(text, text, pile, i, j)
					if again := callAll(text, text, pile, i, j); !reflect.DeepEqual(results, again) {
						t.Errorf("%.20q, %.20v, %d, %d: %v, then %v", text, pile, i, j, results, again)
					}
					examineErrors(t, results)
				}
			}
			if !slices.Equal(pile, before) {
				t.Errorf("Folded changed its pile to %v", pile)
			}
		}
	}
}

// examineErrors examines that besides each error there is a zero value.
func examineErrors(t *testing.T, results []any) {
	t.Helper()
	for i := 0; i < len(results); i += 2 {
		v := reflect.ValueOf(results[i])
		zero := v.IsZero() || v.Kind() == reflect.Slice && v.Len() == 0
		if results[i+1] != api.OK && !zero {
			t.Errorf("result %d: %v besides the error %v", i, results[i], results[i+1])
		}
	}
}
