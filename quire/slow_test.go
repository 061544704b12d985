package quire_test

import (
	"math/rand"
	"slices"
	"strings"

	"headword/api"
	"headword/quire"
)

// The functions here follow the definitions square by square, and try all folds: the tests compare the package with them.

// text holds a result and its error, so that both are compared at once.
type text struct {
	s string
	e api.Errno
}

// pair holds two numbers and their error.
type pair struct {
	i, j int
	e    api.Errno
}

func asText(s string, e api.Errno) text         { return text{s, e} }
func asPair(i, j int, e api.Errno) pair         { return pair{i, j, e} }
func errorOf[T any](_ T, e api.Errno) api.Errno { return e }

func list(l ...int) []int { return l }

// textsOf returns all strings of so many letters, each of them one of two.
func textsOf(size int, letters string) []string {
	all := []string{""}
	for range size {
		var longer []string
		for _, s := range all {
			longer = append(longer, s+letters[:1], s+letters[1:])
		}
		all = longer
	}
	return all
}

// textsUpTo returns all strings of at most so many letters.
func textsUpTo(most int, letters string) []string {
	var all []string
	for size := range most + 1 {
		all = append(all, textsOf(size, letters)...)
	}
	return all
}

// allFolds returns all folds.
func allFolds() []string { return textsUpTo(quire.MaxFolds, "ou") }

// lying is how a square lies: in which column, in which place from its top, and whether it is turned.
type lying struct {
	column, place int
	turned        bool
}

// follow returns how a square lies at first, and after each fold.
func follow(folds string, square int) []lying {
	now := lying{column: square}
	all := []lying{now}
	for i := range len(folds) {
		left, high := 1<<(len(folds)-1-i), 1<<i
		isRight := now.column >= left
		if isRight {
			now = lying{2*left - 1 - now.column, high - 1 - now.place, !now.turned}
		}
		// The other half comes on top.
		if isRight == (folds[i] == 'u') {
			now.place += high
		}
		all = append(all, now)
	}
	return all
}

// last returns how a square lies in the pile.
func last(folds string, square int) lying {
	all := follow(folds, square)
	return all[len(all)-1]
}

func slowPile(folds string) []int {
	pile := make([]int, 1<<len(folds))
	for square := range pile {
		pile[last(folds, square).place] = square
	}
	return pile
}

func slowPages(folds string) (upper, lower []int) {
	for square := range 1 << len(folds) {
		at := last(folds, square)
		above, beneath := 2*at.place+1, 2*at.place+2
		if at.turned {
			above, beneath = beneath, above
		}
		upper, lower = append(upper, above), append(lower, beneath)
	}
	return upper, lower
}

func slowCreases(folds string) string {
	creases := ""
	for square := range 1<<len(folds) - 1 {
		one, other := follow(folds, square), follow(folds, square+1)
		fold := 0
		for one[fold+1].column != other[fold+1].column {
			fold++
		}
		crease := map[byte]string{'o': "v", 'u': "h"}[folds[fold]]
		if one[fold].turned {
			crease = map[byte]string{'o': "h", 'u': "v"}[folds[fold]]
		}
		creases += crease
	}
	return creases
}

// foldsByCreases returns all folds under their creases.
func foldsByCreases() map[string]string {
	all := map[string]string{}
	for _, folds := range allFolds() {
		all[slowCreases(folds)] = folds
	}
	return all
}

// bytesOf returns a pile as a string, so that it can be a key.
func bytesOf(pile []int) string {
	var key []byte
	for _, square := range pile {
		key = append(key, byte(square))
	}
	return string(key)
}

// foldsByPile returns all folds under the bytes of their piles.
func foldsByPile() map[string]string {
	all := map[string]string{}
	for _, folds := range allFolds() {
		all[bytesOf(slowPile(folds))] = folds
	}
	return all
}

// slowClash reports whether two creases clash.
func slowClash(creases string, i, j int) bool {
	for power := 1; power <= 64; power *= 2 {
		if (i+1)%power != 0 || (j+1)%power != 0 {
			continue
		}
		p, q := (i+1)/power, (j+1)/power
		if p%2 == 0 || q%2 == 0 {
			continue
		}
		if divided := (p-q)%4 == 0; divided {
			return creases[i] != creases[j]
		}
		return creases[i] == creases[j]
	}
	return false
}

// slowWhy returns the first two creases that clash.
func slowWhy(creases string) pair {
	for i := range len(creases) {
		for j := i + 1; j < len(creases); j++ {
			if slowClash(creases, i, j) {
				return pair{i, j, api.OK}
			}
		}
	}
	return pair{0, 0, api.ErrClash}
}

// slowWalk finds the direction of each step by a number, of which each turn to the left adds one.
func slowWalk(creases string) [][2]int {
	at, number := [2]int{1, 0}, 0
	points := [][2]int{{0, 0}, at}
	for _, crease := range creases {
		number += map[rune]int{'v': 1, 'h': 3}[crease]
		ways := [4][2]int{{1, 0}, {0, 1}, {-1, 0}, {0, -1}}
		at[0] += ways[number%4][0]
		at[1] += ways[number%4][1]
		points = append(points, at)
	}
	return points
}

// slowLanes tells lanes by their middles, twice as far out.
func slowLanes(points [][2]int) pair {
	var middles [][2]int
	for i := 1; i < len(points); i++ {
		middles = append(middles, [2]int{points[i-1][0] + points[i][0], points[i-1][1] + points[i][1]})
	}
	for i, middle := range middles {
		if j := slices.Index(middles[i+1:], middle); j >= 0 {
			return pair{i, i + 1 + j, api.OK}
		}
	}
	return pair{0, 0, api.ErrClash}
}

// drawText returns a string of so many letters, each of them one of two.
func drawText(r *rand.Rand, size int, letters string) string {
	s := ""
	for range size {
		at := r.Intn(2)
		s += letters[at : at+1]
	}
	return s
}

// exchange exchanges two letters of a string that has no others.
func exchange(s, letters string) string {
	one, other := letters[:1], letters[1:]
	return strings.NewReplacer(one, other, other, one).Replace(s)
}

// changed returns creases with another one at an index.
func changed(creases string, i int) string {
	return creases[:i] + exchange(creases[i:i+1], "vh") + creases[i+1:]
}

// manyCreases returns all creases of strips of at most 16 squares, those of all folds, some of these with one and two changed, and drawn ones.
func manyCreases(seed int64) []string {
	var all []string
	for _, size := range []int{0, 1, 3, 7, 15} {
		all = append(all, textsOf(size, "vh")...)
	}
	r := rand.New(rand.NewSource(seed))
	for _, folds := range append(textsOf(5, "ou"), textsOf(6, "ou")...) {
		creases := slowCreases(folds)
		all = append(all, creases, drawText(r, len(creases), "vh"))
		for i := range len(creases) {
			once := changed(creases, i)
			all = append(all, once, changed(once, r.Intn(len(creases))))
		}
	}
	return all
}
