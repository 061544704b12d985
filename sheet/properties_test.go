package sheet_test

import (
	"math/rand"
	"slices"
	"testing"

	"headword/api"
	"headword/sheet"
)

func fewest(t *testing.T, j job) int {
	t.Helper()
	n, e := sheet.Fewest(j.size, j.pieces)
	if e != api.OK {
		t.Fatalf("Fewest of %v: %d", j, e)
	}
	return n
}

func bound(t *testing.T, j job, k int) int {
	t.Helper()
	n, e := sheet.Bound(j.size, j.pieces, k)
	if e != api.OK {
		t.Fatalf("Bound of %v, %d: %d", j, k, e)
	}
	return n
}

func fit(t *testing.T, j job, order []int) []int {
	t.Helper()
	plan, e := sheet.Fit(j.size, j.pieces, order)
	if e != api.OK {
		t.Fatalf("Fit of %v, %v: %d", j, order, e)
	}
	return plan
}

func fall(t *testing.T, j job) []int {
	t.Helper()
	order, e := sheet.Fall(j.size, j.pieces)
	if e != api.OK {
		t.Fatalf("Fall of %v: %d", j, e)
	}
	return order
}

func left(t *testing.T, j job, plan []int) []int {
	t.Helper()
	l, e := sheet.Left(j.size, j.pieces, plan)
	if e != api.OK {
		t.Fatalf("Left of %v, %v: %d", j, plan, e)
	}
	return l
}

func groups(t *testing.T, j job, plan []int) [][]int {
	t.Helper()
	l, e := sheet.Groups(j.size, j.pieces, plan)
	if e != api.OK {
		t.Fatalf("Groups of %v, %v: %d", j, plan, e)
	}
	return l
}

// somePlans returns all plans of few pieces, and some of many.
func somePlans(j job) [][]int {
	var some [][]int
	all := allPlans[len(j.pieces)]
	for i := 0; i < len(all); i += 1 + len(all)/100 {
		if slowValid(j, all[i]) == api.OK {
			some = append(some, all[i])
		}
	}
	return some
}

// someOrders returns all orders of few pieces, and some of many.
func someOrders(r *rand.Rand, j job) [][]int {
	if len(j.pieces) < 5 {
		return ordersOf(len(j.pieces))
	}
	var some [][]int
	for range 30 {
		some = append(some, drawOrder(r, len(j.pieces)))
	}
	return some
}

// lastBegun returns the sheet of a plan that an order begins last.
func lastBegun(plan, order []int) int {
	var begun []int
	for _, number := range order {
		if !slices.Contains(begun, plan[number]) {
			begun = append(begun, plan[number])
		}
	}
	return begun[len(begun)-1]
}

// P9.9
func TestChainsWasteNothing(t *testing.T) {
	for _, j := range append(manyJobs(17), drawChains(18, 1000)...) {
		if !slowChain(j) || len(j.pieces) == 0 {
			continue
		}
		order := fall(t, j)
		plan := fit(t, j, order)
		rest := left(t, j, plan)
		last := lastBegun(plan, order)
		for s, n := range rest {
			if n != 0 && s != last {
				t.Errorf("%v: of the sheets of %v is left: %v", j, plan, rest)
			}
		}
		least, _ := slowBest(j)
		hold := 0
		for hold*j.size < sum(j.pieces) {
			hold++
		}
		if len(rest) != hold || least != hold || fewest(t, j) != hold {
			t.Errorf("%v: %d sheets are filled, %d hold all pieces, the fewest are %d, and Fewest is %d", j, len(rest), hold, least, fewest(t, j))
		}
	}
}

// P9.10
func TestNoPlanIsBelowABound(t *testing.T) {
	lost := 0
	for _, j := range manyJobs(19) {
		least, _ := slowBest(j)
		for k := range half(j.size) + 1 {
			if n := bound(t, j, k); n > least {
				t.Errorf("%v: the bound of %d is %d, the fewest sheets are %d", j, k, n, least)
			}
		}
		k, e := sheet.Prove(j.size, j.pieces)
		switch {
		case e == api.ErrLost:
			lost++
			if is, _ := sheet.Chain(j.size, j.pieces); is {
				t.Errorf("%v is a chain, but Prove returns %d", j, e)
			}
		case e != api.OK || bound(t, j, k) != least:
			t.Errorf("%v: Prove is %d %d, the fewest sheets are %d", j, k, e, least)
		}
	}
	if lost == 0 {
		t.Error("Prove always returns a number")
	}
}

// P9.10
func TestChainsAreProved(t *testing.T) {
	for _, j := range drawChains(20, 1000) {
		if k, e := sheet.Prove(j.size, j.pieces); e != api.OK || bound(t, j, k) != fewest(t, j) {
			t.Errorf("Prove of %v: %d %d", j, k, e)
		}
	}
}

// P9.10: what Proves accepts is a plan with the fewest sheets, and each such plan is accepted with what Prove returns.
func TestProofsAreOfPlansWithTheFewestSheets(t *testing.T) {
	found := [2]int{}
	for _, j := range manyJobs(21) {
		least, best := slowBest(j)
		for _, plan := range somePlans(j) {
			for k := range half(j.size) + 1 {
				e := sheet.Proves(j.size, j.pieces, plan, k)
				if e == api.OK && sheetsOf(plan) != least {
					t.Errorf("Proves accepts %v, %v, %d", j, plan, k)
				}
				if e == api.OK {
					found[0]++
				} else {
					found[1]++
				}
			}
		}
		k, e := sheet.Prove(j.size, j.pieces)
		if e != api.OK {
			continue
		}
		for _, plan := range best {
			if e := sheet.Proves(j.size, j.pieces, plan, k); e != api.OK {
				t.Errorf("Proves of %v, %v, %d: %d", j, plan, k, e)
			}
		}
	}
	if slices.Min(found[:]) == 0 {
		t.Errorf("Proves accepts %d and refuses %d", found[0], found[1])
	}
}

// P9.11
func TestAtMostOneSheetIsNotMoreThanHalfFull(t *testing.T) {
	r := rand.New(rand.NewSource(22))
	found := [2]int{}
	for _, j := range manyJobs(22) {
		for _, order := range someOrders(r, j) {
			plan := fit(t, j, order)
			notMore := 0
			for _, n := range left(t, j, plan) {
				if 2*(j.size-n) <= j.size {
					notMore++
				}
			}
			if notMore > 1 {
				t.Fatalf("%v, %v: %d sheets of %v are not more than half full", j, order, notMore, plan)
			}
			found[notMore]++
		}
	}
	if slices.Min(found[:]) == 0 {
		t.Errorf("%d plans have no such sheet, %d have one", found[0], found[1])
	}
}

// P9.11
func TestFallingOrderIsNearTheFewest(t *testing.T) {
	found := [3]int{}
	for _, j := range append(manyJobs(23), job{10, list(4, 3, 3, 3, 3, 4)}) {
		n, least := sheetsOf(fit(t, j, fall(t, j))), fewest(t, j)
		if n < least || 2*n > 3*least {
			t.Errorf("%v: the falling order needs %d sheets, the fewest are %d", j, n, least)
			continue
		}
		found[n-least]++
	}
	if min(found[0], found[1]) == 0 {
		t.Errorf("so often the falling order needs as many as the fewest sheets, one more and two more: %v", found)
	}
}

// P9.11: the order that tells the sheets of First one after the other is such an order; of few pieces all orders are tried.
func TestSomeOrderIsTheFewest(t *testing.T) {
	for _, j := range manyJobs(24) {
		least := fewest(t, j)
		first, e := sheet.First(j.size, j.pieces)
		if e != api.OK {
			t.Fatalf("First of %v: %d", j, e)
		}
		if plan := fit(t, j, slices.Concat(groups(t, j, first)...)); sheetsOf(plan) != least {
			t.Errorf("%v: the order of %v leads to %v, the fewest sheets are %d", j, first, plan, least)
		}
		if len(j.pieces) > 5 {
			continue
		}
		smallest := len(j.pieces)
		for _, order := range ordersOf(len(j.pieces)) {
			smallest = min(smallest, sheetsOf(fit(t, j, order)))
		}
		if smallest != least {
			t.Errorf("%v: some order needs %d sheets, none needs fewer, the fewest are %d", j, smallest, least)
		}
	}
}

// P9.12
func TestThereAndBack(t *testing.T) {
	r := rand.New(rand.NewSource(25))
	for _, j := range manyJobs(25) {
		for _, plan := range somePlans(j) {
			told := groups(t, j, plan)
			for range 4 {
				if again, e := sheet.Plan(j.size, j.pieces, told); !slices.Equal(again, plan) || e != api.OK {
					t.Fatalf("%v: Plan of %v: %v %d, want %v", j, told, again, e, plan)
				}
				r.Shuffle(len(told), func(i, k int) { told[i], told[k] = told[k], told[i] })
				for _, group := range told {
					r.Shuffle(len(group), func(i, k int) { group[i], group[k] = group[k], group[i] })
				}
			}
		}
	}
}

// P9.13
func TestNothingIsLost(t *testing.T) {
	for _, j := range manyJobs(26) {
		for _, plan := range somePlans(j) {
			rest := left(t, j, plan)
			if sum(rest)+sum(j.pieces) != len(rest)*j.size || len(rest) != sheetsOf(plan) || len(rest) > 0 && slices.Min(rest) < 0 {
				t.Errorf("%v, %v: is left: %v", j, plan, rest)
			}
			var all []int
			for _, group := range groups(t, j, plan) {
				all = append(all, group...)
			}
			slices.Sort(all)
			for number, other := range all {
				if number != other || len(all) != len(j.pieces) {
					t.Fatalf("%v, %v: the groups have %v", j, plan, all)
				}
			}
		}
	}
}

// P9.14
func TestOtherNumbers(t *testing.T) {
	r := rand.New(rand.NewSource(27))
	for _, j := range manyJobs(27) {
		other := job{size: j.size}
		for _, number := range drawOrder(r, len(j.pieces)) {
			other.pieces = append(other.pieces, j.pieces[number])
		}
		one, e := sheet.Count(j.size, j.pieces)
		two, f := sheet.Count(other.size, other.pieces)
		if one != two || e != api.OK || f != api.OK || fewest(t, j) != fewest(t, other) {
			t.Errorf("%v: %d plans with %d sheets; %v: %d with %d", j, one, fewest(t, j), other, two, fewest(t, other))
		}
		is, e := sheet.Chain(j.size, j.pieces)
		isToo, f := sheet.Chain(other.size, other.pieces)
		if is != isToo || e != api.OK || f != api.OK {
			t.Errorf("Chain of %v: %v %d; of %v: %v %d", j, is, e, other, isToo, f)
		}
		for k := range half(j.size) + 1 {
			if one, two := bound(t, j, k), bound(t, other, k); one != two {
				t.Errorf("Bound of %v, %d: %d; of %v: %d", j, k, one, other, two)
			}
		}
	}
}

// P9.15
func TestOnePieceMore(t *testing.T) {
	r := rand.New(rand.NewSource(28))
	grown := [2]int{}
	for _, j := range manyJobs(28) {
		if len(j.pieces) == sheet.MaxPieces {
			continue
		}
		longer := job{j.size, slices.Insert(slices.Clone(j.pieces), r.Intn(len(j.pieces)+1), 1+r.Intn(j.size))}
		more := fewest(t, longer) - fewest(t, j)
		if more < 0 || more > 1 {
			t.Errorf("%v needs %d sheets, %v needs %d", j, fewest(t, j), longer, fewest(t, longer))
			continue
		}
		grown[more]++
	}
	if slices.Min(grown[:]) == 0 {
		t.Errorf("%d pieces changed nothing, %d need one sheet more", grown[0], grown[1])
	}
}

// P9.15
func TestAPieceCutInTwo(t *testing.T) {
	shrunk := [2]int{}
	for _, j := range manyJobs(29) {
		if len(j.pieces) == sheet.MaxPieces {
			continue
		}
		for number, length := range j.pieces {
			for part := 1; part < length; part++ {
				cut := job{j.size, slices.Replace(slices.Clone(j.pieces), number, number+1, part, length-part)}
				one, other := fewest(t, j), fewest(t, cut)
				if other > one {
					t.Errorf("%v needs %d sheets, %v needs %d", j, one, cut, other)
				}
				if other < one {
					shrunk[1]++
				} else {
					shrunk[0]++
				}
			}
		}
	}
	if slices.Min(shrunk[:]) == 0 {
		t.Errorf("%d cuts changed nothing, %d made sheets fewer", shrunk[0], shrunk[1])
	}
}

// P9.15
func TestGreaterSize(t *testing.T) {
	shrunk := [2]int{}
	for _, j := range manyJobs(30) {
		for size := j.size + 1; size <= sheet.MaxSize; size++ {
			one, other := fewest(t, job{size - 1, j.pieces}), fewest(t, job{size, j.pieces})
			if other > one {
				t.Errorf("%v needs %d sheets of %d, and %d of %d", j.pieces, one, size-1, other, size)
			}
			if other < one {
				shrunk[1]++
			} else {
				shrunk[0]++
			}
		}
	}
	if slices.Min(shrunk[:]) == 0 {
		t.Errorf("%d greater sizes changed nothing, %d made sheets fewer", shrunk[0], shrunk[1])
	}
}
