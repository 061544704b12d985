package sheet_test

import (
	"slices"
	"testing"

	"headword/sheet"
)

// R4, P1: no memory is shared, no argument is changed, and equal arguments have equal results.
func TestOwnMemory(t *testing.T) {
	for _, j := range append(drawJobs(14, 100), jobA(), jobB(), jobC(), jobD()) {
		pieces := slices.Clone(j.pieces)
		plan, _ := sheet.First(j.size, j.pieces)
		order, _ := sheet.Fall(j.size, j.pieces)
		groups := slowGroups(plan)
		for name, result := range map[string]func() []int{
			"Left":   func() []int { r, _ := sheet.Left(j.size, pieces, plan); return r },
			"Plan":   func() []int { r, _ := sheet.Plan(j.size, pieces, groups); return r },
			"Fall":   func() []int { r, _ := sheet.Fall(j.size, pieces); return r },
			"Fit":    func() []int { r, _ := sheet.Fit(j.size, pieces, order); return r },
			"First":  func() []int { r, _ := sheet.First(j.size, pieces); return r },
			"Groups": func() []int { r, _ := sheet.Groups(j.size, pieces, plan); return slices.Concat(r...) },
		} {
			r := result()
			want := slices.Clone(r)
			_ = append(r, 9)
			clear(r)
			if again := result(); !slices.Equal(again, want) {
				t.Fatalf("%s of %v: %v, then %v", name, j, want, again)
			}
		}
		if !slices.Equal(pieces, j.pieces) || !slices.Equal(plan, slowTogether(groups)) || !slices.Equal(order, slowFall(j)) || !equal(groups, slowGroups(plan)) {
			t.Fatalf("the arguments %v are now %v, %v, %v, %v", j, pieces, plan, order, groups)
		}
	}
}

// R4: the groups share no memory.
func TestGroupsHaveOwnMemory(t *testing.T) {
	for _, j := range append(drawJobs(15, 100), jobA(), jobB(), jobC(), jobD()) {
		plan, _ := sheet.First(j.size, j.pieces)
		groups, _ := sheet.Groups(j.size, j.pieces, plan)
		for i := range groups {
			_ = append(groups[i], 9, 9, 9, 9, 9, 9, 9, 9)
			clear(groups[i])
			if !equal(groups[i+1:], slowGroups(plan)[i+1:]) {
				t.Fatalf("the groups of %v, %v are now %v", j, plan, groups)
			}
		}
	}
}

// R4: arguments are not changed, nor is what lies behind them.
func TestArgumentsStay(t *testing.T) {
	behind := list(5, 6, 4, 5, 3, 9, 9, 9)
	plan, order, groups := list(0, 1, 1, 0, 2, 9), list(1, 0, 3, 2, 4, 9), lists(list(4, 9), list(2, 1), list(3, 0), nil)
	pieces := behind[:5]
	cut := lists(groups[0][:1], groups[1], groups[2])
	sheet.Check(10, pieces)
	sheet.Valid(10, pieces, plan[:5])
	sheet.Left(10, pieces, plan[:5])
	sheet.Groups(10, pieces, plan[:5])
	sheet.Plan(10, pieces, cut)
	sheet.Fall(10, pieces)
	sheet.Fit(10, pieces, order[:5])
	sheet.Fewest(10, pieces)
	sheet.First(10, pieces)
	sheet.Count(10, pieces)
	sheet.Chain(10, pieces)
	sheet.Bound(10, pieces, 4)
	sheet.Prove(10, pieces)
	sheet.Proves(10, pieces, plan[:5], 0)
	if !slices.Equal(behind, list(5, 6, 4, 5, 3, 9, 9, 9)) || !slices.Equal(plan, list(0, 1, 1, 0, 2, 9)) || !slices.Equal(order, list(1, 0, 3, 2, 4, 9)) || !equal(groups, lists(list(4, 9), list(2, 1), list(3, 0), nil)) || !equal(cut, lists(list(4), list(2, 1), list(3, 0))) {
		t.Errorf("the arguments are now %v, %v, %v, %v", behind, plan, order, groups)
	}
}

// P1: equal arguments have equal results, whatever was called between.
func TestNothingIsRemembered(t *testing.T) {
	jobs := drawJobs(16, 300)
	var first [][]int
	for _, j := range jobs {
		plan, _ := sheet.First(j.size, j.pieces)
		first = append(first, plan)
	}
	for i, j := range slices.Backward(jobs) {
		if plan, _ := sheet.First(j.size, j.pieces); !slices.Equal(plan, first[i]) {
			t.Errorf("First of %v: %v, then %v", j, first[i], plan)
		}
	}
}
