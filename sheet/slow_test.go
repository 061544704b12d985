package sheet_test

import (
	"math/rand"
	"slices"

	"headword/api"
	"headword/sheet"
)

// The functions here follow the definitions word by word, and try all plans: the tests compare the package with them.

func list(l ...int) []int { return l }

func lists(l ...[]int) [][]int { return l }

// job is the arguments that all functions have.
type job struct {
	size   int
	pieces []int
}

// The jobs of the chapter's examples.
func jobA() job { return job{10, list(5, 6, 4, 5, 3)} }
func jobB() job { return job{12, list(6, 3, 6, 1, 3, 3)} }
func jobC() job { return job{10, list(4, 4, 4, 4, 4)} }
func jobD() job { return job{10, list(7, 7, 4, 4)} }

// errorOf returns the error of a call that has one result beside it.
func errorOf[T any](_ T, e api.Errno) api.Errno { return e }

func sum(numbers []int) int {
	total := 0
	for _, number := range numbers {
		total += number
	}
	return total
}

// equal reports whether two lists of lists are equal.
func equal(one, other [][]int) bool { return slices.EqualFunc(one, other, slices.Equal[[]int]) }

// allPlans has, for 0, 1 and more pieces, all plans of pieces for which sheets are long enough, ascending; made once since they are asked for often.
var allPlans = func() (all [sheet.MaxPieces + 1][][]int) {
	all[0] = lists(nil)
	for many := 1; many < len(all); many++ {
		for _, plan := range all[many-1] {
			greatest := -1
			for _, number := range plan {
				greatest = max(greatest, number)
			}
			for next := range greatest + 2 {
				all[many] = append(all[many], append(slices.Clone(plan), next))
			}
		}
	}
	return all
}()

// sheetsOf returns how many different numbers are in a plan.
func sheetsOf(plan []int) int {
	is := map[int]bool{}
	for _, number := range plan {
		is[number] = true
	}
	return len(is)
}

// slowGroups returns the pieces of each sheet.
func slowGroups(plan []int) [][]int {
	var groups [][]int
	for s := range sheetsOf(plan) {
		var group []int
		for number := range plan {
			if plan[number] == s {
				group = append(group, number)
			}
		}
		groups = append(groups, group)
	}
	return groups
}

// slowLength returns how long pieces are together.
func slowLength(j job, numbers []int) int {
	together := 0
	for _, number := range numbers {
		together += j.pieces[number]
	}
	return together
}

// slowLeft returns how much of each sheet is left.
func slowLeft(j job, plan []int) []int {
	var left []int
	for _, group := range slowGroups(plan) {
		left = append(left, j.size-slowLength(j, group))
	}
	return left
}

// slowIsOver reports whether the pieces of a group are longer than the size.
func slowIsOver(j job, groups [][]int) bool {
	return slices.ContainsFunc(groups, func(group []int) bool { return slowLength(j, group) > j.size })
}

// slowValid returns the error of a plan.
func slowValid(j job, plan []int) api.Errno {
	if len(plan) != len(j.pieces) {
		return api.ErrShape
	}
	for i, number := range plan {
		greatest := -1
		if i > 0 {
			greatest = slices.Max(plan[:i])
		}
		if number < 0 {
			return api.ErrNone
		}
		if number > greatest+1 {
			return api.ErrOrder
		}
	}
	if slowIsOver(j, slowGroups(plan)) {
		return api.ErrOver
	}
	return api.OK
}

// slowNumbers returns the error of numbers of which each is to be there once.
func slowNumbers(many int, numbers []int) api.Errno {
	is := map[int]bool{}
	for _, number := range numbers {
		switch {
		case number < 0 || number >= many:
			return api.ErrNone
		case is[number]:
			return api.ErrTwice
		}
		is[number] = true
	}
	return api.OK
}

// slowTogether returns the plan that has the pieces of each group together: the number of a sheet is how many sheets have a piece before all of its own.
func slowTogether(groups [][]int) []int {
	of := map[int][]int{}
	for _, group := range groups {
		for _, number := range group {
			of[number] = group
		}
	}
	var plan []int
	for number := range len(of) {
		before := 0
		for _, group := range groups {
			if slices.Min(group) < slices.Min(of[number]) {
				before++
			}
		}
		plan = append(plan, before)
	}
	return plan
}

// slowPlan returns what Plan is to return.
func slowPlan(j job, groups [][]int) ([]int, api.Errno) {
	var told []int
	for _, group := range groups {
		if len(group) == 0 {
			return nil, api.ErrShape
		}
		told = append(told, group...)
		if e := slowNumbers(len(j.pieces), told); e != api.OK {
			return nil, e
		}
	}
	if len(told) != len(j.pieces) {
		return nil, api.ErrShape
	}
	if slowIsOver(j, groups) {
		return nil, api.ErrOver
	}
	return slowTogether(groups), api.OK
}

// slowFall takes one length after the other, downwards.
func slowFall(j job) []int {
	var order []int
	for length := sheet.MaxSize; length > 0; length-- {
		for number := range j.pieces {
			if j.pieces[number] == length {
				order = append(order, number)
			}
		}
	}
	return order
}

// slowFill returns the pieces of the sheets that are filled in an order, one sheet after the other.
func slowFill(j job, order []int) [][]int {
	var groups [][]int
	for _, number := range order {
		at := len(groups)
		for i, group := range slices.Backward(groups) {
			if slowLength(j, group)+j.pieces[number] <= j.size {
				at = i
			}
		}
		if at == len(groups) {
			groups = append(groups, nil)
		}
		groups[at] = append(groups[at], number)
	}
	return groups
}

// slowBest returns the smallest number of sheets of all plans, and the plans that have it, ascending.
func slowBest(j job) (sheets int, best [][]int) {
	for _, plan := range allPlans[len(j.pieces)] {
		if slowIsOver(j, slowGroups(plan)) {
			continue
		}
		this := sheetsOf(plan)
		if len(best) == 0 || this < sheets {
			sheets, best = this, nil
		}
		if this == sheets {
			best = append(best, plan)
		}
	}
	return sheets, best
}

// slowChain reports whether lengths are a chain.
func slowChain(j job) bool {
	for _, one := range j.pieces {
		for _, other := range j.pieces {
			if one%other != 0 && other%one != 0 {
				return false
			}
		}
		if j.size%one != 0 {
			return false
		}
	}
	return true
}

// slowBound returns the bound of k.
func slowBound(j job, k int) int {
	var big, halves, small []int
	for _, length := range j.pieces {
		isBig := length > j.size-k
		isHalf := !isBig && length+length > j.size
		if isBig {
			big = append(big, length)
		}
		if isHalf {
			halves = append(halves, length)
		}
		if !isBig && !isHalf && length >= k {
			small = append(small, length)
		}
	}
	leave := 0
	for _, length := range halves {
		leave += j.size - length
	}
	bound := len(big) + len(halves)
	if sum(small) > leave {
		more := 0
		for more*j.size < sum(small)-leave {
			more++
		}
		bound += more
	}
	return bound
}

// half returns half of a number, rounded down.
func half(number int) int {
	of := 0
	for of+of <= number {
		of++
	}
	return of - 1
}

// slowProve returns what Prove is to return.
func slowProve(j job) (int, api.Errno) {
	fewest, _ := slowBest(j)
	for k := 0; k <= half(j.size); k++ {
		if slowBound(j, k) == fewest {
			return k, api.OK
		}
	}
	return 0, api.ErrLost
}

// numbersOf returns all lists of so many numbers from low to high.
func numbersOf(many, low, high int) [][]int {
	all := lists(nil)
	for range many {
		var longer [][]int
		for _, l := range all {
			for number := low; number <= high; number++ {
				longer = append(longer, append(slices.Clone(l), number))
			}
		}
		all = longer
	}
	return all
}

// jobsOf returns all jobs of a size with so many pieces.
func jobsOf(size, many int) []job {
	var jobs []job
	for _, pieces := range numbersOf(many, 1, size) {
		jobs = append(jobs, job{size, pieces})
	}
	return jobs
}

// draws are ways to draw a piece; of a drawn job the same one draws all pieces.
var draws = []func(r *rand.Rand, size int, some []int) int{
	func(r *rand.Rand, size int, _ []int) int { return 1 + r.Intn(size) },
	func(r *rand.Rand, size int, _ []int) int { return 1 + r.Intn((size+2)/3) },
	func(r *rand.Rand, size int, _ []int) int { return (size+3)/4 + r.Intn((size+2)/3) },
	func(r *rand.Rand, _ int, some []int) int { return some[r.Intn(2)] },
	func(r *rand.Rand, _ int, some []int) int { return some[r.Intn(3)] },
}

// drawJobs returns jobs, most of them with many pieces.
func drawJobs(seed int64, many int) []job {
	r := rand.New(rand.NewSource(seed))
	var jobs []job
	for range many {
		size := max(1+r.Intn(sheet.MaxSize), 1+r.Intn(sheet.MaxSize))
		some := list(1+r.Intn(size), 1+r.Intn(size), 1+r.Intn(size))
		draw := draws[r.Intn(len(draws))]
		var pieces []int
		for range max(r.Intn(sheet.MaxPieces+1), r.Intn(sheet.MaxPieces+1)) {
			pieces = append(pieces, draw(r, size, some))
		}
		jobs = append(jobs, job{size, pieces})
	}
	return jobs
}

// drawChains returns jobs whose lengths are chains.
func drawChains(seed int64, many int) []job {
	r := rand.New(rand.NewSource(seed))
	var jobs []job
	for range many {
		size := 1 + r.Intn(sheet.MaxSize)
		lengths := list(size)
		for last := size; last > 1; {
			next := 1 + r.Intn(last)
			if last%next == 0 {
				lengths = append(lengths, next)
				last = next
			}
		}
		var pieces []int
		for range max(r.Intn(sheet.MaxPieces+1), r.Intn(sheet.MaxPieces+1)) {
			pieces = append(pieces, lengths[r.Intn(len(lengths))])
		}
		jobs = append(jobs, job{size, pieces})
	}
	return jobs
}

// fewJobs returns all jobs with few pieces of small sheets.
func fewJobs() []job {
	var jobs []job
	for _, x := range []struct{ size, pieces int }{{3, 0}, {1, 4}, {2, 5}, {3, 4}, {4, 4}, {5, 3}, {6, 3}, {7, 2}, {8, 2}, {9, 1}} {
		jobs = append(jobs, jobsOf(x.size, x.pieces)...)
	}
	return jobs
}

// manyJobs returns all jobs with few pieces, and some others.
func manyJobs(seed int64) []job {
	jobs := append(drawJobs(seed, 300), jobA(), jobB(), jobC(), jobD())
	jobs = append(jobs, drawChains(seed, 60)...)
	jobs = append(jobs, job{24, nil}, job{24, list(24, 24, 24, 24, 24, 24, 24, 24)}, job{24, list(1, 1, 1, 1, 1, 1, 1, 1)}, job{24, list(12, 12, 12, 12, 12, 12, 12, 12)})
	return append(jobs, fewJobs()...)
}

// drawOrder returns an order of so many pieces.
func drawOrder(r *rand.Rand, many int) []int { return r.Perm(many) }

// ordersOf returns all orders of so many pieces.
func ordersOf(many int) [][]int {
	return slices.DeleteFunc(numbersOf(many, 0, many-1), func(l []int) bool { return slowNumbers(many, l) != api.OK })
}
