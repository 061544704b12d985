package table_test

import (
	"math/rand"
	"slices"

	"headword/api"
	"headword/table"
)

// The functions here follow the definitions word by word, and try all plans, all blocks and all splits: the tests compare the package with them.

func list(l ...int) []int { return l }

func lists(l ...[]int) [][]int { return l }

func share(times int, plan ...int) table.Share { return table.Share{Plan: plan, Times: times} }

func shares(l ...table.Share) []table.Share { return l }

// The tables of the chapter's examples.
func tableA() [][]int { return lists(list(1, 1, 0), list(0, 1, 1), list(1, 0, 1)) }
func tableB() [][]int { return lists(list(2, 1, 1), list(1, 2, 1), list(1, 1, 2)) }
func tableC() [][]int { return lists(list(1, 0, 0), list(1, 0, 0), list(0, 1, 1)) }

// flat returns a table with one number everywhere.
func flat(size, number int) [][]int {
	var all [][]int
	for range size {
		all = append(all, slices.Repeat(list(number), size))
	}
	return all
}

// tableOf returns a table of numbers, told row by row.
func tableOf(size int, numbers ...int) [][]int {
	var all [][]int
	for row := range size {
		all = append(all, slices.Clone(numbers[size*row:size*(row+1)]))
	}
	return all
}

// clone returns lists that share no memory with others.
func clone(l [][]int) [][]int {
	var all [][]int
	for _, numbers := range l {
		all = append(all, slices.Clone(numbers))
	}
	return all
}

func equal(one, other [][]int) bool { return slices.EqualFunc(one, other, slices.Equal[[]int]) }

func equalShares(one, other []table.Share) bool {
	return slices.EqualFunc(one, other, func(a, b table.Share) bool { return a.Times == b.Times && slices.Equal(a.Plan, b.Plan) })
}

// power returns a number times itself, so many times.
func power(number, times int) int {
	all := 1
	for range times {
		all *= number
	}
	return all
}

// numbersOf returns all lists of so many numbers from 0 on, below a limit.
func numbersOf(many, below int) [][]int {
	all := lists(nil)
	for range many {
		var longer [][]int
		for _, l := range all {
			for number := range below {
				longer = append(longer, append(slices.Clone(l), number))
			}
		}
		all = longer
	}
	return all
}

// allPlans has, for each size, all plans, ascending.
var allPlans = func() (all [table.MaxSize + 1][][]int) {
	for size := 1; size < len(all); size++ {
		for _, l := range numbersOf(size, size) {
			if slowPlan(size, l) == api.OK {
				all[size] = append(all[size], l)
			}
		}
	}
	return all
}()

// slowPlan returns the error of a plan.
func slowPlan(size int, plan []int) api.Errno {
	if len(plan) != size {
		return api.ErrShape
	}
	before := map[int]bool{}
	for _, column := range plan {
		if column < 0 || column >= size {
			return api.ErrNone
		}
		if before[column] {
			return api.ErrTwice
		}
		before[column] = true
	}
	return api.OK
}

// slowProduct returns the weight of a plan.
func slowProduct(l [][]int, plan []int) int {
	product := 1
	for row := range l {
		product *= l[row][plan[row]]
	}
	return product
}

// slowWithin returns what Within is to return.
func slowWithin(l [][]int, plan []int) api.Errno {
	if e := slowPlan(len(l), plan); e != api.OK {
		return e
	}
	if slowProduct(l, plan) == 0 {
		return api.ErrLost
	}
	return api.OK
}

// slowPlans returns the plans within a table, ascending.
func slowPlans(l [][]int) [][]int {
	var within [][]int
	for _, plan := range allPlans[len(l)] {
		if slowWithin(l, plan) == api.OK {
			within = append(within, plan)
		}
	}
	return within
}

// slowFirst returns what First is to return.
func slowFirst(l [][]int) ([]int, api.Errno) {
	for _, plan := range slowPlans(l) {
		return plan, api.OK
	}
	return nil, api.ErrLost
}

// slowWeight returns the sum of the weights of all plans.
func slowWeight(l [][]int) int {
	weight := 0
	for _, plan := range allPlans[len(l)] {
		weight += slowProduct(l, plan)
	}
	return weight
}

// slowEven returns what Even is to return.
func slowEven(l [][]int) (int, api.Errno) {
	sums := map[int]bool{}
	for i := range l {
		row, column := 0, 0
		for k := range l {
			row += l[i][k]
			column += l[k][i]
		}
		sums[row], sums[column] = true, true
	}
	if len(sums) > 1 {
		return 0, api.ErrSum
	}
	for sum := range sums {
		return sum, api.OK
	}
	panic("no rows")
}

// allNumbers has, for each size, all ascending lists of rows, or of columns: shorter ones first, and those of one length by R6.
var allNumbers = func() (all [table.MaxSize + 1][][]int) {
	for size := 1; size < len(all); size++ {
		for set := range 1 << size {
			var numbers []int
			for number := range size {
				if set>>number&1 == 1 {
					numbers = append(numbers, number)
				}
			}
			all[size] = append(all[size], numbers)
		}
		slices.SortFunc(all[size], func(a, b []int) int {
			if len(a) != len(b) {
				return len(a) - len(b)
			}
			return slices.Compare(a, b)
		})
	}
	return all
}()

// slowIsBlock reports whether rows and columns are a block.
func slowIsBlock(l [][]int, rows, columns []int) bool {
	for _, row := range rows {
		for _, column := range columns {
			if l[row][column] != 0 {
				return false
			}
		}
	}
	return len(rows)+len(columns) > len(l)
}

// slowBar returns what Bar is to return.
func slowBar(l [][]int) (rows, columns []int, e api.Errno) {
	if len(slowPlans(l)) > 0 {
		return nil, nil, api.ErrClash
	}
	all := allNumbers[len(l)]
	for _, rows := range all {
		isPart := func(columns []int) bool { return slowIsBlock(l, rows, columns) }
		if !slices.ContainsFunc(all, isPart) {
			continue
		}
		for column := range l {
			isEmpty := true
			for _, row := range rows {
				isEmpty = isEmpty && l[row][column] == 0
			}
			if isEmpty {
				columns = append(columns, column)
			}
		}
		return rows, columns, api.OK
	}
	panic("neither a plan nor a block")
}

// slowProves returns what Proves is to return.
func slowProves(l [][]int, rows, columns []int) api.Errno {
	for _, numbers := range lists(rows, columns) {
		for i, number := range numbers {
			switch {
			case number < 0 || number >= len(l):
				return api.ErrNone
			case i > 0 && number <= numbers[i-1]:
				return api.ErrOrder
			}
		}
	}
	if !slowIsBlock(l, rows, columns) {
		return api.ErrProof
	}
	return api.OK
}

// slowSplit returns what Split is to return.
func slowSplit(l [][]int) ([]table.Share, api.Errno) {
	if _, e := slowEven(l); e != api.OK {
		return nil, e
	}
	var all []table.Share
	rest := clone(l)
	for slices.Max(slices.Concat(rest...)) > 0 {
		plan, e := slowFirst(rest)
		if e != api.OK {
			panic("an even table without a plan")
		}
		smallest := table.MaxLines
		for row, column := range plan {
			smallest = min(smallest, rest[row][column])
		}
		for row, column := range plan {
			rest[row][column] -= smallest
		}
		all = append(all, share(smallest, plan...))
	}
	return all, api.OK
}

// slowSum returns what Sum is to return.
func slowSum(size int, l []table.Share) ([][]int, api.Errno) {
	if size < 1 || size > 4 {
		return nil, api.ErrRange
	}
	if len(l) > 10 {
		return nil, api.ErrMany
	}
	for _, s := range l {
		if e := slowPlan(size, s.Plan); e != api.OK {
			return nil, e
		}
		if s.Times < 1 || s.Times > 36 {
			return nil, api.ErrRange
		}
	}
	sums := flat(size, 0)
	for row := range size {
		for column := range size {
			for _, s := range l {
				if s.Plan[row] == column {
					sums[row][column] += s.Times
				}
			}
			if sums[row][column] > 9 {
				return nil, api.ErrOver
			}
		}
	}
	return sums, api.OK
}

// key is a table that can be the key of a map: its size and its numbers, row by row.
type key struct {
	size    int
	numbers [16]int
}

func keyOf(l [][]int) key {
	k := key{size: len(l)}
	copy(k.numbers[:], slices.Concat(l...))
	return k
}

// addSplits counts, for each table, the numbers for all plans that add up to it and are together a sum.
func addSplits(splits map[key]int, size, sum int) {
	plans := allPlans[size]
	var goOn func(number, left int, k key)
	goOn = func(number, left int, k key) {
		if number == len(plans)-1 {
			for row, column := range plans[number] {
				k.numbers[size*row+column] += left
			}
			splits[k]++
			return
		}
		for times := range left + 1 {
			goOn(number+1, left-times, k)
			for row, column := range plans[number] {
				k.numbers[size*row+column]++
			}
		}
	}
	goOn(0, sum, key{size: size})
}

// allSplits has, for each even table whose sum is at most MaxSum, how many splits it has. (What each row gets from the plans is their Times together, so these are the sum of the table.)
var allSplits = func() map[key]int {
	splits := map[key]int{}
	for size := 1; size <= table.MaxSize; size++ {
		for sum := range table.MaxSum + 1 {
			addSplits(splits, size, sum)
		}
	}
	return splits
}()

// slowSplits returns what Splits is to return.
func slowSplits(l [][]int) (int, api.Errno) {
	sum, e := slowEven(l)
	if e != api.OK {
		return 0, e
	}
	if sum > table.MaxSum {
		return 0, api.ErrOver
	}
	return allSplits[keyOf(l)], api.OK
}

// slowTurn returns a table turned.
func slowTurn(l [][]int) [][]int {
	turned := flat(len(l), -1)
	for i := range l {
		for k := range l {
			turned[i][k] = l[k][i]
		}
	}
	return turned
}

// tablesOf returns all tables of a size with numbers below a limit.
func tablesOf(size, below int) [][][]int {
	var all [][][]int
	for _, numbers := range numbersOf(size*size, below) {
		all = append(all, tableOf(size, numbers...))
	}
	return all
}

// smallTables returns all tables with few rows and small numbers.
func smallTables() [][][]int {
	return slices.Concat(tablesOf(1, 10), tablesOf(2, 5), tablesOf(3, 2))
}

// evenTables returns all even tables of a size with a sum.
func evenTables(size, sum int) [][][]int {
	var rows [][]int
	for _, numbers := range numbersOf(size, min(sum, table.MaxLines)+1) {
		if slowTotal(numbers) == sum {
			rows = append(rows, numbers)
		}
	}
	var all [][][]int
	var goOn func(begun [][]int)
	goOn = func(begun [][]int) {
		if len(begun) < size-1 {
			for _, row := range rows {
				goOn(append(begun[:len(begun):len(begun)], row))
			}
			return
		}
		last := slices.Repeat(list(sum), size)
		for _, row := range begun {
			for column, number := range row {
				last[column] -= number
			}
		}
		// The last row has the sum by itself, since the columns have it.
		if slices.Min(last) >= 0 && slices.Max(last) <= table.MaxLines {
			all = append(all, clone(append(begun[:len(begun):len(begun)], last)))
		}
	}
	goOn(nil)
	return all
}

func slowTotal(numbers []int) int {
	total := 0
	for _, number := range numbers {
		total += number
	}
	return total
}

// fewEven are all even tables of one and two rows, those of three with a sum up to 6, those of four with a sum up to 3, and each third, 17th and 53rd of those with the sums 4, 5 and 6; made once since they are asked for often.
var fewEven = func() (all [][][]int) {
	for sum := range 2*table.MaxLines + 1 {
		all = slices.Concat(all, evenTables(1, sum), evenTables(2, sum))
	}
	for sum, every := range list(1, 1, 1, 1, 3, 17, 53) {
		all = append(all, evenTables(3, sum)...)
		for i, l := range evenTables(4, sum) {
			if i%every == 0 {
				all = append(all, l)
			}
		}
	}
	return all
}()

// drawEven draws even tables, adding up plans as often as the limits allow.
func drawEven(seed int64, many int) [][][]int {
	r := rand.New(rand.NewSource(seed))
	var all [][][]int
	for range many {
		size := max(1+r.Intn(4), 1+r.Intn(4))
		l := flat(size, 0)
		for range 1 + r.Intn(40) {
			plan, times := r.Perm(size), 1+r.Intn(3)
			more := clone(l)
			for row, column := range plan {
				more[row][column] += times
			}
			if slices.Max(slices.Concat(more...)) <= table.MaxLines {
				l = more
			}
		}
		all = append(all, l)
	}
	return all
}

// drawTables draws tables, most of them with many zeros.
func drawTables(seed int64, many int) [][][]int {
	r := rand.New(rand.NewSource(seed))
	var all [][][]int
	for range many {
		size := max(1+r.Intn(4), 1+r.Intn(4))
		l := flat(size, 0)
		often, below := r.Intn(6), 1+r.Intn(9)
		for row := range size {
			for column := range size {
				if r.Intn(6) >= often {
					l[row][column] = 1 + r.Intn(below)
				}
			}
		}
		all = append(all, l)
	}
	return all
}

// edgeTables returns the tables at the limits, and those of the examples.
func edgeTables() [][][]int {
	return [][][]int{
		tableA(), tableB(), tableC(),
		flat(1, 0), flat(1, 1), flat(1, 6), flat(1, 7), flat(1, 9),
		flat(2, 0), flat(2, 1), flat(2, 3), flat(2, 4), flat(2, 9),
		flat(3, 0), flat(3, 1), flat(3, 2), flat(3, 3), flat(3, 9),
		flat(4, 0), flat(4, 1), flat(4, 2), flat(4, 9),
		tableOf(4, 9, 0, 0, 0, 0, 9, 0, 0, 0, 0, 9, 0, 0, 0, 0, 9),
		tableOf(4, 6, 0, 0, 0, 0, 0, 0, 6, 0, 6, 0, 0, 0, 0, 6, 0),
		tableOf(4, 9, 9, 9, 0, 9, 9, 9, 0, 9, 9, 9, 0, 9, 9, 9, 0),
		tableOf(4, 9, 9, 9, 9, 9, 9, 9, 9, 9, 9, 9, 9, 0, 0, 0, 0),
		tableOf(4, 1, 1, 0, 0, 1, 1, 0, 0, 1, 0, 0, 0, 1, 1, 1, 1),
		tableOf(4, 0, 0, 0, 1, 0, 0, 1, 0, 0, 1, 0, 0, 1, 0, 0, 0),
		tableOf(4, 9, 9, 9, 9, 9, 9, 9, 9, 9, 9, 9, 9, 9, 9, 9, 8),
		tableOf(4, 3, 1, 1, 1, 1, 3, 1, 1, 1, 1, 3, 1, 1, 1, 1, 3),
		tableOf(4, 2, 2, 1, 1, 2, 2, 1, 1, 1, 1, 2, 2, 1, 1, 2, 2), // the most splits
		tableOf(4, 9, 8, 6, 6, 4, 8, 8, 9, 9, 9, 6, 5, 7, 4, 9, 9), // ten shares
	}
}

// manyTables returns all tables with few rows and small numbers, even ones, drawn ones and those at the limits.
func manyTables(seed int64) [][][]int {
	return slices.Concat(smallTables(), fewEven, drawEven(seed, 500), drawTables(seed, 1500), edgeTables())
}

// manyEven returns even tables.
func manyEven(seed int64) [][][]int {
	all := slices.Concat(fewEven, drawEven(seed, 1000))
	for _, l := range edgeTables() {
		if _, e := slowEven(l); e == api.OK {
			all = append(all, l)
		}
	}
	return all
}
