package coin_test

import (
	"math/rand"
	"slices"

	"headword/api"
	"headword/coin"
)

// The functions here follow the definitions word by word, and go through all payments, or through all sums: the tests compare the package with them.

func list(l ...int) []int { return l }

func lists(l ...[]int) [][]int { return l }

// The coins of the chapter's examples.
func coinsA() []int { return list(1, 3, 4) }
func coinsB() []int { return list(1, 5, 10) }
func coinsC() []int { return list(1, 2) }

// flat returns a list of one number.
func flat(many, number int) []int { return slices.Repeat(list(number), many) }

// clone returns lists that share no memory with others.
func clone(l [][]int) [][]int {
	var all [][]int
	for _, numbers := range l {
		all = append(all, slices.Clone(numbers))
	}
	return all
}

// added returns a list with one number more, in ascending order.
func added(l []int, number int) []int {
	longer := append(slices.Clone(l), number)
	slices.Sort(longer)
	return longer
}

// slowTotal returns the sum of numbers.
func slowTotal(numbers []int) int {
	total := 0
	for _, number := range numbers {
		total += number
	}
	return total
}

// slowWorth returns the sum that is paid by so many of each coin.
func slowWorth(coins, payment []int) int {
	sum := 0
	for i, many := range payment {
		for range many {
			sum += coins[i]
		}
	}
	return sum
}

// eachPayment visits all payments of a sum, in ascending order.
func eachPayment(coins []int, sum int, visit func(payment []int)) {
	payment := make([]int, len(coins))
	var goOn func(place, left int)
	goOn = func(place, left int) {
		if place == len(coins)-1 {
			if left%coins[place] == 0 {
				payment[place] = left / coins[place]
				visit(payment)
			}
			return
		}
		for many := 0; many*coins[place] <= left; many++ {
			payment[place] = many
			goOn(place+1, left-many*coins[place])
		}
	}
	goOn(0, sum)
}

// slowPurse returns what Purse is to return, and how many payments a purse has of a sum.
func slowPurse(coins, purse []int, sum int) (best []int, ways int) {
	eachPayment(coins, sum, func(payment []int) {
		for i, many := range payment {
			if many > purse[i] {
				return
			}
		}
		ways++
		if ways == 1 || slowTotal(payment) < slowTotal(best) {
			best = slices.Clone(payment)
		}
	})
	return best, ways
}

// slowFirst returns what First and Ways are to return.
func slowFirst(coins []int, sum int) (first []int, ways int) {
	return slowPurse(coins, flat(len(coins), sum), sum)
}

// slowGreatest returns what Greatest is to return.
func slowGreatest(coins []int, sum int) []int {
	payment := make([]int, len(coins))
	for sum > 0 {
		greatest := 0
		for i, c := range coins {
			if c <= sum {
				greatest = i
			}
		}
		payment[greatest]++
		sum -= coins[greatest]
	}
	return payment
}

// slowFews returns the fewest coins of each sum up to the last one: that of what is left when some coin is given, and this coin.
func slowFews(coins []int, last int) []int {
	fews := list(0)
	for sum := 1; sum <= last; sum++ {
		few := sum
		for _, c := range coins {
			if c <= sum {
				few = min(few, fews[sum-c]+1)
			}
		}
		fews = append(fews, few)
	}
	return fews
}

// slowWhy returns what Why is to return. It looks through all sums up to 400, far above any two coins together.
func slowWhy(coins []int) (int, api.Errno) {
	for sum, few := range slowFews(coins, 400) {
		if few < slowTotal(slowGreatest(coins, sum)) {
			return sum, api.OK
		}
	}
	return 0, api.ErrClash
}

// slowProves returns what Proves is to return.
func slowProves(coins []int, sum int, payment []int) api.Errno {
	if len(payment) != len(coins) {
		return api.ErrShape
	}
	if slices.Min(payment) < 0 || slices.Max(payment) > 200 {
		return api.ErrRange
	}
	if slowWorth(coins, payment) != sum {
		return api.ErrSum
	}
	if slowTotal(payment) < slowTotal(slowGreatest(coins, sum)) {
		return api.OK
	}
	return api.ErrProof
}

// slowWith returns what With is to return.
func slowWith(coins []int, one int) (bool, api.Errno) {
	switch {
	case len(coins) == 6:
		return false, api.ErrMany
	case one > 40:
		return false, api.ErrRange
	case one <= slices.Max(coins):
		return false, api.ErrOrder
	}
	if _, e := slowWhy(coins); e == api.OK {
		return false, api.ErrClash
	}
	_, e := slowWhy(added(coins, one))
	return e == api.ErrClash, api.OK
}

// slowReach returns what Reach is to return.
func slowReach(coins []int, many int) int {
	for sum, few := range slowFews(coins, 300) {
		if few > many {
			return sum - 1
		}
	}
	panic("all sums have few coins")
}

// slowChange returns what Change is to return, trying all sums that are given back, the greatest one first.
func slowChange(coins []int, sum int) (pay, back int) {
	fews := slowFews(coins, sum+slices.Max(coins))
	pay, back = 1000, 1000
	for more := slices.Max(coins); more >= 0; more-- {
		one, other := fews[sum+more], fews[more]
		if one+other < pay+back || one+other == pay+back && other < back {
			pay, back = one, other
		}
	}
	return pay, back
}

// coinsUpTo returns all coins with at most so many coins, up to a greatest one.
func coinsUpTo(many, greatest int) [][]int {
	all := lists(list(1))
	for i := 0; i < len(all); i++ {
		if len(all[i]) == many {
			continue
		}
		for c := slices.Max(all[i]) + 1; c <= greatest; c++ {
			all = append(all, append(slices.Clone(all[i]), c))
		}
	}
	return all
}

// drawCoins draws coins, more often many than few.
func drawCoins(seed int64, many int) [][]int {
	r := rand.New(rand.NewSource(seed))
	var all [][]int
	for range many {
		coins, greatest := list(1), 8+r.Intn(33)
		for range max(r.Intn(6), r.Intn(6)) {
			if c := 2 + r.Intn(greatest-1); !slices.Contains(coins, c) {
				coins = added(coins, c)
			}
		}
		all = append(all, coins)
	}
	return all
}

// drawGood draws good coins, each of which, but for the first ones, goes well with the ones before.
func drawGood(seed int64, many int) [][]int {
	r := rand.New(rand.NewSource(seed))
	var all [][]int
	for len(all) < many {
		coins := list(1)
		for range 1 + r.Intn(5) {
			c := slices.Max(coins) + 1 + r.Intn(12)
			if is, e := slowWith(coins, c); is && e == api.OK {
				coins = append(coins, c)
			}
		}
		all = append(all, coins)
	}
	return all
}

// edgeCoins returns the coins at the limits, and those of the examples.
func edgeCoins() [][]int {
	return lists(
		coinsA(), coinsB(), coinsC(),
		list(1), list(1, 39), list(1, 40), list(1, 39, 40), list(1, 20, 40), list(1, 2, 40), list(1, 21, 40),
		list(1, 2, 3, 4, 5, 6), list(1, 36, 37, 38, 39, 40), list(1, 2, 37, 38, 39, 40), list(1, 2, 3, 4, 5, 40), list(1, 8, 16, 24, 32, 40),
		list(1, 2, 4, 8, 16, 32), list(1, 2, 5, 10, 20, 40), list(1, 5, 10, 20, 25, 40), list(1, 3, 9, 27), list(1, 2, 6, 24),
		list(1, 10, 25), list(1, 5, 6, 9), list(1, 2, 4, 5), list(1, 2, 4, 5, 8), list(1, 7, 10), list(1, 2, 3), list(1, 3, 6, 12, 24, 30),
	)
}

// manyCoins returns all coins up to 7, and of few coins those up to 12, drawn ones, good ones and those at the limits.
func manyCoins(seed int64) [][]int {
	return slices.Concat(coinsUpTo(coin.MaxCoins, 7), coinsUpTo(3, 12), drawCoins(seed, 250), drawGood(seed, 60), edgeCoins())
}

// payable returns the greatest sum of which so many coins have few enough payments for the slow functions.
func payable(coins []int) int {
	return map[int]int{1: 200, 2: 200, 3: 200, 4: 120, 5: 90, 6: 70}[len(coins)]
}
