package coin

import (
	"slices"

	"headword/api"
)

// Good returns whether coins are good.
func Good(coins []int) (bool, api.Errno) {
	if e := Check(coins); e != api.OK {
		return false, e
	}
	return areGood(coins), api.OK
}

// Why returns the smallest sum for which the greatest coins are not best.
func Why(coins []int) (int, api.Errno) {
	if e := Check(coins); e != api.OK {
		return 0, e
	}
	sum, found := firstFewer(coins)
	if !found {
		return 0, api.ErrClash
	}
	return sum, api.OK
}

// Proves returns why a payment does not prove that the greatest coins are not best for a sum, or OK.
func Proves(coins []int, sum int, payment []int) api.Errno {
	if e := checkSum(coins, sum); e != api.OK {
		return e
	}
	if e := checkNumbers(coins, payment); e != api.OK {
		return e
	}
	if worth(coins, payment) != sum {
		return api.ErrSum
	}
	if together(payment) >= together(byGreatest(coins, sum)) {
		return api.ErrProof
	}
	return api.OK
}

// With returns whether good coins are good together with a greater one.
func With(coins []int, coin int) (bool, api.Errno) {
	if e := Check(coins); e != api.OK {
		return false, e
	}
	if len(coins) == MaxCoins {
		return false, api.ErrMany
	}
	if coin > MaxCoin {
		return false, api.ErrRange
	}
	if coin <= greatestOf(coins) {
		return false, api.ErrOrder
	}
	if !areGood(coins) {
		return false, api.ErrClash
	}
	return areGood(slices.Concat(coins, []int{coin})), api.OK
}

// areGood reports whether coins are good.
func areGood(coins []int) bool {
	_, found := firstFewer(coins)
	return !found
}

// firstFewer returns the smallest sum for which a payment has fewer coins than the one by greatest coins, and whether there is one.
func firstFewer(coins []int) (sum int, found bool) {
	// If there is one, it is smaller than the two greatest coins together (P12.9): no other sums are examined.
	top := 2 * greatestOf(coins)
	known := reachAll(coins, top)
	for sum := range top {
		if known[sum].few < together(byGreatest(coins, sum)) {
			return sum, true
		}
	}
	return 0, false
}

// worth returns the sum that is paid by so many of each coin.
func worth(coins, payment []int) int {
	sum := 0
	for place, coin := range coins {
		sum += coin * payment[place]
	}
	return sum
}
