package coin

import (
	"slices"

	"headword/api"
)

// Few returns the fewest coins of a payment.
func Few(coins []int, sum int) (int, api.Errno) {
	if e := checkSum(coins, sum); e != api.OK {
		return 0, e
	}
	return reachAll(coins, sum)[sum].few, api.OK
}

// First returns the first payment with the fewest coins.
func First(coins []int, sum int) ([]int, api.Errno) {
	if e := checkSum(coins, sum); e != api.OK {
		return nil, e
	}
	known := reachAll(coins, sum)[sum]
	return slices.Clone(known.first[:len(coins)]), api.OK
}

// Greatest returns the payment by greatest coins.
func Greatest(coins []int, sum int) ([]int, api.Errno) {
	if e := checkSum(coins, sum); e != api.OK {
		return nil, e
	}
	return byGreatest(coins, sum), api.OK
}

// byGreatest returns the payment by greatest coins.
func byGreatest(coins []int, sum int) []int {
	payment := make([]int, len(coins))
	for place, coin := range slices.Backward(coins) {
		payment[place] = sum / coin
		sum %= coin
	}
	return payment
}

// Ways returns how many payments there are.
func Ways(coins []int, sum int) (int, api.Errno) {
	if e := checkSum(coins, sum); e != api.OK {
		return 0, e
	}
	return reachAll(coins, sum)[sum].ways, api.OK
}

// Purse returns the first payment with the fewest coins that has no more of each coin than a purse.
func Purse(coins, purse []int, sum int) ([]int, api.Errno) {
	if e := checkSum(coins, sum); e != api.OK {
		return nil, e
	}
	if e := checkNumbers(coins, purse); e != api.OK {
		return nil, e
	}
	known, found := reach(coins, purse, sum)[sum]
	if !found {
		return nil, api.ErrLost
	}
	return slices.Clone(known.first[:len(coins)]), api.OK
}
