package coin_test

import (
	"slices"
	"testing"

	"headword/api"
	"headword/coin"
)

func TestLimits(t *testing.T) {
	limits := list(coin.MaxCoins, coin.MaxCoin, coin.MaxSum, coin.MaxMany)
	if !slices.Equal(limits, list(6, 40, 200, 5)) {
		t.Errorf("limits %v", limits)
	}
}

// wrongCoins are coins with an error, and the error that counts.
var wrongCoins = []struct {
	coins []int
	want  api.Errno
}{
	{nil, api.ErrEmpty},
	{list(), api.ErrEmpty},
	{list(1, 2, 3, 4, 5, 6, 7), api.ErrMany},
	{list(0, 0, 0, 0, 0, 0, 0), api.ErrMany}, // too many come before wrong coins
	{list(2, 3, 4, 5, 6, 7, 8), api.ErrMany},
	{list(1, 1, 1, 1, 1, 1, 1), api.ErrMany},
	{make([]int, 100000), api.ErrMany},
	{list(0), api.ErrRange},
	{list(-1), api.ErrRange},
	{list(41), api.ErrRange}, // and not 1 either
	{list(1, 41), api.ErrRange},
	{list(1, 0), api.ErrRange}, // and not greater than the one before it either
	{list(1, -1), api.ErrRange},
	{list(40, 41), api.ErrRange},
	{list(1, 2, 3, 4, 5, 41), api.ErrRange},
	{list(1, 1<<63-1), api.ErrRange},
	{list(1, -1<<63), api.ErrRange},
	{list(-1 << 63), api.ErrRange},
	{list(1, 41, 2), api.ErrRange}, // the first coin with an error counts
	{list(1, 41, 41), api.ErrRange},
	{list(0, 0), api.ErrRange},
	{list(1, 3, 0, 2), api.ErrRange},
	{list(1, 1), api.ErrOrder},
	{list(2, 1), api.ErrOrder}, // and the first one is not 1
	{list(2, 2), api.ErrOrder},
	{list(3, 1), api.ErrOrder},
	{list(1, 3, 2), api.ErrOrder},
	{list(1, 3, 3), api.ErrOrder},
	{list(1, 3, 2, 41), api.ErrOrder},
	{list(1, 1, 0), api.ErrOrder},
	{list(1, 2, 3, 4, 5, 5), api.ErrOrder},
	{list(1, 2, 3, 4, 6, 5), api.ErrOrder},
	{list(1, 40, 1), api.ErrOrder},
	{list(1, 3, 2, 4), api.ErrOrder}, // greater than all but the one before it
	{list(2), api.ErrShape},
	{list(40), api.ErrShape},
	{list(2, 3), api.ErrShape},
	{list(2, 3, 4, 5, 6, 7), api.ErrShape},
	{list(35, 36, 37, 38, 39, 40), api.ErrShape},
}

// P12.1
func TestCheck(t *testing.T) {
	for _, coins := range manyCoins(1) {
		if e := coin.Check(coins); e != api.OK {
			t.Errorf("Check of %v: %d", coins, e)
		}
	}
	for _, x := range wrongCoins {
		if e := coin.Check(x.coins); e != x.want {
			t.Errorf("Check of %.99v: %d, want %d", x.coins, e, x.want)
		}
	}
}

// P12.1: each number at each place.
func TestCheckOfAllNumbers(t *testing.T) {
	for _, right := range lists(list(1), list(1, 40), list(1, 7, 9, 10, 30, 33)) {
		for place := range right {
			for number := -5; number < 50; number++ {
				coins := slices.Clone(right)
				coins[place] = number
				want := api.OK
				switch {
				case number < 1 || number > 40:
					want = api.ErrRange
				case !slices.IsSorted(coins) || len(slices.Compact(slices.Clone(coins))) < len(coins):
					want = api.ErrOrder
				case coins[0] > 1:
					want = api.ErrShape
				}
				if e := coin.Check(coins); e != want {
					t.Errorf("Check of %v: %d, want %d", coins, e, want)
				}
			}
		}
	}
}

// wrongSums are no sums.
var wrongSums = list(-1, 201, -200, 1000, 1<<63-1, -1<<63)

// results returns what all functions with a sum return, and their errors.
func results(coins, numbers []int, sum int) (numbersOfAll []int, errors []api.Errno) {
	few, e1 := coin.Few(coins, sum)
	first, e2 := coin.First(coins, sum)
	greatest, e3 := coin.Greatest(coins, sum)
	e4 := coin.Proves(coins, sum, numbers)
	ways, e5 := coin.Ways(coins, sum)
	pay, back, e6 := coin.Change(coins, sum)
	purse, e7 := coin.Purse(coins, numbers, sum)
	return slices.Concat(list(few, ways, pay, back), first, greatest, purse), []api.Errno{e1, e2, e3, e4, e5, e6, e7}
}

// examineErrors examines that all functions with a sum return an error, and nothing besides it.
func examineErrors(t *testing.T, coins, numbers []int, sum int, want api.Errno) {
	t.Helper()
	all, errors := results(coins, numbers, sum)
	if !slices.Equal(all, list(0, 0, 0, 0)) {
		t.Errorf("%.99v, %.99v, %d: %v besides an error", coins, numbers, sum, all)
	}
	if slices.ContainsFunc(errors, func(e api.Errno) bool { return e != want }) {
		t.Errorf("%.99v, %.99v, %d: errors %v, want %d", coins, numbers, sum, errors, want)
	}
}

// P12.1, R2: the error of the coins comes before all other ones, and there is no result besides it.
func TestErrorsOfCoins(t *testing.T) {
	for _, x := range wrongCoins {
		for _, numbers := range lists(nil, list(0), list(1), list(-1, 201), make([]int, len(x.coins)), flat(len(x.coins), -1), flat(20, 201)) {
			for _, sum := range append(list(0, 1, 6, 200), wrongSums...) {
				examineErrors(t, x.coins, numbers, sum, x.want)
			}
		}
		good, e1 := coin.Good(x.coins)
		why, e2 := coin.Why(x.coins)
		if good || why != 0 || e1 != x.want || e2 != x.want {
			t.Errorf("%.99v: %t %d, %d %d, want %d", x.coins, good, e1, why, e2, x.want)
		}
		for _, number := range list(0, 1, 2, 5, 6, -1, 41, 1<<63-1, -1<<63) {
			with, e3 := coin.With(x.coins, number)
			reach, e4 := coin.Reach(x.coins, number)
			if with || reach != 0 || e3 != x.want || e4 != x.want {
				t.Errorf("%.99v, %d: %t %d, %d %d, want %d", x.coins, number, with, e3, reach, e4, x.want)
			}
		}
	}
}

// P12.1, R1, R2: the error of the sum comes next.
func TestErrorsOfSums(t *testing.T) {
	for _, coins := range edgeCoins() {
		for _, sum := range wrongSums {
			for _, numbers := range lists(nil, list(0), flat(len(coins), 0), flat(len(coins), 200), flat(len(coins), -1), flat(len(coins), 201), flat(7, 0)) {
				examineErrors(t, coins, numbers, sum, api.ErrRange)
			}
		}
	}
}

// P12.1: all sums from 0 to 200, and no others.
func TestAllSums(t *testing.T) {
	for _, coins := range lists(list(1), list(1, 40)) {
		for sum := -10; sum < 250; sum++ {
			want := api.OK
			if sum < 0 || sum > 200 {
				want = api.ErrRange
			}
			_, errors := results(coins, flat(len(coins), 200), sum)
			errors[3] = want // of Proves, which has an error for each sum
			if slices.ContainsFunc(errors, func(e api.Errno) bool { return e != want }) {
				t.Errorf("%v, %d: errors %v, want %d", coins, sum, errors, want)
			}
		}
	}
}
