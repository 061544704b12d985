package coin_test

import (
	"slices"
	"testing"

	"headword/coin"
)

// examineMemory examines that a change of a result does not change the next one.
func examineMemory(t *testing.T, name string, result func() []int) {
	t.Helper()
	r := result()
	want := slices.Clone(r)
	_ = append(r, 77)
	for i := range r {
		r[i] = 99
	}
	if again := result(); !slices.Equal(again, want) {
		t.Fatalf("%s: %v, then %v", name, want, again)
	}
}

// R4, P1: no memory is shared, no argument is changed, and equal arguments have equal results.
func TestOwnMemory(t *testing.T) {
	for _, coins := range append(drawCoins(37, 100), edgeCoins()...) {
		before := slices.Clone(coins)
		purse := flat(len(coins), 20)
		for _, sum := range list(0, 1, 11, 40) {
			examineMemory(t, "First", func() []int { r, _ := coin.First(coins, sum); return r })
			examineMemory(t, "Greatest", func() []int { r, _ := coin.Greatest(coins, sum); return r })
			examineMemory(t, "Purse", func() []int { r, _ := coin.Purse(coins, purse, sum); return r })
		}
		if !slices.Equal(coins, before) || !slices.Equal(purse, flat(len(coins), 20)) {
			t.Fatalf("the arguments %v are now %v, %v", before, coins, purse)
		}
	}
}

// R4: arguments are not changed, nor is what lies behind them.
func TestArgumentsStay(t *testing.T) {
	coins, numbers := list(1, 3, 4, 77, 77, 77, 77), list(2, 1, 1, 88, 88, 88, 88)
	coin.Check(coins[:3])
	coin.Few(coins[:3], 200)
	coin.First(coins[:3], 200)
	coin.Greatest(coins[:3], 200)
	coin.Good(coins[:3])
	coin.Why(coins[:3])
	coin.Proves(coins[:3], 6, numbers[:3])
	coin.With(coins[:2], 5)
	coin.With(coins[:2], 4)
	coin.With(coins[:1], 2)
	coin.Ways(coins[:3], 200)
	coin.Reach(coins[:3], 5)
	coin.Change(coins[:3], 200)
	coin.Purse(coins[:3], numbers[:3], 6)
	if !slices.Equal(coins, list(1, 3, 4, 77, 77, 77, 77)) || !slices.Equal(numbers, list(2, 1, 1, 88, 88, 88, 88)) {
		t.Errorf("the arguments are now %v, %v", coins, numbers)
	}
}

// R4: coins and numbers may be one list.
func TestOneListTwice(t *testing.T) {
	coins := coinsA()
	examinePurse(t, coins, coins, 8, list(0, 0, 2), 0)
	examinePurse(t, coins, coins, 9, list(0, 3, 0), 0)
	examineProves(t, coins, 1+9+16, coins, 14)
	if !slices.Equal(coins, coinsA()) {
		t.Errorf("the coins are now %v", coins)
	}
}

// allOf returns all results of a sum, and of a number of coins.
func allOf(coins []int, sum int) []int {
	all, errors := results(coins, flat(len(coins), 4), sum)
	reach, e1 := coin.Reach(coins, sum%6)
	why, e2 := coin.Why(coins)
	all = append(all, reach, why)
	for _, e := range append(errors, e1, e2) {
		all = append(all, int(e))
	}
	return all
}

// P1: equal arguments have equal results, whatever was called between.
func TestNothingIsRemembered(t *testing.T) {
	many := append(drawCoins(38, 150), edgeCoins()...)
	var first [][]int
	for i, coins := range many {
		first = append(first, allOf(coins, i%101))
	}
	for i, coins := range slices.Backward(many) {
		if again := allOf(coins, i%101); !slices.Equal(again, first[i]) {
			t.Errorf("%v, %d: %v, then %v", coins, i%101, first[i], again)
		}
	}
}
