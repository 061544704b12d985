package coin_test

import (
	"math/rand"
	"testing"

	"headword/api"
	"headword/coin"
)

func examineReach(t *testing.T, coins []int, many, want int, e api.Errno) {
	t.Helper()
	if sum, f := coin.Reach(coins, many); sum != want || f != e {
		t.Errorf("Reach of %v, %d: %d %d, want %d %d", coins, many, sum, f, want, e)
	}
}

// P12.6, R2
func TestReach(t *testing.T) {
	for _, x := range []struct {
		coins      []int
		many, want int
		e          api.Errno
	}{
		{coinsA(), 1, 1, api.OK}, // 3 has one coin, too, but 2 has not
		{coinsA(), 2, 8, api.OK},
		{coinsA(), 3, 12, api.OK},
		{coinsA(), 6, 0, api.ErrRange},
		{coinsA(), 0, 0, api.OK},
		{coinsB(), 4, 8, api.OK},
		{coinsB(), 5, 18, api.OK},
		{list(1), 1, 1, api.OK},
		{list(1), 5, 5, api.OK},
		{coinsC(), 5, 10, api.OK},
		{list(1, 40), 5, 5, api.OK},
		{list(1, 40), 0, 0, api.OK},
		{list(1, 2, 3, 4, 5, 6), 1, 6, api.OK},
		{list(1, 2, 3, 4, 5, 6), 5, 30, api.OK},
		{list(1, 2, 3, 4, 5, 40), 5, 25, api.OK},
		{list(1, 6, 7), 5, 35, api.OK},
		{list(1, 3, 11, 18), 4, 44, api.OK},
		{list(1, 4, 12, 21), 5, 71, api.OK},
		{list(1, 3, 11, 15, 32), 4, 70, api.OK},
		{list(1, 3, 7, 9, 19, 24), 3, 52, api.OK},
		{coinsA(), -1, 0, api.ErrRange},
		{list(1), 6, 0, api.ErrRange},
		{coinsA(), 1<<63 - 1, 0, api.ErrRange},
		{coinsA(), -1 << 63, 0, api.ErrRange},
	} {
		examineReach(t, x.coins, x.many, x.want, x.e)
	}
}

// P12.6, M3
func TestReachOfManyCoins(t *testing.T) {
	for _, coins := range manyCoins(14) {
		for many := -1; many <= 6; many++ {
			if many < 0 || many > 5 {
				examineReach(t, coins, many, 0, api.ErrRange)
				continue
			}
			examineReach(t, coins, many, slowReach(coins, many), api.OK)
		}
	}
}

func examineChange(t *testing.T, coins []int, sum, wantPay, wantBack int) {
	t.Helper()
	if pay, back, e := coin.Change(coins, sum); pay != wantPay || back != wantBack || e != api.OK {
		t.Errorf("Change of %v, %d: %d %d %d, want %d %d", coins, sum, pay, back, e, wantPay, wantBack)
	}
}

// P12.7
func TestChange(t *testing.T) {
	for _, x := range []struct {
		coins          []int
		sum, pay, back int
	}{
		{coinsB(), 9, 1, 1},
		{coinsB(), 18, 2, 2},
		{coinsA(), 6, 2, 0},
		{coinsA(), 0, 0, 0},
		{coinsA(), 2, 2, 0}, // 3 less 1 has two coins, too, and 4 less 2 more
		{coinsB(), 2, 2, 0},
		{coinsB(), 3, 3, 0}, // 5 less 2 has three coins, too
		{coinsB(), 4, 1, 1},
		{coinsB(), 8, 1, 2},
		{coinsB(), 200, 20, 0},
		{coinsB(), 199, 20, 1}, // more than MaxSum is paid by
		{list(1), 5, 5, 0},
		{list(1), 200, 200, 0},
		{list(1, 40), 39, 1, 1},
		{list(1, 40), 20, 20, 0},
		{list(1, 40), 21, 1, 19},
		{list(1, 40), 199, 5, 1},
		{list(1, 9, 40), 191, 5, 1},
		{list(1, 37, 39), 200, 10, 0}, // 237 less 37 has ten coins, too
		{list(1, 2, 3, 4, 5, 6), 199, 34, 0},
	} {
		examineChange(t, x.coins, x.sum, x.pay, x.back)
	}
}

// P12.7, M3
func TestChangeOfManyCoins(t *testing.T) {
	r := rand.New(rand.NewSource(15))
	found := map[string]int{}
	for _, coins := range manyCoins(16) {
		few := slowFews(coins, coin.MaxSum)
		for _, sum := range list(r.Intn(12), r.Intn(coin.MaxSum+1)) {
			pay, back := slowChange(coins, sum)
			examineChange(t, coins, sum, pay, back)
			switch {
			case back == 0:
				found["nothing back"]++
			case pay+back < few[sum]-1:
				found["far fewer"]++
			default:
				found["fewer"]++
			}
		}
	}
	if found["nothing back"] < 50 || found["far fewer"] < 50 || found["fewer"] < 50 {
		t.Errorf("so often something is given back: %v", found)
	}
}

// P12.7: all sums of some coins.
func TestChangeOfAllSums(t *testing.T) {
	for _, coins := range lists(coinsA(), coinsB(), list(1, 10, 25), list(1, 40), list(1, 39, 40), list(1, 7, 31, 36)) {
		for sum := range coin.MaxSum + 1 {
			pay, back := slowChange(coins, sum)
			examineChange(t, coins, sum, pay, back)
		}
	}
}
