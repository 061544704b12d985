package coin_test

import (
	"math/rand"
	"slices"
	"testing"

	"headword/api"
	"headword/coin"
)

func examineFew(t *testing.T, coins []int, sum, want int) {
	t.Helper()
	if few, e := coin.Few(coins, sum); few != want || e != api.OK {
		t.Errorf("Few of %v, %d: %d %d, want %d", coins, sum, few, e, want)
	}
}

func examineFirst(t *testing.T, coins []int, sum int, want []int) {
	t.Helper()
	if first, e := coin.First(coins, sum); !slices.Equal(first, want) || e != api.OK {
		t.Errorf("First of %v, %d: %v %d, want %v", coins, sum, first, e, want)
	}
}

func examineGreatest(t *testing.T, coins []int, sum int, want []int) {
	t.Helper()
	if greatest, e := coin.Greatest(coins, sum); !slices.Equal(greatest, want) || e != api.OK {
		t.Errorf("Greatest of %v, %d: %v %d, want %v", coins, sum, greatest, e, want)
	}
}

func examineWays(t *testing.T, coins []int, sum, want int) {
	t.Helper()
	if ways, e := coin.Ways(coins, sum); ways != want || e != api.OK {
		t.Errorf("Ways of %v, %d: %d %d, want %d", coins, sum, ways, e, want)
	}
}

// P12.2, P12.6
func TestPayments(t *testing.T) {
	for _, x := range []struct {
		coins           []int
		sum, few        int
		first, greatest []int
		ways            int
	}{
		{coinsA(), 6, 2, list(0, 2, 0), list(2, 0, 1), 4},
		{coinsA(), 7, 2, list(0, 1, 1), list(0, 1, 1), 5},
		{coinsA(), 0, 0, list(0, 0, 0), list(0, 0, 0), 1}, // by no coin
		{coinsA(), 1, 1, list(1, 0, 0), list(1, 0, 0), 1},
		{coinsA(), 5, 2, list(1, 0, 1), list(1, 0, 1), 3},
		{coinsA(), 10, 3, list(0, 2, 1), list(2, 0, 2), 8},
		{coinsA(), 200, 50, list(0, 0, 50), list(0, 0, 50), 1734},
		{coinsB(), 11, 2, list(1, 0, 1), list(1, 0, 1), 4},
		{coinsB(), 18, 5, list(3, 1, 1), list(3, 1, 1), 6},
		{coinsB(), 10, 1, list(0, 0, 1), list(0, 0, 1), 4},
		{coinsC(), 5, 3, list(1, 2), list(1, 2), 3},
		{list(1), 0, 0, list(0), list(0), 1},
		{list(1), 200, 200, list(200), list(200), 1},
		{list(1, 40), 200, 5, list(0, 5), list(0, 5), 6},
		{list(1, 40), 199, 43, list(39, 4), list(39, 4), 5},
		{list(1, 2, 3), 4, 2, list(0, 2, 0), list(1, 0, 1), 4}, // the greatest coins are as few, but not first
		{list(1, 4, 5, 6), 10, 2, list(0, 0, 2, 0), list(0, 1, 0, 1), 8},
		{list(1, 4, 6, 9), 10, 2, list(0, 1, 1, 0), list(1, 0, 0, 1), 6},
		{list(1, 10, 25), 30, 3, list(0, 3, 0), list(5, 0, 1), 5},
		{list(1, 5, 10, 25), 100, 4, list(0, 0, 0, 4), list(0, 0, 0, 4), 242},
		{list(1, 39, 40), 78, 2, list(0, 2, 0), list(38, 0, 1), 4},
		{list(1, 2, 4, 5), 8, 2, list(0, 0, 2, 0), list(1, 1, 0, 1), 11},
		{list(1, 2, 3, 4, 5, 6), 200, 34, list(0, 0, 0, 0, 4, 30), list(0, 1, 0, 0, 0, 33), 4775383},
		{list(1, 36, 37, 38, 39, 40), 199, 5, list(0, 0, 0, 0, 1, 4), list(0, 0, 0, 0, 1, 4), 251},
	} {
		examineFew(t, x.coins, x.sum, x.few)
		examineFirst(t, x.coins, x.sum, x.first)
		examineGreatest(t, x.coins, x.sum, x.greatest)
		examineWays(t, x.coins, x.sum, x.ways)
	}
}

// examinePayments compares the payments of a sum with all that there are, and returns the first one.
func examinePayments(t *testing.T, coins []int, sum int) []int {
	t.Helper()
	first, ways := slowFirst(coins, sum)
	examineFew(t, coins, sum, slowTotal(first))
	examineFirst(t, coins, sum, first)
	examineGreatest(t, coins, sum, slowGreatest(coins, sum))
	examineWays(t, coins, sum, ways)
	return first
}

// P12.2, P12.6, M1, M3
func TestAllSmallPayments(t *testing.T) {
	for _, coins := range coinsUpTo(coin.MaxCoins, 8) {
		for sum := range 25 {
			examinePayments(t, coins, sum)
		}
	}
}

// P12.2, P12.6, M1, M3
func TestPaymentsOfManyCoins(t *testing.T) {
	r := rand.New(rand.NewSource(2))
	found := map[string]int{}
	for _, coins := range manyCoins(3) {
		sum := r.Intn(payable(coins) + 1)
		first := examinePayments(t, coins, sum)
		greatest := slowGreatest(coins, sum)
		switch {
		case slowTotal(first) < slowTotal(greatest):
			found["fewer"]++
		case !slices.Equal(first, greatest):
			found["as few"]++
		default:
			found["the same"]++
		}
	}
	if found["fewer"] < 50 || found["as few"] < 50 || found["the same"] < 50 {
		t.Errorf("so often the first payment is another one than the one by greatest coins: %v", found)
	}
}

// P12.2: the fewest coins of great sums, too. Each coins have every fourth sum, so that all are in turn.
func TestFewOfAllSums(t *testing.T) {
	for i, coins := range append(edgeCoins(), drawCoins(4, 21)...) {
		fews := slowFews(coins, coin.MaxSum)
		for sum := i % 4; sum <= coin.MaxSum; sum += 4 {
			examineFew(t, coins, sum, fews[sum])
			examineGreatest(t, coins, sum, slowGreatest(coins, sum))
		}
	}
}

func examinePurse(t *testing.T, coins, purse []int, sum int, want []int, e api.Errno) {
	t.Helper()
	if payment, f := coin.Purse(coins, purse, sum); !slices.Equal(payment, want) || f != e {
		t.Errorf("Purse of %v, %v, %d: %v %d, want %v %d", coins, purse, sum, payment, f, want, e)
	}
}

// P12.8, R1, R2
func TestPurse(t *testing.T) {
	for _, x := range []struct {
		coins, purse []int
		sum          int
		want         []int
		e            api.Errno
	}{
		{coinsA(), list(2, 1, 1), 6, list(2, 0, 1), 0},
		{coinsA(), list(3, 1, 0), 6, list(3, 1, 0), 0},
		{coinsA(), list(0, 0, 1), 6, nil, api.ErrLost},
		{coinsA(), list(1, 1), 6, nil, api.ErrShape},
		{coinsA(), list(0, 2, 0), 6, list(0, 2, 0), 0},
		{coinsA(), list(200, 200, 200), 6, list(0, 2, 0), 0},
		{coinsA(), list(200, 1, 200), 6, list(2, 0, 1), 0},
		{coinsA(), list(1, 1, 200), 6, nil, api.ErrLost},
		{coinsA(), list(1, 3, 2), 9, list(0, 3, 0), 0}, // as few coins as 1, 0, 2, which would come later
		{coinsA(), list(1, 2, 2), 9, list(1, 0, 2), 0},
		{coinsA(), list(0, 0, 0), 0, list(0, 0, 0), 0},
		{coinsA(), list(200, 200, 200), 0, list(0, 0, 0), 0},
		{coinsA(), list(0, 0, 0), 1, nil, api.ErrLost},
		{coinsA(), list(0, 200, 200), 5, nil, api.ErrLost},
		{coinsA(), list(199, 0, 0), 200, nil, api.ErrLost},
		{coinsA(), list(200, 0, 0), 200, list(200, 0, 0), 0},
		{coinsA(), list(0, 0, 50), 200, list(0, 0, 50), 0},
		{coinsA(), list(0, 4, 47), 200, list(0, 4, 47), 0},
		{coinsA(), list(200, 4, 46), 200, list(4, 4, 46), 0},
		{list(1), list(5), 5, list(5), 0},
		{list(1), list(5), 6, nil, api.ErrLost},
		{list(1), list(200), 200, list(200), 0},
		{list(1, 40), list(38, 4), 199, nil, api.ErrLost},
		{list(1, 40), list(39, 4), 199, list(39, 4), 0},
		{list(1, 2, 3), list(2, 1, 1), 4, list(1, 0, 1), 0}, // 0, 2, 0 is too much
		{list(1, 2, 3), list(2, 2, 1), 4, list(0, 2, 0), 0},
		{list(1, 2, 3, 4, 5, 6), list(1, 1, 1, 1, 1, 1), 21, list(1, 1, 1, 1, 1, 1), 0},
		{list(1, 2, 3, 4, 5, 6), list(1, 1, 1, 1, 1, 1), 22, nil, api.ErrLost},
		{list(1, 2, 3, 4, 5, 6), list(1, 1, 1, 1, 1, 1), 12, list(0, 0, 1, 1, 1, 0), 0},
		{coinsA(), nil, 6, nil, api.ErrShape},
		{coinsA(), list(), 0, nil, api.ErrShape},
		{coinsA(), list(2, 1, 1, 0), 6, nil, api.ErrShape},
		{coinsA(), list(-1, 201), 6, nil, api.ErrShape}, // the shape comes before the numbers
		{coinsA(), make([]int, 100000), 6, nil, api.ErrShape},
		{coinsA(), list(-1, 2, 0), 6, nil, api.ErrRange},
		{coinsA(), list(2, 2, 201), 6, nil, api.ErrRange},
		{coinsA(), list(2, -1, 201), 6, nil, api.ErrRange},
		{coinsA(), list(0, 0, -1), 6, nil, api.ErrRange}, // the numbers come before what is lost
		{coinsA(), list(0, 0, 201), 0, nil, api.ErrRange},
		{coinsA(), list(1<<63-1, 0, 0), 6, nil, api.ErrRange},
		{coinsA(), list(0, -1<<63, 0), 6, nil, api.ErrRange},
		{list(1), list(201), 200, nil, api.ErrRange},
	} {
		examinePurse(t, x.coins, x.purse, x.sum, x.want, x.e)
	}
}

// examineOnePurse compares Purse with all payments, and returns how many a purse has.
func examineOnePurse(t *testing.T, coins, purse []int, sum int) int {
	t.Helper()
	want, ways := slowPurse(coins, purse, sum)
	e := api.OK
	if ways == 0 {
		e = api.ErrLost
	}
	examinePurse(t, coins, purse, sum, want, e)
	return ways
}

// P12.8: all purses with few of each coin, and all sums that they could pay.
func TestAllSmallPurses(t *testing.T) {
	found := map[bool]int{}
	for _, coins := range lists(coinsA(), list(1, 2, 3), list(1, 4, 6), list(1, 2, 4), list(1, 4, 5)) {
		for i := range 6 * 6 * 6 {
			purse := list(i%6, i/6%6, i/36)
			for sum := range slowWorth(coins, purse) + 2 {
				found[examineOnePurse(t, coins, purse, sum) > 0]++
			}
		}
	}
	if found[false] < 1000 || found[true] < 1000 {
		t.Errorf("so often purses pay a sum: %v", found)
	}
}

// P12.8, M1, M3
func TestManyPurses(t *testing.T) {
	r := rand.New(rand.NewSource(5))
	found := map[int]int{}
	for _, coins := range manyCoins(6) {
		for range 4 {
			purse, below := list(), 1+r.Intn(12)
			for range coins {
				purse = append(purse, r.Intn(below))
			}
			sum := r.Intn(min(payable(coins), slowWorth(coins, purse)) + 1)
			found[min(3, examineOnePurse(t, coins, purse, sum))]++
		}
	}
	for many := range 4 {
		if found[many] < 100 {
			t.Errorf("so often purses have each number of payments: %v", found)
		}
	}
}
