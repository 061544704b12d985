package coin_test

import (
	"math/rand"
	"slices"
	"testing"

	"headword/api"
	"headword/coin"
)

func few(t *testing.T, coins []int, sum int) int {
	t.Helper()
	n, e := coin.Few(coins, sum)
	if e != api.OK {
		t.Fatalf("Few of %v, %d: %d", coins, sum, e)
	}
	return n
}

func greatest(t *testing.T, coins []int, sum int) int {
	t.Helper()
	payment, e := coin.Greatest(coins, sum)
	if e != api.OK {
		t.Fatalf("Greatest of %v, %d: %d", coins, sum, e)
	}
	return slowTotal(payment)
}

func ways(t *testing.T, coins []int, sum int) int {
	t.Helper()
	n, e := coin.Ways(coins, sum)
	if e != api.OK {
		t.Fatalf("Ways of %v, %d: %d", coins, sum, e)
	}
	return n
}

func reach(t *testing.T, coins []int, many int) int {
	t.Helper()
	sum, e := coin.Reach(coins, many)
	if e != api.OK {
		t.Fatalf("Reach of %v, %d: %d", coins, many, e)
	}
	return sum
}

func isGood(t *testing.T, coins []int) bool {
	t.Helper()
	good, e := coin.Good(coins)
	if e != api.OK {
		t.Fatalf("Good of %v: %d", coins, e)
	}
	return good
}

// P12.9
func TestFewCoinsAreGood(t *testing.T) {
	for _, coins := range coinsUpTo(2, coin.MaxCoin) {
		examineWhy(t, coins, 0, api.ErrClash)
	}
}

// P12.9
func TestFirstSumIsBetween(t *testing.T) {
	found := map[string]int{}
	for _, coins := range slices.Concat(manyCoins(17), coinsUpTo(3, coin.MaxCoin), coinsUpTo(4, 16), drawCoins(18, 2000)) {
		sum, e := coin.Why(coins)
		if e != api.OK {
			continue
		}
		n := len(coins)
		if n < 3 || sum <= coins[2]+1 || sum >= coins[n-2]+coins[n-1] {
			t.Errorf("Why of %v: %d", coins, sum)
			continue
		}
		if sum == coins[2]+2 {
			found["as small as possible"]++
		}
		if sum == coins[n-2]+coins[n-1]-1 {
			found["as great as possible"]++
		}
		first, _ := coin.First(coins, sum)
		examineProves(t, coins, sum, first, api.OK)
	}
	if found["as small as possible"] < 5 || found["as great as possible"] < 5 {
		t.Errorf("so often the first sum is near its bounds: %v", found)
	}
}

// P12.3: shortly before the first sum no payment has fewer coins than the one by greatest coins, and for it one has.
func TestNoSumBeforeTheFirst(t *testing.T) {
	for _, coins := range append(drawCoins(19, 100), edgeCoins()...) {
		why, e := coin.Why(coins)
		if e == api.ErrClash {
			why = coin.MaxSum + 1
		}
		for sum := max(0, why-12); sum < why; sum++ {
			if few(t, coins, sum) != greatest(t, coins, sum) {
				t.Errorf("Why of %v: %d %d, and not %d", coins, why, e, sum)
			}
		}
		if e == api.OK && few(t, coins, why) >= greatest(t, coins, why) {
			t.Errorf("Why of %v: %d", coins, why)
		}
	}
}

// P12.10
func TestOneCoinMore(t *testing.T) {
	found := map[bool]int{}
	for _, coins := range slices.Concat(coinsUpTo(5, 8), coinsUpTo(3, 14), drawGood(20, 150), edgeCoins()) {
		if len(coins) == coin.MaxCoins || !isGood(t, coins) {
			continue
		}
		d := slices.Max(coins)
		for c := d + 1; c <= coin.MaxCoin; c += 3 {
			m := 1
			for m*d < c {
				m++
			}
			want := greatest(t, added(coins, c), m*d) <= m
			examineWith(t, coins, c, want, api.OK)
			if isGood(t, added(coins, c)) != want {
				t.Errorf("Good of %v: %t", added(coins, c), !want)
			}
			found[want]++
		}
	}
	if found[false] < 100 || found[true] < 100 {
		t.Errorf("so often good coins are good with one more: %v", found)
	}
}

// fewsOf returns the fewest coins of all sums up to a greatest one.
func fewsOf(t *testing.T, coins []int, last int) []int {
	t.Helper()
	var fews []int
	for sum := range last + 1 {
		fews = append(fews, few(t, coins, sum))
	}
	return fews
}

// P12.11
func TestFewOfParts(t *testing.T) {
	for _, coins := range append(drawCoins(21, 30), edgeCoins()...) {
		fews := fewsOf(t, coins, 80)
		for sum := range fews {
			for part := range sum {
				if fews[sum] > fews[part]+fews[sum-part] {
					t.Errorf("%v: %d needs %d coins, %d and %d need %d and %d", coins, sum, fews[sum], part, sum-part, fews[part], fews[sum-part])
				}
			}
			isOneMore := func(c int) bool { return c <= sum && fews[sum] == fews[sum-c]+1 }
			if sum > 0 && !slices.ContainsFunc(coins, isOneMore) {
				t.Errorf("%v: %d needs %d coins, and without each coin not one less", coins, sum, fews[sum])
			}
			if greatest(t, coins, sum) < fews[sum] {
				t.Errorf("%v: %d needs %d coins, and by greatest coins %d", coins, sum, fews[sum], greatest(t, coins, sum))
			}
		}
	}
}

// P12.2, M2: First is a payment with the fewest coins, of great sums, too.
func TestFirstIsAPayment(t *testing.T) {
	r := rand.New(rand.NewSource(22))
	for _, coins := range manyCoins(23) {
		sum := r.Intn(coin.MaxSum + 1)
		first, e := coin.First(coins, sum)
		if e != api.OK || slowWorth(coins, first) != sum || slowTotal(first) != few(t, coins, sum) {
			t.Errorf("First of %v, %d: %v %d", coins, sum, first, e)
		}
	}
}

// drawOther draws a coin that coins do not have.
func drawOther(r *rand.Rand, coins []int) int {
	for {
		if c := 2 + r.Intn(39); !slices.Contains(coins, c) {
			return c
		}
	}
}

// P12.12
func TestWaysWithOneCoinMore(t *testing.T) {
	for sum := range coin.MaxSum + 1 {
		examineWays(t, list(1), sum, 1)
	}
	r := rand.New(rand.NewSource(24))
	for _, coins := range manyCoins(25) {
		if len(coins) == coin.MaxCoins {
			continue
		}
		c := drawOther(r, coins)
		more := added(coins, c)
		for _, sum := range list(r.Intn(c), c, c+r.Intn(coin.MaxSum-c+1)) {
			want := ways(t, coins, sum)
			if sum >= c {
				want += ways(t, more, sum-c)
			}
			examineWays(t, more, sum, want)
		}
	}
}

// P12.13
func TestMoreCoins(t *testing.T) {
	r := rand.New(rand.NewSource(26))
	found := map[string]int{}
	for _, coins := range manyCoins(27) {
		before := -1
		for many := range coin.MaxMany + 1 {
			now := reach(t, coins, many)
			if now <= before {
				t.Errorf("Reach of %v: with %d coins %d, and with one less %d", coins, many, now, before)
			}
			before = now
		}
		if len(coins) == coin.MaxCoins {
			continue
		}
		more := added(coins, drawOther(r, coins))
		sum, many := r.Intn(coin.MaxSum+1), r.Intn(coin.MaxMany+1)
		one, other := few(t, coins, sum), few(t, more, sum)
		if other > one || ways(t, more, sum) < ways(t, coins, sum) || reach(t, more, many) < reach(t, coins, many) {
			t.Errorf("%v and %v: of %d, and with %d coins, more is worse", coins, more, sum, many)
		}
		if other < one {
			found["fewer coins"]++
		}
		if reach(t, more, many) > reach(t, coins, many) {
			found["a greater reach"]++
		}
	}
	if found["fewer coins"] < 100 || found["a greater reach"] < 50 {
		t.Errorf("so often more is better: %v", found)
	}
}

// P12.13
func TestFullerPurses(t *testing.T) {
	r := rand.New(rand.NewSource(28))
	found := map[string]int{}
	for _, coins := range slices.Concat(manyCoins(29), drawCoins(30, 600)) {
		var purse, fuller []int
		for range coins {
			purse = append(purse, r.Intn(5))
			fuller = append(fuller, purse[len(purse)-1]+r.Intn(2)*r.Intn(3))
		}
		sum := r.Intn(min(coin.MaxSum, slowWorth(coins, purse)) + 1)
		one, e := coin.Purse(coins, purse, sum)
		other, f := coin.Purse(coins, fuller, sum)
		switch {
		case e != api.OK && f == api.OK:
			found["paid now"]++
		case e == api.OK && (f != api.OK || slowTotal(other) > slowTotal(one)):
			t.Errorf("Purse of %v, %d: with %v %v, with %v %v %d", coins, sum, purse, one, fuller, other, f)
		case e == api.OK && slowTotal(other) < slowTotal(one):
			found["fewer coins"]++
		}
	}
	if found["paid now"] < 20 || found["fewer coins"] < 20 {
		t.Errorf("so often a fuller purse is better: %v", found)
	}
}

// P12.14
func TestChangeIsNotMore(t *testing.T) {
	r := rand.New(rand.NewSource(31))
	found := map[bool]int{}
	for _, coins := range manyCoins(32) {
		sum := r.Intn(coin.MaxSum + 1)
		pay, back, e := coin.Change(coins, sum)
		n := few(t, coins, sum)
		if e != api.OK || pay+back > n || pay+back == n && back > 0 || back < 0 {
			t.Errorf("Change of %v, %d: %d %d %d, but few is %d", coins, sum, pay, back, e, n)
		}
		found[back > 0]++
	}
	if found[false] < 50 || found[true] < 50 {
		t.Errorf("so often something is given back: %v", found)
	}
}

// P12.15
func TestPurseOfAPayment(t *testing.T) {
	r := rand.New(rand.NewSource(33))
	for _, coins := range manyCoins(34) {
		sum := r.Intn(coin.MaxSum + 1)
		first, _ := coin.First(coins, sum)
		byGreatest, _ := coin.Greatest(coins, sum)
		examinePurse(t, coins, first, sum, first, api.OK)
		examinePurse(t, coins, byGreatest, sum, byGreatest, api.OK)
		left, other := sum, make([]int, len(coins))
		for i := len(coins) - 1; i > 0; i-- {
			other[i] = r.Intn(left/coins[i] + 1)
			left -= other[i] * coins[i]
		}
		other[0] = left
		examinePurse(t, coins, other, sum, other, api.OK)
	}
}

// P12.15
func TestPurseWithEnough(t *testing.T) {
	r := rand.New(rand.NewSource(35))
	for _, coins := range manyCoins(36) {
		sum := r.Intn(coin.MaxSum + 1)
		first, _ := coin.First(coins, sum)
		examinePurse(t, coins, flat(len(coins), coin.MaxSum), sum, first, api.OK)
		var enough []int
		for _, c := range coins {
			enough = append(enough, sum/c)
		}
		examinePurse(t, coins, enough, sum, first, api.OK)
	}
}
