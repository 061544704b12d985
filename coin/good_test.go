package coin_test

import (
	"math/rand"
	"slices"
	"testing"

	"headword/api"
	"headword/coin"
)

// examineWhy compares Good and Why with what they are to return.
func examineWhy(t *testing.T, coins []int, want int, e api.Errno) {
	t.Helper()
	if sum, f := coin.Why(coins); sum != want || f != e {
		t.Errorf("Why of %v: %d %d, want %d %d", coins, sum, f, want, e)
	}
	if good, f := coin.Good(coins); good != (e == api.ErrClash) || f != api.OK {
		t.Errorf("Good of %v: %t %d, but Why returns %d", coins, good, f, e)
	}
}

// P12.3, R2
func TestGoodAndWhy(t *testing.T) {
	for _, x := range []struct {
		coins []int
		want  int
		e     api.Errno
	}{
		{coinsA(), 6, api.OK},
		{coinsB(), 0, api.ErrClash},
		{coinsC(), 0, api.ErrClash},
		{list(1), 0, api.ErrClash},
		{list(1, 40), 0, api.ErrClash},
		{list(1, 39), 0, api.ErrClash},
		{list(1, 2, 3), 0, api.ErrClash}, // as few coins are not fewer
		{list(1, 2, 3, 4, 5, 6), 0, api.ErrClash},
		{list(1, 2, 5, 10, 20), 0, api.ErrClash},
		{list(1, 2, 4, 8, 16, 32), 0, api.ErrClash},
		{list(1, 8, 16, 24, 32, 40), 0, api.ErrClash},
		{list(1, 2, 4, 5, 8), 0, api.ErrClash}, // good, though not without the last one
		{list(1, 2, 4, 5), 8, api.OK},
		{list(1, 7, 10), 14, api.OK},
		{list(1, 10, 25), 30, api.OK},
		{list(1, 5, 6, 9), 11, api.OK},
		{list(1, 5, 10, 20, 25), 40, api.OK},
		{list(1, 5, 10, 20, 25, 40), 0, api.ErrClash}, // likewise
		{list(1, 39, 40), 78, api.OK},                 // as great as possible
		{list(1, 36, 37, 38, 39, 40), 72, api.OK},
		{list(1, 20, 40), 0, api.ErrClash},
		{list(1, 21, 40), 42, api.OK},
	} {
		examineWhy(t, x.coins, x.want, x.e)
	}
}

// P12.3, M3, M4
func TestWhyOfManyCoins(t *testing.T) {
	found := map[api.Errno]int{}
	for _, coins := range slices.Concat(manyCoins(7), coinsUpTo(4, 16), drawCoins(8, 1500), drawGood(9, 200)) {
		want, e := slowWhy(coins)
		examineWhy(t, coins, want, e)
		found[e]++
	}
	if found[api.OK] < 1000 || found[api.ErrClash] < 500 {
		t.Errorf("so often Why returns each error: %v", found)
	}
}

func examineProves(t *testing.T, coins []int, sum int, payment []int, want api.Errno) {
	t.Helper()
	if e := coin.Proves(coins, sum, payment); e != want {
		t.Errorf("Proves of %v, %d, %.99v: %d, want %d", coins, sum, payment, e, want)
	}
}

// P12.4, R1
func TestProves(t *testing.T) {
	for _, x := range []struct {
		coins   []int
		sum     int
		payment []int
		want    api.Errno
	}{
		{coinsA(), 6, list(0, 2, 0), api.OK},
		{coinsA(), 6, list(2, 0, 1), api.ErrProof},
		{coinsA(), 6, list(0, 1, 0), api.ErrSum},
		{coinsA(), 7, list(0, 1, 1), api.ErrProof},
		{coinsA(), 6, list(0, 2), api.ErrShape},
		{coinsA(), 6, list(3, 1, 0), api.ErrProof},
		{coinsA(), 6, list(6, 0, 0), api.ErrProof},
		{coinsA(), 0, list(0, 0, 0), api.ErrProof},
		{coinsA(), 10, list(0, 2, 1), api.OK},
		{coinsA(), 198, list(0, 2, 48), api.OK}, // not the smallest sum
		{coinsA(), 198, list(2, 0, 49), api.ErrProof},
		{list(1, 2, 3), 4, list(0, 2, 0), api.ErrProof}, // as few are not fewer
		{list(1, 39, 40), 78, list(0, 2, 0), api.OK},
		{list(1, 39, 40), 117, list(0, 3, 0), api.OK},
		{list(1, 39, 40), 157, list(0, 3, 1), api.OK},
		{list(1, 39, 40), 157, list(1, 4, 0), api.OK}, // fewer, though not as few as possible
		{list(1, 39, 40), 197, list(41, 4, 0), api.ErrProof},
		{list(1), 200, list(200), api.ErrProof},
		{list(1), 199, list(200), api.ErrSum},
		{coinsA(), 200, list(200, 200, 200), api.ErrSum},
		{coinsA(), 6, list(0, 0, 0), api.ErrSum},
		{coinsA(), 0, list(0, 0, 1), api.ErrSum},
		{coinsA(), 6, nil, api.ErrShape},
		{coinsA(), 6, list(0, 2, 0, 0), api.ErrShape},
		{coinsA(), 6, list(-1), api.ErrShape}, // the shape comes before the numbers
		{coinsA(), 6, list(201, 201), api.ErrShape},
		{coinsA(), 6, make([]int, 100000), api.ErrShape},
		{coinsA(), 6, list(-3, 3, 0), api.ErrRange}, // a number below 0 comes before the sum
		{coinsA(), 6, list(2, 0, -1), api.ErrRange},
		{coinsA(), 6, list(201, 0, 0), api.ErrRange},
		{coinsA(), 6, list(0, 201, 0), api.ErrRange},
		{coinsA(), 6, list(1<<63-1, 0, 0), api.ErrRange},
		{coinsA(), 6, list(0, 0, -1<<63), api.ErrRange},
		{list(1, 2, 4), 6, list(6, 1<<62, 1<<62), api.ErrRange},
		{list(1), 200, list(201), api.ErrRange},
	} {
		examineProves(t, x.coins, x.sum, x.payment, x.want)
	}
}

// P12.4: all lists of small numbers, right or wrong, for all small sums.
func TestProvesOfAllSmallPayments(t *testing.T) {
	found := map[api.Errno]int{}
	for _, coins := range lists(coinsA(), coinsC(), list(1), list(1, 4, 5), list(1, 2, 3), list(1, 3, 4, 7), list(1, 4, 5, 8)) {
		all := lists(nil)
		for i := 0; i < len(all); i++ {
			for number := -1; number < 5 && len(all[i]) < 4; number++ {
				all = append(all, append(slices.Clone(all[i]), number))
			}
		}
		for _, payment := range all {
			for sum := range 35 {
				want := slowProves(coins, sum, payment)
				examineProves(t, coins, sum, payment, want)
				found[want]++
			}
		}
	}
	for _, e := range []api.Errno{api.OK, api.ErrShape, api.ErrRange, api.ErrSum, api.ErrProof} {
		if found[e] < 20 {
			t.Errorf("so often Proves returns each error: %v", found)
		}
	}
}

// P12.4, M4: of all payments of some sums just those with fewer coins are proofs.
func TestProvesOfAllPayments(t *testing.T) {
	r := rand.New(rand.NewSource(10))
	found := map[api.Errno]int{}
	for _, coins := range append(drawCoins(11, 300), edgeCoins()...) {
		sum := r.Intn(payable(coins) + 1)
		examined := 0
		eachPayment(coins, sum, func(payment []int) {
			if examined++; examined > 1000 {
				return
			}
			want := slowProves(coins, sum, payment)
			examineProves(t, coins, sum, payment, want)
			found[want]++
		})
		first, _ := slowFirst(coins, sum)
		examineProves(t, coins, sum, first, slowProves(coins, sum, first))
	}
	if found[api.OK] < 100 || found[api.ErrProof] < 100 || len(found) > 2 {
		t.Errorf("so often Proves returns each error: %v", found)
	}
}

func examineWith(t *testing.T, coins []int, one int, want bool, e api.Errno) {
	t.Helper()
	if good, f := coin.With(coins, one); good != want || f != e {
		t.Errorf("With of %v, %d: %t %d, want %t %d", coins, one, good, f, want, e)
	}
}

// P12.5, R1, R2
func TestWith(t *testing.T) {
	for _, x := range []struct {
		coins []int
		coin  int
		want  bool
		e     api.Errno
	}{
		{coinsC(), 5, true, api.OK},
		{coinsC(), 4, true, api.OK},
		{coinsC(), 3, true, api.OK},
		{coinsC(), 2, false, api.ErrOrder},
		{coinsC(), 41, false, api.ErrRange},
		{coinsA(), 5, false, api.ErrClash},
		{list(1, 3), 4, false, api.OK},
		{list(1, 3), 5, true, api.OK},
		{list(1, 3), 6, true, api.OK},
		{list(1, 10), 25, false, api.OK},
		{list(1, 10), 20, true, api.OK},
		{list(1, 5, 10), 25, true, api.OK},
		{list(1, 5, 10, 20), 25, false, api.OK},
		{list(1, 39), 40, false, api.OK},
		{list(1, 2, 4), 5, false, api.OK},
		{list(1, 2, 4, 5), 8, false, api.ErrClash}, // though all of them would be good
		{list(1), 2, true, api.OK},
		{list(1), 40, true, api.OK},
		{list(1, 2, 4, 8, 16), 32, true, api.OK}, // the sixth coin
		{list(1, 2, 3, 4, 5, 6), 7, false, api.ErrMany},
		{list(1, 2, 3, 4, 5, 6), 41, false, api.ErrMany}, // too many come before wrong coins
		{list(1, 2, 3, 4, 5, 6), 6, false, api.ErrMany},
		{list(1, 36, 37, 38, 39, 40), -1, false, api.ErrMany},
		{coinsA(), 41, false, api.ErrRange}, // the coin comes before the coins that are not good
		{coinsA(), 4, false, api.ErrOrder},
		{coinsA(), 3, false, api.ErrOrder},
		{list(1), 1, false, api.ErrOrder},
		{list(1), 0, false, api.ErrOrder},
		{list(1), -1, false, api.ErrOrder},
		{list(1, 40), 40, false, api.ErrOrder},
		{list(1, 40), 41, false, api.ErrRange},
		{list(1, 30), 20, false, api.ErrOrder},
		{coinsB(), 1<<63 - 1, false, api.ErrRange},
		{coinsB(), -1 << 63, false, api.ErrOrder},
	} {
		examineWith(t, x.coins, x.coin, x.want, x.e)
	}
}

// P12.5
func TestWithOfManyCoins(t *testing.T) {
	found := map[api.Errno]int{}
	goes := map[bool]int{}
	for i, coins := range slices.Concat(manyCoins(12), drawGood(13, 200)) {
		for one := i%6 - 2; one < 45; one += 6 {
			want, e := slowWith(coins, one)
			examineWith(t, coins, one, want, e)
			found[e]++
			if e == api.OK {
				goes[want]++
			}
		}
	}
	for _, e := range []api.Errno{api.OK, api.ErrMany, api.ErrRange, api.ErrOrder, api.ErrClash} {
		if found[e] < 100 {
			t.Errorf("so often With returns each error: %v", found)
		}
	}
	if goes[false] < 100 || goes[true] < 100 {
		t.Errorf("so often coins are good with one more: %v", goes)
	}
}
