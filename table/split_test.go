package table_test

import (
	"math/rand"
	"slices"
	"testing"

	"headword/api"
	"headword/table"
)

// examineSplit compares Split with what it is to return.
func examineSplit(t *testing.T, l [][]int, want []table.Share, e api.Errno) {
	t.Helper()
	if all, f := table.Split(l); !equalShares(all, want) || f != e {
		t.Errorf("Split of %v: %v %d, want %v %d", l, all, f, want, e)
	}
}

// P11.5, R2
func TestSplit(t *testing.T) {
	for _, x := range []struct {
		table [][]int
		want  []table.Share
		e     api.Errno
	}{
		{tableA(), shares(share(1, 0, 1, 2), share(1, 1, 2, 0)), api.OK},
		{tableB(), shares(share(2, 0, 1, 2), share(1, 1, 2, 0), share(1, 2, 0, 1)), api.OK}, // as many Times as possible
		{tableC(), nil, api.ErrSum},
		{flat(1, 0), nil, api.OK},
		{flat(4, 0), nil, api.OK},
		{flat(1, 9), shares(share(9, 0)), api.OK},
		{flat(2, 9), shares(share(9, 0, 1), share(9, 1, 0)), api.OK},
		{tableOf(2, 0, 4, 4, 0), shares(share(4, 1, 0)), api.OK},
		{tableOf(2, 3, 1, 1, 3), shares(share(3, 0, 1), share(1, 1, 0)), api.OK},
		{flat(3, 1), shares(share(1, 0, 1, 2), share(1, 1, 2, 0), share(1, 2, 0, 1)), api.OK},
		{tableOf(3, 3, 0, 0, 0, 1, 2, 0, 2, 1), shares(share(1, 0, 1, 2), share(2, 0, 2, 1)), api.OK},
		{tableOf(3, 0, 1, 0, 0, 0, 1, 1, 0, 0), shares(share(1, 1, 2, 0)), api.OK},
		{tableOf(3, 2, 1, 2, 2, 2, 1, 1, 2, 2), shares(share(2, 0, 1, 2), share(1, 1, 2, 0), share(2, 2, 0, 1)), api.OK},
		{flat(4, 1), shares(share(1, 0, 1, 2, 3), share(1, 1, 0, 3, 2), share(1, 2, 3, 0, 1), share(1, 3, 2, 1, 0)), api.OK},
		{flat(4, 9), shares(share(9, 0, 1, 2, 3), share(9, 1, 0, 3, 2), share(9, 2, 3, 0, 1), share(9, 3, 2, 1, 0)), api.OK},
		{tableOf(4, 9, 0, 0, 0, 0, 0, 0, 9, 0, 9, 0, 0, 0, 0, 9, 0), shares(share(9, 0, 3, 1, 2)), api.OK},
		{tableOf(2, 1, 1, 1, 0), nil, api.ErrSum},
		{tableOf(2, 1, 0, 1, 0), nil, api.ErrSum},
		{tableOf(2, 1, 1, 0, 0), nil, api.ErrSum},
		{tableOf(3, 0, 0, 0, 0, 0, 0, 0, 0, 1), nil, api.ErrSum},
	} {
		examineSplit(t, x.table, x.want, x.e)
	}
}

// P11.5, M3
func TestSplitOfManyTables(t *testing.T) {
	found := map[int]int{}
	for _, l := range manyTables(11) {
		want, e := slowSplit(l)
		examineSplit(t, l, want, e)
		if e == api.OK {
			found[len(want)]++
		}
	}
	for many := range 11 {
		if found[many] < 5 {
			t.Errorf("so often Split returns each number of shares: %v", found)
		}
	}
}

// examineSum compares Sum with what it is to return.
func examineSum(t *testing.T, size int, l []table.Share, want [][]int, e api.Errno) {
	t.Helper()
	if sums, f := table.Sum(size, l); !equal(sums, want) || f != e {
		t.Errorf("Sum of %d, %.99v: %v %d, want %v %d", size, l, sums, f, want, e)
	}
}

// P11.6
func TestSum(t *testing.T) {
	for _, x := range []struct {
		size   int
		shares []table.Share
		want   [][]int
	}{
		{3, shares(share(1, 0, 1, 2), share(1, 1, 2, 0)), tableA()},
		{3, shares(share(1, 1, 2, 0), share(1, 0, 1, 2)), tableA()},
		{3, shares(share(2, 0, 1, 2), share(1, 1, 2, 0), share(1, 2, 0, 1)), tableB()},
		{3, nil, flat(3, 0)},
		{1, nil, flat(1, 0)},
		{4, shares(), flat(4, 0)},
		{1, shares(share(9, 0)), flat(1, 9)},
		{1, shares(share(4, 0), share(5, 0)), flat(1, 9)},
		{1, slices.Repeat(shares(share(1, 0)), 9), flat(1, 9)},
		{2, slices.Repeat(shares(share(1, 0, 1), share(1, 1, 0)), 5), flat(2, 5)}, // ten shares, a plan twice
		{2, shares(share(9, 0, 1), share(9, 1, 0)), flat(2, 9)},
		{2, shares(share(2, 0, 1), share(1, 1, 0)), tableOf(2, 2, 1, 1, 2)},
		{3, shares(share(7, 1, 2, 0)), tableOf(3, 0, 7, 0, 0, 0, 7, 7, 0, 0)},
		{4, shares(share(3, 3, 0, 2, 1), share(4, 3, 1, 2, 0)), tableOf(4, 0, 0, 0, 7, 3, 4, 0, 0, 0, 0, 7, 0, 4, 3, 0, 0)},
		{4, shares(share(9, 0, 1, 2, 3), share(9, 1, 0, 3, 2), share(9, 2, 3, 0, 1), share(9, 3, 2, 1, 0)), flat(4, 9)},
	} {
		examineSum(t, x.size, x.shares, x.want, api.OK)
	}
}

// P11.6, R1, R2
func TestErrorsOfShares(t *testing.T) {
	for _, x := range []struct {
		size   int
		shares []table.Share
		want   api.Errno
	}{
		{0, nil, api.ErrRange},
		{5, nil, api.ErrRange},
		{-1, nil, api.ErrRange},
		{1<<63 - 1, nil, api.ErrRange},
		{-1 << 63, nil, api.ErrRange},
		{0, make([]table.Share, 11), api.ErrRange}, // the size comes before too many shares
		{5, make([]table.Share, 11), api.ErrRange},
		{5, shares(share(1, 0, 1, 2, 3, 4)), api.ErrRange},
		{0, shares(share(1)), api.ErrRange},
		{-1, shares(share(1, 0)), api.ErrRange},
		{1, make([]table.Share, 11), api.ErrMany}, // too many come before wrong shares
		{4, make([]table.Share, 100000), api.ErrMany},
		{1, slices.Repeat(shares(share(1, 0)), 11), api.ErrMany}, // and before too great numbers
		{1, slices.Repeat(shares(share(9, 0)), 11), api.ErrMany},
		{2, slices.Repeat(shares(share(1, 0, 0)), 11), api.ErrMany},
		{2, shares(share(1, 0, 1, 2)), api.ErrShape},
		{3, shares(share(1)), api.ErrShape},
		{3, shares(share(1, 0, 1)), api.ErrShape},
		{3, shares(share(1, 0, 1, 2, 3)), api.ErrShape},
		{3, make([]table.Share, 1), api.ErrShape},
		{1, shares(share(1, 9, 9)), api.ErrShape}, // the shape comes before the numbers
		{3, shares(share(0, 0, 1)), api.ErrShape}, // and before the Times
		{3, shares(share(37, 0, 1, 2, 3)), api.ErrShape},
		{3, shares(share(1, 0, 3, 1)), api.ErrNone},
		{3, shares(share(1, -1, 0, 1)), api.ErrNone},
		{3, shares(share(1, 3, 3, 3)), api.ErrNone},
		{1, shares(share(1, 1)), api.ErrNone},
		{1, shares(share(1, -1<<63)), api.ErrNone},
		{4, shares(share(1, 0, 1, 2, 4)), api.ErrNone},
		{3, shares(share(0, 0, 3, 1)), api.ErrNone}, // the plan comes before the Times
		{3, shares(share(0, 0, 0, 1)), api.ErrTwice},
		{3, shares(share(1, 0, 1, 1)), api.ErrTwice},
		{3, shares(share(1, 2, 2, 9)), api.ErrTwice}, // the first number with an error counts
		{3, shares(share(-1, 2, 2, 9)), api.ErrTwice},
		{3, shares(share(0, 0, 1, 2)), api.ErrRange},
		{3, shares(share(37, 0, 1, 2)), api.ErrRange},
		{3, shares(share(-1, 0, 1, 2)), api.ErrRange},
		{3, shares(share(1<<63-1, 0, 1, 2)), api.ErrRange},
		{3, shares(share(-1<<63, 0, 1, 2)), api.ErrRange},
		{3, shares(table.Share{Plan: list(0, 1, 2)}), api.ErrRange},
		{1, shares(share(1, 0), share(-1, 0)), api.ErrRange}, // added up it would be right
		{1, shares(share(10, 0), share(-1, 0)), api.ErrRange},
		{2, shares(share(1, 0, 1), share(1, 0, 1, 2)), api.ErrShape}, // the first share with an error counts
		{2, shares(share(37, 0, 1), share(1, 0, 1, 2)), api.ErrRange},
		{2, shares(share(1, 0, 1, 2), share(37, 0, 1)), api.ErrShape},
		{2, shares(share(1, 1, 1), share(1, 0, 2)), api.ErrTwice},
		{2, shares(share(1, 0, 2), share(1, 1, 1)), api.ErrNone},
		{2, shares(share(36, 0, 1), share(1, 1, 1)), api.ErrTwice}, // a wrong share comes before too great numbers
		{2, shares(share(36, 0, 1), share(36, 0, 1), share(1, 0, -1)), api.ErrNone},
		{2, shares(share(9, 0, 1), share(1, 0, 1), share(0, 0, 1)), api.ErrRange},
		{3, shares(share(10, 0, 1, 2)), api.ErrOver},
		{3, shares(share(36, 0, 1, 2)), api.ErrOver},
		{1, shares(share(10, 0)), api.ErrOver},
		{1, shares(share(9, 0), share(1, 0)), api.ErrOver},
		{1, slices.Repeat(shares(share(1, 0)), 10), api.ErrOver},
		{4, slices.Repeat(shares(share(36, 0, 1, 2, 3)), 10), api.ErrOver},
		{3, shares(share(5, 0, 1, 2), share(5, 0, 2, 1)), api.ErrOver}, // at one place only
		{3, shares(share(5, 0, 1, 2), share(5, 2, 1, 0)), api.ErrOver},
		{3, shares(share(5, 0, 1, 2), share(5, 1, 0, 2)), api.ErrOver},
	} {
		examineSum(t, x.size, x.shares, nil, x.want)
	}
}

// drawShares draws shares, most of them right.
func drawShares(r *rand.Rand, size int) []table.Share {
	var all []table.Share
	below := 1 + r.Intn(6)
	for range r.Intn(8) {
		all = append(all, share(1+r.Intn(below), r.Perm(size)...))
	}
	return all
}

// P11.6, M2
func TestSumOfManyShares(t *testing.T) {
	r := rand.New(rand.NewSource(12))
	found := map[api.Errno]int{}
	for range 20000 {
		size := 1 + r.Intn(4)
		all := drawShares(r, size)
		if len(all) > 0 && r.Intn(2) == 0 {
			wrong := &all[r.Intn(len(all))]
			switch r.Intn(6) {
			case 0:
				wrong.Times = r.Intn(50) - 5
			case 1:
				wrong.Plan[r.Intn(size)] = r.Intn(size+2) - 1
			case 2:
				wrong.Plan = r.Perm(r.Intn(6))
			case 3:
				size = r.Intn(7) - 1
			case 4:
				all = slices.Concat(all, all)
			case 5:
				all = append(all, drawShares(r, 1+r.Intn(4))...)
			}
		}
		want, e := slowSum(size, all)
		examineSum(t, size, all, want, e)
		found[e]++
	}
	for _, e := range []api.Errno{api.OK, api.ErrRange, api.ErrMany, api.ErrShape, api.ErrNone, api.ErrTwice, api.ErrOver} {
		if found[e] < 100 {
			t.Errorf("so often Sum returns each error: %v", found)
		}
	}
}

// examineSplits compares Splits with what it is to return.
func examineSplits(t *testing.T, l [][]int, want int, e api.Errno) {
	t.Helper()
	if count, f := table.Splits(l); count != want || f != e {
		t.Errorf("Splits of %v: %d %d, want %d %d", l, count, f, want, e)
	}
}

// P11.7, R1, R2
func TestSplits(t *testing.T) {
	for _, x := range []struct {
		table [][]int
		want  int
		e     api.Errno
	}{
		{tableA(), 1, api.OK},
		{tableB(), 2, api.OK},
		{tableC(), 0, api.ErrSum},
		{flat(1, 0), 1, api.OK}, // no plan is taken
		{flat(4, 0), 1, api.OK},
		{flat(1, 6), 1, api.OK},
		{flat(1, 7), 0, api.ErrOver},
		{flat(2, 3), 1, api.OK},
		{flat(2, 4), 0, api.ErrOver},
		{flat(3, 1), 2, api.OK},
		{flat(3, 2), 3, api.OK}, // 222 000, 111 111, 000 222
		{flat(3, 3), 0, api.ErrOver},
		{flat(4, 1), 24, api.OK},
		{flat(4, 9), 0, api.ErrOver},
		{tableOf(2, 6, 0, 0, 6), 1, api.OK},
		{tableOf(2, 6, 1, 1, 6), 0, api.ErrOver},
		{tableOf(2, 2, 4, 4, 2), 1, api.OK},
		{tableOf(2, 9, 9, 9, 8), 0, api.ErrSum}, // uneven, whatever the sums
		{tableOf(2, 9, 0, 9, 0), 0, api.ErrSum},
		{tableOf(3, 3, 0, 0, 0, 1, 2, 0, 2, 1), 1, api.OK},
		{tableOf(4, 1, 1, 0, 0, 1, 1, 0, 0, 0, 0, 1, 1, 0, 0, 1, 1), 2, api.OK},
		{tableOf(4, 2, 2, 0, 0, 2, 2, 0, 0, 0, 0, 2, 2, 0, 0, 2, 2), 3, api.OK},
		{tableOf(4, 3, 1, 1, 1, 1, 3, 1, 1, 1, 1, 3, 1, 1, 1, 1, 3), 32, api.OK},
		{tableOf(4, 2, 2, 1, 1, 2, 2, 1, 1, 1, 1, 2, 2, 1, 1, 2, 2), 58, api.OK},
	} {
		examineSplits(t, x.table, x.want, x.e)
	}
}

// P11.7, M1, M2
func TestSplitsOfManyTables(t *testing.T) {
	found := map[int]int{}
	for _, l := range manyTables(13) {
		want, e := slowSplits(l)
		examineSplits(t, l, want, e)
		if e == api.OK {
			found[want]++
		}
	}
	for _, many := range list(1, 2, 3, 4, 5, 6, 7, 8, 24) {
		if found[many] == 0 {
			t.Errorf("so often Splits returns each number: %v", found)
		}
	}
}
