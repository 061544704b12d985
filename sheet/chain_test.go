package sheet_test

import (
	"testing"

	"headword/api"
	"headword/sheet"
)

// examineChain compares Chain with what it is to return.
func examineChain(t *testing.T, j job, want bool) {
	t.Helper()
	if is, e := sheet.Chain(j.size, j.pieces); is != want || e != api.OK {
		t.Errorf("Chain of %v: %v %d, want %v", j, is, e, want)
	}
}

// P9.7
func TestChain(t *testing.T) {
	for _, x := range []struct {
		job
		want bool
	}{
		{jobA(), false},
		{jobB(), true},
		{jobC(), false}, // 4 does not divide 10
		{jobD(), false},
		{job{10, nil}, true},
		{job{1, list(1)}, true},
		{job{10, list(10, 10)}, true},
		{job{10, list(3)}, false},
		{job{12, list(4, 6)}, false}, // each one divides 12, but none the other one
		{job{12, list(6, 4)}, false},
		{job{12, list(2, 4, 6)}, false},
		{job{12, list(12, 6, 1, 4)}, false},
		{job{12, list(4, 2, 12)}, true},
		{job{12, list(2, 6, 2, 12, 1)}, true},
		{job{10, list(2, 4, 8)}, false}, // they divide one another, but not 10
		{job{10, list(1, 2, 2, 1, 4)}, false},
		{job{24, list(8, 12)}, false},
		{job{24, list(8, 4, 1, 24, 2)}, true},
		{job{24, list(1, 1, 1, 1, 1, 1, 8, 12)}, false},
		{job{24, list(12, 1, 1, 1, 1, 1, 1, 8)}, false},
		{job{16, list(4, 16, 8, 1, 2, 2, 4, 16)}, true},
		{job{16, list(4, 16, 8, 1, 2, 2, 4, 15)}, false},
		{job{23, list(1, 23)}, true},
		{job{23, list(1, 22)}, false},
	} {
		examineChain(t, x.job, x.want)
	}
}

// P9.7: all sizes with all lengths of one and of two pieces.
func TestChainOfAllLengths(t *testing.T) {
	for size := 1; size <= sheet.MaxSize; size++ {
		for one := 1; one <= size; one++ {
			examineChain(t, job{size, list(one)}, size%one == 0)
			for other := 1; other <= size; other++ {
				j := job{size, list(one, other)}
				examineChain(t, j, slowChain(j))
			}
		}
	}
}

// P9.7
func TestChainOfManyJobs(t *testing.T) {
	for _, j := range append(manyJobs(7), jobsOf(12, 3)...) {
		examineChain(t, j, slowChain(j))
	}
	for _, j := range drawChains(8, 500) {
		examineChain(t, j, true)
	}
}
