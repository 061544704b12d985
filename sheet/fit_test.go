package sheet_test

import (
	"math/rand"
	"slices"
	"testing"

	"headword/api"
	"headword/sheet"
)

// examineFall compares Fall with what it is to return.
func examineFall(t *testing.T, j job, want []int) {
	t.Helper()
	if order, e := sheet.Fall(j.size, j.pieces); !slices.Equal(order, want) || e != api.OK {
		t.Errorf("Fall of %v: %v %d, want %v", j, order, e, want)
	}
}

// P9.5
func TestFall(t *testing.T) {
	for _, x := range []struct {
		job
		want []int
	}{
		{jobA(), list(1, 0, 3, 2, 4)},
		{jobB(), list(0, 2, 1, 4, 5, 3)},
		{jobC(), list(0, 1, 2, 3, 4)},
		{jobD(), list(0, 1, 2, 3)},
		{job{10, nil}, nil},
		{job{10, list(3)}, list(0)},
		{job{24, list(1, 24, 2, 23, 3, 22, 4, 21)}, list(1, 3, 5, 7, 6, 4, 2, 0)},
		{job{8, list(1, 2, 3, 4, 5, 6, 7, 8)}, list(7, 6, 5, 4, 3, 2, 1, 0)},
		{job{2, list(1, 2, 1, 2, 1, 2, 1, 2)}, list(1, 3, 5, 7, 0, 2, 4, 6)},
	} {
		examineFall(t, x.job, x.want)
	}
	for _, j := range manyJobs(3) {
		examineFall(t, j, slowFall(j))
	}
}

// examineFit compares Fit with what it is to return.
func examineFit(t *testing.T, j job, order, want []int, e api.Errno) {
	t.Helper()
	if plan, f := sheet.Fit(j.size, j.pieces, order); !slices.Equal(plan, want) || f != e {
		t.Errorf("Fit of %v, %.9v: %v %d, want %v %d", j, order, plan, f, want, e)
	}
}

// P9.5
func TestFit(t *testing.T) {
	for _, x := range []struct {
		job
		order, want []int
	}{
		{jobA(), list(1, 0, 3, 2, 4), list(0, 1, 1, 0, 2)},
		{jobA(), list(0, 1, 2, 3, 4), list(0, 1, 0, 2, 1)},
		{jobA(), list(4, 2, 0, 3, 1), list(0, 1, 2, 0, 2)},
		{jobA(), list(4, 3, 2, 1, 0), list(0, 1, 1, 2, 2)},
		{jobB(), list(0, 2, 1, 4, 5, 3), list(0, 1, 0, 1, 1, 1)},
		{jobC(), list(4, 3, 2, 1, 0), list(0, 1, 1, 2, 2)},
		{jobD(), list(2, 0, 1, 3), list(0, 1, 2, 2)},
		{job{10, nil}, nil, nil},
		{job{10, nil}, []int{}, nil},
		{job{10, list(10)}, list(0), list(0)},
		{job{10, list(5, 5)}, list(1, 0), list(0, 0)},
		{job{10, list(5, 6)}, list(1, 0), list(0, 1)},
		{job{10, list(6, 7, 2)}, list(0, 1, 2), list(0, 1, 0)}, // to the first sheet, not to the one with less left
		{job{10, list(7, 6, 4)}, list(0, 1, 2), list(0, 1, 1)},
		{job{10, list(8, 9, 1, 1, 1)}, list(0, 1, 2, 3, 4), list(0, 1, 0, 0, 1)},
		{job{10, list(8, 9, 1, 1, 1)}, list(1, 0, 2, 3, 4), list(0, 1, 1, 0, 0)},
	} {
		examineFit(t, x.job, x.order, x.want, api.OK)
	}
}

// P9.5
func TestFitOfManyJobs(t *testing.T) {
	r := rand.New(rand.NewSource(4))
	for _, j := range manyJobs(4) {
		orders := lists(slowFall(j))
		for range 20 {
			orders = append(orders, drawOrder(r, len(j.pieces)))
		}
		if len(j.pieces) < 5 {
			orders = append(orders, ordersOf(len(j.pieces))...)
		}
		for _, order := range orders {
			examineFit(t, j, order, slowTogether(slowFill(j, order)), api.OK)
		}
	}
}

// P9.5, R1, R2
func TestErrorsOfFit(t *testing.T) {
	for _, x := range []struct {
		order []int
		want  api.Errno
	}{
		{nil, api.ErrShape},
		{list(), api.ErrShape},
		{list(0, 1, 2, 3), api.ErrShape},
		{list(0, 1, 2, 3, 4, 0), api.ErrShape},
		{list(9, 9), api.ErrShape}, // how many there are comes first
		{list(0, 0, 0, 0, 0, 0), api.ErrShape},
		{make([]int, 100000), api.ErrShape},
		{list(0, 0, 1, 2, 3), api.ErrTwice},
		{list(0, 1, 2, 3, 0), api.ErrTwice},
		{list(0, 1, 2, 4, 4), api.ErrTwice},
		{list(3, 3, 3, 3, 3), api.ErrTwice},
		{list(0, 1, 2, 3, 5), api.ErrNone},
		{list(-1, 0, 1, 2, 3), api.ErrNone},
		{list(0, 1, 2, 3, 1<<63-1), api.ErrNone},
		{list(-1<<63, 1, 2, 3, 4), api.ErrNone},
		{list(5, 5, 0, 0, 1), api.ErrNone},
		{list(0, 5, 5, 2, 3), api.ErrNone}, // the first number with an error counts
		{list(0, 9, 0, 2, 3), api.ErrNone},
		{list(0, 0, 9, 2, 3), api.ErrTwice},
	} {
		examineFit(t, jobA(), x.order, nil, x.want)
	}
	examineFit(t, job{10, nil}, list(0), nil, api.ErrShape)
	examineFit(t, job{10, list(1)}, list(1), nil, api.ErrNone)
	for _, order := range numbersOf(4, -1, 4) {
		if e := slowNumbers(4, order); e != api.OK {
			examineFit(t, jobD(), order, nil, e)
		}
	}
}
