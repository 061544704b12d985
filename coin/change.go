package coin

import (
	"cmp"

	"headword/api"
)

// Reach returns the greatest sum such that it, and each smaller one, has a payment of at most so many coins.
func Reach(coins []int, many int) (int, api.Errno) {
	if e := Check(coins); e != api.OK {
		return 0, e
	}
	if many < 0 || many > MaxMany {
		return 0, api.ErrRange
	}
	top := many * greatestOf(coins) // no greater sum has so few coins
	known := reachAll(coins, top)
	sum := 0
	for sum < top && known[sum+1].few <= many {
		sum++
	}
	return sum, api.OK
}

// Change returns the fewest coins that change hands: those that are paid, and those that are given back.
func Change(coins []int, sum int) (pay, back int, e api.Errno) {
	if e := checkSum(coins, sum); e != api.OK {
		return 0, 0, e
	}
	greatest := greatestOf(coins)
	known := reachAll(coins, sum+greatest)
	pay = known[sum].few
	for more := 1; more <= greatest; more++ {
		morePay, moreBack := known[sum+more].few, known[more].few
		if cmp.Or(cmp.Compare(morePay+moreBack, pay+back), cmp.Compare(moreBack, back)) < 0 {
			pay, back = morePay, moreBack
		}
	}
	return pay, back, api.OK
}
