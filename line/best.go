package line

import "headword/api"

// First returns the first best ends.
func First(t Text) ([]int, api.Errno) {
	if e := Check(t); e != api.OK {
		return nil, e
	}
	places := placesOf(t)
	ends := []int{}
	for place := 0; place != t.last(); {
		place = places[place][next]
		ends = append(ends, place)
	}
	return ends, api.OK
}

// Least returns the cost of best ends.
func Least(t Text) (int, api.Errno) {
	if e := Check(t); e != api.OK {
		return 0, e
	}
	return placesOf(t)[0][least], api.OK
}

// Count returns how many best ends there are.
func Count(t Text) (int, api.Errno) {
	if e := Check(t); e != api.OK {
		return 0, e
	}
	return placesOf(t)[0][count], api.OK
}

// Prices returns the prices of the places before the words.
func Prices(t Text) ([]int, api.Errno) {
	if e := Check(t); e != api.OK {
		return nil, e
	}
	return column(placesOf(t)[:t.last()], price), api.OK
}

// Starts returns, for the first word, the first two words and so on, where the last one of their lines begins.
func Starts(t Text) ([]int, api.Errno) {
	if e := Check(t); e != api.OK {
		return nil, e
	}
	return column(placesOf(t)[1:], start), api.OK
}

// column returns one kind of what is known of some places.
func column(places []known, kind int) []int {
	numbers := []int{}
	for _, place := range places {
		numbers = append(numbers, place[kind])
	}
	return numbers
}
