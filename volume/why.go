package volume

import "headword/api"

// Why returns the first of the longest lists of stretches in a row.
func Why(b Book) ([][2]int, api.Errno) {
	ends, e := Fewest(b)
	if e != api.OK {
		return nil, e
	}
	if len(ends) == 1 {
		return nil, api.ErrClash
	}
	// Each volume of Fewest has as many articles as it can, so that with the article behind it it is the first stretch that begins there. Nor is any list longer: in each of its stretches some volume ends, in each another one.
	stretches := [][2]int{}
	begin := 0
	for _, end := range ends[:len(ends)-1] {
		stretches = append(stretches, [2]int{begin, end})
		begin = end
	}
	return stretches, api.OK
}

// Proves checks stretches that are to prove that so many volumes are needed.
func Proves(b Book, volumes int, stretches [][2]int) api.Errno {
	if e := Check(b); e != api.OK {
		return e
	}
	if volumes < 1 {
		return api.ErrRange
	}
	before := 0 // the last article of the stretch before
	for _, stretch := range stretches {
		if e := b.checkStretch(stretch, before); e != api.OK {
			return e
		}
		before = stretch[1]
	}
	if len(stretches) < volumes-1 {
		return api.ErrProof
	}
	return api.OK
}

// checkStretch returns the error of a stretch that is not to begin before an article.
func (b Book) checkStretch(stretch [2]int, before int) api.Errno {
	first, last := stretch[0], stretch[1]
	if first < 0 || first >= len(b.Articles) || last < 0 || last >= len(b.Articles) {
		return api.ErrNone
	}
	if first >= last || first < before {
		return api.ErrOrder
	}
	if !b.canBurst(b.Articles[first : last+1]) {
		return api.ErrProof
	}
	return api.OK
}
