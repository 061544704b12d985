package volume

import "headword/api"

// fill gives each volume, one after the other, as many articles as it can have. It returns the ends of the volumes, or none if some article alone can have too many lines.
func fill(articles []Article, room int) []int {
	ends := []int{}
	begin := 0 // of the volume that is being filled
	for number, a := range articles {
		if a.Most > room {
			return nil
		}
		if lines(articles[begin:number+1], Article.most) > room {
			ends = append(ends, number)
			begin = number
		}
	}
	return append(ends, len(articles))
}

// Fewest returns the cut that holds and has the fewest volumes, each with as many articles as it can have.
func Fewest(b Book) ([]int, api.Errno) {
	if e := Check(b); e != api.OK {
		return nil, e
	}
	ends := fill(b.Articles, b.Room)
	if len(ends) == 0 {
		return nil, api.ErrLost
	}
	return ends, api.OK
}

// Level returns the smallest room for so many volumes.
func Level(b Book, volumes int) (int, api.Errno) {
	if e := Check(b); e != api.OK {
		return 0, e
	}
	if volumes < 1 || volumes > len(b.Articles) {
		return 0, api.ErrRange
	}
	// This ends, as one volume can have all articles if there is room for all lines.
	for room := 1; ; room++ {
		if ends := fill(b.Articles, room); len(ends) > 0 && len(ends) <= volumes {
			return room, api.OK
		}
	}
}
