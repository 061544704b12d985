package volume

import (
	"slices"

	"headword/api"
)

// canBurst reports whether articles can have more lines than there is room for.
func (b Book) canBurst(articles []Article) bool {
	return lines(articles, Article.most) > b.Room
}

// canBeThin reports whether articles can have fewer lines than the floor.
func (b Book) canBeThin(articles []Article) bool {
	return lines(articles, Article.least) < b.Floor
}

// Holds returns why a list of ends is no cut that holds, or OK.
func Holds(b Book, ends []int) api.Errno {
	volumes, e := volumesOf(b, ends)
	if e != api.OK {
		return e
	}
	if slices.ContainsFunc(volumes, b.canBurst) {
		return api.ErrOver
	}
	return api.OK
}

// Safe returns why a list of ends is no safe cut, or OK.
func Safe(b Book, ends []int) api.Errno {
	if e := Holds(b, ends); e != api.OK {
		return e
	}
	volumes, _ := volumesOf(b, ends)
	if slices.ContainsFunc(volumes, b.canBeThin) {
		return api.ErrOpen
	}
	return api.OK
}

// volumesOf returns the articles of each volume, or the error of a book or of ends.
func volumesOf(b Book, ends []int) ([][]Article, api.Errno) {
	if e := Check(b); e != api.OK {
		return nil, e
	}
	volumes := [][]Article{}
	before := 0
	for _, end := range ends {
		if end < 1 || end > len(b.Articles) {
			return nil, api.ErrNone
		}
		if end <= before {
			return nil, api.ErrOrder
		}
		volumes = append(volumes, b.Articles[before:end])
		before = end
	}
	if before != len(b.Articles) {
		return nil, api.ErrShape
	}
	return volumes, api.OK
}

// May returns the first volume that can burst.
func May(b Book, ends []int) (int, api.Errno) {
	return firstOver(b, ends, Article.most)
}

// Must returns the first volume that must burst.
func Must(b Book, ends []int) (int, api.Errno) {
	return firstOver(b, ends, Article.least)
}

// firstOver returns the first volume that has more lines than there is room for, if each article has as many as it says when asked.
func firstOver(b Book, ends []int, ask func(Article) int) (int, api.Errno) {
	volumes, e := volumesOf(b, ends)
	if e != api.OK {
		return 0, e
	}
	for number, articles := range volumes {
		if lines(articles, ask) > b.Room {
			return number, api.OK
		}
	}
	return 0, api.ErrClash
}

// Limit returns the greatest length of an article with which its volume does not burst.
func Limit(b Book, ends []int, article int) (int, api.Errno) {
	volumes, e := volumesOf(b, ends)
	if e != api.OK {
		return 0, e
	}
	if article < 0 || article >= len(b.Articles) {
		return 0, api.ErrNone
	}
	number := slices.IndexFunc(ends, func(end int) bool { return end > article })
	others := lines(volumes[number], Article.most) - b.Articles[article].Most
	return b.Room - others, api.OK
}
