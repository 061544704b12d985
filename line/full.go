package line

import (
	"slices"

	"headword/api"
)

// Full returns the ends of lines that are as full as they can be.
func Full(t Text) ([]int, api.Errno) {
	if e := Check(t); e != api.OK {
		return nil, e
	}
	// All words are one line at first, which runs over, as do those behind it.
	ends, _ := runOver(t, []int{t.last()}, 0)
	return ends, api.OK
}

// Grow returns the ends when a word becomes so much longer, and the line that fits at the end.
func Grow(t Text, ends []int, word, by int) (grown []int, line int, e api.Errno) {
	if e := Fits(t, ends); e != api.OK {
		return nil, 0, e
	}
	if word < 0 || word >= len(t.Words) {
		return nil, 0, api.ErrNone
	}
	if by < 1 || by > MaxWidth {
		return nil, 0, api.ErrRange
	}
	if t.Words[word]+by > t.Width {
		return nil, 0, api.ErrLost
	}
	longer := Text{Width: t.Width, Words: slices.Clone(t.Words)}
	longer.Words[word] += by
	itsLine := slices.IndexFunc(ends, func(end int) bool { return end > word })
	grown, line = runOver(longer, ends, itsLine)
	return grown, line, api.OK
}

// runOver lets lines that are too long run over into the next one, beginning with a line, until one fits. It returns the new ends, and the line that fits.
func runOver(t Text, ends []int, line int) ([]int, int) {
	ends = slices.Clone(ends)
	begin := 0
	if line > 0 {
		begin = ends[line-1]
	}
	// This ends, as each line keeps a word, so that there are no more lines than words.
	for {
		now := span{begin, ends[line]}
		kept := t.kept(now)
		if kept == now {
			return ends, line
		}
		ends[line] = kept[1]
		begin = kept[1]
		line++
		if line == len(ends) {
			ends = append(ends, t.last())
		}
	}
}
