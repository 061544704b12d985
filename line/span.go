package line

// span is a line: the place where it begins, and the one where it ends.
type span [2]int

// left returns what is left of a line, a number below 0 if it does not fit.
func (t Text) left(s span) int {
	begin, end := s[0], s[1]
	blanks := end - begin - 1
	left := t.Width - blanks
	for _, length := range t.Words[begin:end] {
		left -= length
	}
	return left
}

func (t Text) fits(s span) bool {
	return t.left(s) >= 0
}

// square returns the square of what is left of a line.
func (t Text) square(s span) int {
	left := t.left(s)
	return left * left
}

// cost returns what a line adds to the cost of ends.
func (t Text) cost(s span) int {
	if s[1] == t.last() {
		return 0
	}
	return t.square(s)
}

// spansTo returns the lines that fit and end at a place, ascending.
func (t Text) spansTo(end int) []span {
	spans := []span{}
	for begin := range end {
		if s := (span{begin, end}); t.fits(s) {
			spans = append(spans, s)
		}
	}
	return spans
}

// spansFrom returns the lines that fit and begin at a place, ascending.
func (t Text) spansFrom(begin int) []span {
	spans := []span{}
	for end := begin + 1; end <= t.last(); end++ {
		if s := (span{begin, end}); t.fits(s) {
			spans = append(spans, s)
		}
	}
	return spans
}

// kept returns what is kept of a line if as few of its last words as must go are taken away.
func (t Text) kept(s span) span {
	// This ends, as a line of one word fits.
	for !t.fits(s) {
		s[1]--
	}
	return s
}
