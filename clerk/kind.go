package clerk

import (
	"slices"
	"strconv"
	"strings"

	"headword/api"
)

// undo is the line that takes back the last one.
const undo = "undo"

// mostWords is how many words the longest kind of line has.
const mostWords = 4

// maxNumber is the greatest number in a line.
const maxNumber = 9999

// A kind is a line whose form is right.
type kind interface {
	// tell does what the line tells, or returns why the line is refused.
	tell(o *Office) api.Errno
}

// kindOf returns the kind of a line, or the error of its form.
func kindOf(line string) (kind, api.Errno) {
	// A line with more words has no form, and may have any number of them: they are not told apart.
	words := strings.SplitN(line, " ", mostWords+1)
	if e := checkForm(words); e != api.OK {
		return nil, e
	}
	switch words[0] {
	case "word":
		return wordLine{words[1]}, api.OK
	case "short":
		return shortLine{words[1], words[2]}, api.OK
	case "give":
		return giveLine{words[1], words[2], numberOf(words[3])}, api.OK
	case "come":
		return comeLine{words[1], numberOf(words[2])}, api.OK
	case "see":
		return seeLine{words[1], words[2]}, api.OK
	case "close":
		return closeLine{words[1]}, api.OK
	case "pay":
		return payLine{words[1], numberOf(words[2])}, api.OK
	case "stop":
		return stopLine{words[1]}, api.OK
	}
	return undoLine{}, api.OK
}

// checkForm returns the error of the words of a line.
func checkForm(words []string) api.Errno {
	shape, ok := shapeOf(words[0])
	// An empty word lies between two blanks, or before or behind one where there should be none.
	if !ok || len(words) != 1+len(shape) || slices.Contains(words, "") {
		return api.ErrForm
	}
	for i, what := range shape {
		if e := checkWord(words[1+i], what); e != api.OK {
			return e
		}
	}
	return api.OK
}

// shapeOf returns what stands behind the first word of a line, word by word: a name (n), a letter (l) or a number (d); or false, if no line begins with this word.
func shapeOf(first string) (string, bool) {
	switch first {
	case "word", "stop":
		return "n", true
	case "short", "see":
		return "nn", true
	case "give":
		return "nnd", true
	case "come", "pay":
		return "nd", true
	case "close":
		return "l", true
	case undo:
		return "", true
	}
	return "", false
}

// checkWord returns the error of a word that should be a name, a letter or a number.
func checkWord(word string, what rune) api.Errno {
	switch {
	case what == 'd' && !isNumber(word):
		return api.ErrForm
	case what == 'n' && !isName(word):
		return api.ErrName
	case what == 'l' && (!isName(word) || len(word) > 1):
		return api.ErrName
	}
	return api.OK
}

func isName(word string) bool {
	for _, letter := range word {
		if letter < 'a' || letter > 'z' {
			return false
		}
	}
	return len(word) >= 1 && len(word) <= api.MaxName
}

// isNumber reports whether a word is a number from 0 to maxNumber, as strconv writes it: so it has no sign, and no 0 in front.
func isNumber(word string) bool {
	number := numberOf(word)
	return number >= 0 && number <= maxNumber && word == strconv.Itoa(number)
}

// numberOf returns the number that a word is; what it returns of other words is written in another way.
func numberOf(word string) int {
	number, _ := strconv.Atoi(word)
	return number
}

// undoLine is undo.
type undoLine struct{}

func (undoLine) tell(o *Office) api.Errno {
	// It is the last line itself by now, and goes with the one that it takes back.
	o.takeBack(2)
	return api.OK
}
