package clerk

import (
	"strconv"
	"strings"

	"headword/api"
)

// The parts of a text that are no lines of the office.
const (
	head = "headword\n"
	end  = "end "
)

// The numbers from which check numbers are made.
const (
	factor  = 29
	modulus = 9941
)

// checkNumber returns the check number of the bytes before the last line.
func checkNumber(body string) int {
	number := 0
	for _, b := range []byte(body) {
		number = (number*factor + int(b)) % modulus
	}
	return number
}

// Text returns the text.
func (o *Office) Text() string {
	if !o.isValid() {
		return ""
	}
	body := head
	for _, line := range o.lines {
		body += line + "\n"
	}
	return body + end + strconv.Itoa(checkNumber(body)) + "\n"
}

// Read returns the office of a text.
func Read(text string) (*Office, api.Errno) {
	if len(text) > api.MaxText {
		return nil, api.ErrLong
	}
	body, check, ok := divide(text)
	if !ok {
		return nil, api.ErrText
	}
	if check != checkNumber(body) {
		return nil, api.ErrTorn
	}
	o := New()
	for line := range strings.Lines(body[len(head):]) {
		line = strings.TrimSuffix(line, "\n")
		if line == undo || o.Tell(line) != api.OK {
			return nil, api.ErrProof
		}
	}
	return o, api.OK
}

// divide returns what of a text is before its last line, and the number of that line; or false, if there is no such text.
func divide(text string) (string, int, bool) {
	all, ended := strings.CutSuffix(text, "\n")
	last := strings.LastIndexByte(all, '\n') + 1
	number, marked := strings.CutPrefix(all[last:], end)
	if !ended || !marked || !isNumber(number) || !strings.HasPrefix(text[:last], head) {
		return "", 0, false
	}
	return text[:last], numberOf(number), true
}
