package clerk_test

import (
	"fmt"
	"math/rand"
	"regexp"
	"slices"
	"strings"
	"testing"

	"headword/api"
	"headword/clerk"
)

// The functions here look everything up in the list of the lines, each time it is asked for, and remember nothing: the tests compare the package with them.

func list(l ...string) []string { return l }

// split returns lines that are written one behind the other.
func split(lines string) []string {
	return strings.FieldsFunc(lines, func(c rune) bool { return c == ';' })
}

// officeA returns the lines of the chapter's example.
func officeA() []string {
	return split("word map;word mast;short map mp;give map ann 30;come map 40;give mast ben 10;pay tom 50;close m")
}

// told returns an office that was told lines, all of which it takes.
func told(t *testing.T, lines ...string) *clerk.Office {
	t.Helper()
	o := clerk.New()
	for _, line := range lines {
		if e := o.Tell(line); e != api.OK {
			t.Fatalf("Tell %q after %q: %d", line, o.Lines(), e)
		}
	}
	return o
}

// forms are those of the chapter's table: N is a name, L a letter and D a number.
var forms = list("word N", "short N N", "give N N D", "come N D", "see N N", "close L", "pay N D", "stop N", "undo")

var (
	aName   = regexp.MustCompile(`^[a-z]{1,10}$`)
	aLetter = regexp.MustCompile(`^[a-z]$`)
	aNumber = regexp.MustCompile(`^(0|[1-9][0-9]{0,3})$`)
)

// slowForm returns the error of a line's form.
func slowForm(line string) api.Errno {
	words := strings.Split(line, " ")
	for _, form := range forms {
		shape := strings.Split(form, " ")
		if shape[0] != words[0] || len(shape) != len(words) || slices.Contains(words, "") {
			continue
		}
		for i, word := range words[1:] {
			switch {
			case shape[1+i] == "N" && !aName.MatchString(word), shape[1+i] == "L" && !aLetter.MatchString(word):
				return api.ErrName
			case shape[1+i] == "D" && !aNumber.MatchString(word):
				return api.ErrForm
			}
		}
		return api.OK
	}
	return api.ErrForm
}

// linesOf returns the words of all lines of a kind.
func linesOf(lines []string, kind string) [][]string {
	var all [][]string
	for _, line := range lines {
		if strings.HasPrefix(line, kind+" ") {
			all = append(all, strings.Split(line, " "))
		}
	}
	return all
}

// lineOf returns the words of the line of a kind that tells of a name, or only empty words.
func lineOf(lines []string, kind, name string) [4]string {
	begin := kind + " " + name
	for _, line := range lines {
		if rest, found := strings.CutPrefix(line, begin); found && (rest == "" || rest[0] == ' ') {
			return [4]string(append(strings.Split(line, " "), "", "")[:4])
		}
	}
	return [4]string{}
}

func isTold(lines []string, kind, name string) bool { return lineOf(lines, kind, name)[0] != "" }

// value returns the number that a word of a line is, 0 if it is empty.
func value(word string) int {
	number := 0
	for _, digit := range word {
		number = 10*number + int(digit-'0')
	}
	return number
}

// slowLeft reports whether a part is left of a word.
func slowLeft(word, part string) bool {
	for _, letter := range part {
		_, rest, found := strings.Cut(word, string(letter))
		if !found {
			return false
		}
		word = rest
	}
	return true
}

func slowClosed(lines []string, word string) bool {
	return slices.ContainsFunc(lines, func(line string) bool {
		letter, isClose := strings.CutPrefix(line, "close ")
		return isClose && letter[0] >= word[0]
	})
}

// slowWay returns what Way is to return of a headword.
func slowWay(lines []string, word string) []string {
	way := list(word)
	for isTold(lines, "see", way[len(way)-1]) && len(way) <= len(lines) {
		way = append(way, lineOf(lines, "see", way[len(way)-1])[2])
	}
	return way
}

// slowHeadwords returns all headwords in ascending order.
func slowHeadwords(lines []string) []string {
	var all []string
	for _, words := range linesOf(lines, "word") {
		all = append(all, words[1])
	}
	slices.Sort(all)
	return all
}

// slowFind returns the headwords which a form is, or whose short form it is.
func slowFind(lines []string, form string) []string {
	var all []string
	for _, word := range slowHeadwords(lines) {
		if word == form || isTold(lines, "short", word) && lineOf(lines, "short", word)[2] == form {
			all = append(all, word)
		}
	}
	return all
}

// slowVolume returns the number of the volume that has the article of a headword.
func slowVolume(lines []string, word string) int {
	come, number := false, 0
	for _, line := range lines {
		words := strings.Split(line, " ")
		if words[0] == "come" && words[1] == word {
			come = true
		}
		if words[0] == "close" {
			number++
			if come && words[1][0] >= word[0] {
				return number
			}
		}
	}
	return 0
}

func slowEntries(lines []string) []clerk.Entry {
	var all []clerk.Entry
	for _, word := range slowHeadwords(lines) {
		give := lineOf(lines, "give", word)
		all = append(all, clerk.Entry{
			Word:   word,
			Form:   lineOf(lines, "short", word)[2],
			See:    lineOf(lines, "see", word)[2],
			Writer: give[2],
			Asked:  value(give[3]),
			Came:   value(lineOf(lines, "come", word)[2]),
			Volume: slowVolume(lines, word),
		})
	}
	return all
}

// slowAccount returns the account of a subscriber.
func slowAccount(lines []string, who string) clerk.Account {
	a := clerk.Account{Who: who}
	for _, line := range lines {
		words := append(strings.Split(line, " "), "", "")
		switch {
		case words[0] == "pay" && words[1] == who:
			a.Pence += value(words[2])
			a.Stopped = false
		case words[0] == "stop" && words[1] == who:
			a.Stopped = true
		case words[0] == "close" && !a.Stopped && a.Pence >= 20:
			a.Pence -= 20
			a.Volumes++
		}
	}
	return a
}

// slowWho returns all subscribers in ascending order.
func slowWho(lines []string) []string {
	var all []string
	for _, words := range linesOf(lines, "pay") {
		all = append(all, words[1])
	}
	slices.Sort(all)
	return slices.Compact(all)
}

func slowAccounts(lines []string) []clerk.Account {
	var all []clerk.Account
	for _, who := range slowWho(lines) {
		all = append(all, slowAccount(lines, who))
	}
	return all
}

func slowVolumes(lines []string) []clerk.Volume {
	var all []clerk.Volume
	entries := slowEntries(lines)
	for i, line := range lines {
		letter, isClose := strings.CutPrefix(line, "close ")
		if !isClose {
			continue
		}
		v := clerk.Volume{Letter: letter}
		for _, entry := range entries {
			if entry.Volume == len(all)+1 {
				v.Words = append(v.Words, entry.Word)
				v.Lines += entry.Came
			}
		}
		for _, who := range slowWho(lines) {
			v.Sent += slowAccount(lines[:i+1], who).Volumes - slowAccount(lines[:i], who).Volumes
		}
		all = append(all, v)
	}
	return all
}

func slowWriters(lines []string) []clerk.Count {
	var names []string
	for _, words := range linesOf(lines, "give") {
		names = append(names, words[2])
	}
	slices.Sort(names)
	var all []clerk.Count
	entries := slowEntries(lines)
	for _, who := range slices.Compact(names) {
		c := clerk.Count{Who: who}
		for _, entry := range entries {
			if entry.Writer == who {
				c.Lines += entry.Came
			}
		}
		all = append(all, c)
	}
	return all
}

func slowLate(lines []string) []string {
	var all []string
	for _, word := range slowHeadwords(lines) {
		if isTold(lines, "give", word) && !isTold(lines, "come", word) && slowClosed(lines, word) {
			all = append(all, word)
		}
	}
	return all
}

// slowCheck returns the check number of bytes: each of them times 29 as often as there are bytes behind it.
func slowCheck(body string) int {
	sum, power := 0, 1
	for _, b := range slices.Backward([]byte(body)) {
		sum += int(b) * power
		power = power * 29 % 9941
	}
	return sum % 9941
}

// closed returns bytes as a text, by a last line with their check number.
func closed(body string) string { return fmt.Sprintf("%send %d\n", body, slowCheck(body)) }

func slowText(lines []string) string {
	return closed(strings.Join(append(list("headword"), lines...), "\n") + "\n")
}

// rule is an error and whether it applies.
type rule struct {
	applies bool
	e       api.Errno
}

// firstOf returns the first error that applies.
func firstOf(rules ...rule) api.Errno {
	for _, r := range rules {
		if r.applies {
			return r.e
		}
	}
	return api.OK
}

// slowWordError returns the error of a line of P14.3.
func slowWordError(lines, words []string) api.Errno {
	word := words[1]
	known, given, come, refers := isTold(lines, "word", word), isTold(lines, "give", word), isTold(lines, "come", word), isTold(lines, "see", word)
	closed, last := slowClosed(lines, word), words[len(words)-1]
	isPart := func(headwords []string, part string) bool {
		return slices.ContainsFunc(headwords, func(w string) bool { return w != word && slowLeft(w, part) })
	}
	switch words[0] {
	case "word":
		clash := slices.ContainsFunc(linesOf(lines, "short"), func(w []string) bool { return slowLeft(word, w[2]) })
		return firstOf(rule{known, api.ErrTwice}, rule{closed, api.ErrShut}, rule{len(slowHeadwords(lines)) >= 40, api.ErrFull}, rule{clash, api.ErrClash})
	case "short":
		return firstOf(rule{!known, api.ErrNone}, rule{isTold(lines, "short", word), api.ErrTwice}, rule{!slowLeft(word, last), api.ErrProof}, rule{isPart(slowHeadwords(lines), last), api.ErrClash})
	case "give":
		return firstOf(rule{!known, api.ErrNone}, rule{given, api.ErrTwice}, rule{refers, api.ErrClash}, rule{closed, api.ErrShut}, rule{last == "0", api.ErrRange})
	case "come":
		asked := value(lineOf(lines, "give", word)[3])
		return firstOf(rule{!known, api.ErrNone}, rule{!given, api.ErrOpen}, rule{come, api.ErrTwice}, rule{closed, api.ErrShut}, rule{last == "0", api.ErrRange}, rule{value(last) > 2*asked, api.ErrOver})
	}
	circle := word == last || slices.Contains(slowWay(lines, last), word)
	return firstOf(rule{!known, api.ErrNone}, rule{!isTold(lines, "word", last), api.ErrNone}, rule{refers, api.ErrTwice}, rule{given, api.ErrFull}, rule{closed, api.ErrShut}, rule{circle, api.ErrClash})
}

// slowError returns the error of a line whose form is right.
func slowError(lines, words []string) api.Errno {
	who, last := words[1], words[len(words)-1]
	switch words[0] {
	case "close":
		after := append(slices.Clip(lines), strings.Join(words, " "))
		number := len(linesOf(after, "close"))
		fits := func(word string) bool { return slowVolume(after, word) == number }
		return firstOf(rule{slowClosed(lines, last), api.ErrOrder}, rule{!slices.ContainsFunc(slowHeadwords(lines), fits), api.ErrEmpty})
	case "pay":
		isNew := !slices.Contains(slowWho(lines), who)
		pence := slowAccount(lines, who).Pence + value(last)
		return firstOf(rule{last == "0", api.ErrRange}, rule{isNew && len(slowWho(lines)) >= 12, api.ErrMany}, rule{pence > 9999, api.ErrFull})
	case "stop":
		return firstOf(rule{!isTold(lines, "pay", who), api.ErrNone}, rule{slowAccount(lines, who).Stopped, api.ErrTwice})
	}
	return slowWordError(lines, words)
}

// slowTell returns the lines of an office that was told another one, and the line's error.
func slowTell(lines []string, line string) ([]string, api.Errno) {
	if e := slowForm(line); e != api.OK {
		return lines, e
	}
	if line == "undo" {
		if len(lines) == 0 {
			return lines, api.ErrEmpty
		}
		return lines[:len(lines)-1], api.OK
	}
	if len(lines) >= 150 {
		return lines, api.ErrLong
	}
	if e := slowError(lines, strings.Split(line, " ")); e != api.OK {
		return lines, e
	}
	return append(slices.Clip(lines), line), api.OK
}

// slowRead returns the lines of a text, and its error.
func slowRead(text string) ([]string, api.Errno) {
	if len(text) > 16000 {
		return nil, api.ErrLong
	}
	all := strings.Split(text, "\n")
	if all[0] != "headword" || len(all) < 3 || all[len(all)-1] != "" {
		return nil, api.ErrText
	}
	last := all[len(all)-2]
	if len(last) < 4 || last[:4] != "end " || !aNumber.MatchString(last[4:]) {
		return nil, api.ErrText
	}
	if value(last[4:]) != slowCheck(text[:len(text)-len(last)-1]) {
		return nil, api.ErrTorn
	}
	var lines []string
	for _, line := range all[1 : len(all)-2] {
		after, e := slowTell(lines, line)
		if line == "undo" || e != api.OK {
			return nil, api.ErrProof
		}
		lines = after
	}
	return lines, api.OK
}

// wayOf tells a way with its error.
func wayOf(way []string, e api.Errno) string { return fmt.Sprint(way, " ", e) }

// known returns all that an office tells, one string for each method; of Find and Way those of its headwords and short forms.
func known(o *clerk.Office) []string {
	var finds, ways []string
	for _, entry := range o.Entries() {
		for _, form := range list(entry.Word, entry.Form) {
			word, e := o.Find(form)
			finds = append(finds, fmt.Sprint(form, " ", word, " ", e))
			ways = append(ways, wayOf(o.Way(form)))
		}
	}
	return list(
		fmt.Sprintf("Lines %q", o.Lines()), fmt.Sprintf("Text %q", o.Text()), fmt.Sprintf("Entries %+v", o.Entries()), fmt.Sprintf("Volumes %+v", o.Volumes()),
		fmt.Sprintf("Accounts %+v", o.Accounts()), fmt.Sprintf("Writers %+v", o.Writers()), fmt.Sprintf("Late %v", o.Late()), fmt.Sprintf("Find %q", finds), fmt.Sprintf("Way %q", ways))
}

// slowKnown returns what known is to return of an office with lines.
func slowKnown(lines []string) []string {
	var finds, ways []string
	for _, entry := range slowEntries(lines) {
		for _, form := range list(entry.Word, entry.Form) {
			word, e := "", api.ErrNone
			if found := slowFind(lines, form); form != "" && len(found) == 1 {
				word, e = found[0], api.OK
			}
			finds = append(finds, fmt.Sprint(form, " ", word, " ", e))
			if isTold(lines, "word", form) {
				ways = append(ways, wayOf(slowWay(lines, form), api.OK))
			} else {
				ways = append(ways, wayOf(nil, api.ErrNone))
			}
		}
	}
	return list(
		fmt.Sprintf("Lines %q", lines), fmt.Sprintf("Text %q", slowText(lines)), fmt.Sprintf("Entries %+v", slowEntries(lines)), fmt.Sprintf("Volumes %+v", slowVolumes(lines)),
		fmt.Sprintf("Accounts %+v", slowAccounts(lines)), fmt.Sprintf("Writers %+v", slowWriters(lines)), fmt.Sprintf("Late %v", slowLate(lines)), fmt.Sprintf("Find %q", finds), fmt.Sprintf("Way %q", ways))
}

// examineSame compares what two offices tell.
func examineSame(t *testing.T, what any, got, want []string) {
	t.Helper()
	for i := range want {
		if got[i] != want[i] {
			t.Fatalf("%v: %s, want %s", what, got[i], want[i])
		}
	}
}

// examineOffice compares what an office tells with what is looked up in its lines.
func examineOffice(t *testing.T, o *clerk.Office, lines []string) {
	t.Helper()
	examineSame(t, fmt.Sprintf("%q", lines), known(o), slowKnown(lines))
}

// examineTell tells an office with lines another one, compares the error, and returns the lines that it has now.
func examineTell(t *testing.T, o *clerk.Office, lines []string, line string) ([]string, api.Errno) {
	t.Helper()
	after, want := slowTell(lines, line)
	if e := o.Tell(line); e != want {
		t.Fatalf("Tell %q after %q: %d, want %d", line, lines, e, want)
	}
	return after, want
}

// drawName draws a name of few letters.
func drawName(r *rand.Rand, letters string, most int) string {
	name := ""
	for range 1 + r.Intn(most) {
		name += string(letters[r.Intn(len(letters))])
	}
	return name
}

func drawOf(r *rand.Rand, l []string) string { return l[r.Intn(len(l))] }

// drawing is that from which lines are drawn.
type drawing struct {
	r          *rand.Rand
	words, who []string
	letters    string
	kinds      []string
}

// newDrawing returns one for offices of few words, or of many, of which most tell of words, of articles or of subscribers, or of all.
func newDrawing(r *rand.Rand, large bool) drawing {
	d := drawing{r: r, who: list("tom", "sue", "ida"), letters: "abcdefg"}
	d.kinds = strings.Fields(drawOf(r, list(
		"word word word word short short give give come come see see close pay stop undo undo wrong wrong",
		"word word word word see see see see see see short give undo",
		"word word word give give give come come come come close undo",
		"word word give give come come close pay pay pay pay stop stop",
	)))
	many, most := 4+r.Intn(12), 3
	if large {
		many, most, d.letters = 50, 5, "abcdefghijklmnopqrstuvwxyz"
		for c := range 14 {
			d.who = append(d.who, string(rune('a'+c)))
		}
		d.kinds = strings.Fields("word word word word word short see see give give give come come come close pay pay pay pay pay stop stop undo wrong")
	}
	for range many {
		d.words = append(d.words, drawName(r, d.letters, most))
	}
	return d
}

// steps draws how many lines an office is told.
func (d drawing) steps(large bool) int {
	if large {
		return 400 + d.r.Intn(150)
	}
	return 50 + d.r.Intn(150)
}

// number draws a number, often one at which something changes.
func (d drawing) number() string {
	return drawOf(d.r, strings.Fields("0 1 2 3 4 5 9 10 11 19 20 20 21 39 40 41 60 200 4999 5000 9979 9980 9998 9999"))
}

// letter draws a letter, one of the first ones more often.
func (d drawing) letter() string {
	return d.letters[min(d.r.Intn(len(d.letters)), d.r.Intn(len(d.letters))):][:1]
}

// form draws a short form of a word, which is often a part of it.
func (d drawing) form(word string) string {
	form := ""
	for _, letter := range word {
		if d.r.Intn(3) > 0 {
			form += string(letter)
		}
	}
	if form == "" || d.r.Intn(8) == 0 {
		return drawName(d.r, d.letters, 3)
	}
	return form
}

// line draws a line.
func (d drawing) line() string {
	kind, word := drawOf(d.r, d.kinds), drawOf(d.r, d.words)
	switch kind {
	case "word":
		return "word " + word
	case "short":
		return "short " + word + " " + d.form(word)
	case "give":
		return "give " + word + " " + drawOf(d.r, list("ann", "ben", "eve")) + " " + drawOf(d.r, list(d.number(), "30", "40", "50"))
	case "come":
		return "come " + word + " " + drawOf(d.r, list(d.number(), "20", "80"))
	case "see":
		return "see " + word + " " + drawOf(d.r, d.words)
	case "close":
		return "close " + d.letter()
	case "pay":
		return "pay " + drawOf(d.r, d.who) + " " + drawOf(d.r, list(d.number(), "20", "30", "50"))
	case "stop":
		return "stop " + drawOf(d.r, d.who)
	case "undo":
		return "undo"
	}
	return d.wrong()
}

// wrong draws a line, and one byte of it is changed, taken out or put in: mostly its form is wrong then.
func (d drawing) wrong() string {
	d.kinds = list("word", "short", "give", "come", "see", "close", "pay", "stop", "undo")
	line := d.line()
	place := d.r.Intn(len(line))
	const bytes = " \n\tAz0159-+_.\xc3"
	other := bytes[d.r.Intn(len(bytes)):][:1]
	switch d.r.Intn(4) {
	case 0:
		return line[:place] + line[place+1:]
	case 1:
		return line[:place] + other + line[place+1:]
	case 2:
		return line[:place] + other + line[place:]
	}
	return line + other
}

// drawOffices returns lines of offices, small ones and large ones, each of which was told many drawn lines.
func drawOffices(t *testing.T, seed int64, many int) [][]string {
	t.Helper()
	r := rand.New(rand.NewSource(seed))
	var all [][]string
	for i := range many {
		large := i%8 == 7
		d := newDrawing(r, large)
		o := clerk.New()
		for range d.steps(large) {
			o.Tell(d.line())
		}
		all = append(all, o.Lines())
	}
	return all
}

// linesAfter returns the lines of a new office that was told some.
func linesAfter(told []string) []string {
	var lines []string
	for _, line := range told {
		lines, _ = slowTell(lines, line)
	}
	return lines
}

// drawVolumes returns lines of offices with several volumes: the articles come in any order, and letters close in theirs.
func drawVolumes(seed int64, many int) [][]string {
	r := rand.New(rand.NewSource(seed))
	var all [][]string
	for range many {
		d := newDrawing(r, false)
		d.words = nil
		o := clerk.New()
		for range 12 {
			word := drawName(r, d.letters, 3)
			d.words = append(d.words, word)
			o.Tell("word " + word)
			o.Tell("give " + word + " " + drawOf(r, list("ann", "ben", "eve")) + " 30")
		}
		for _, letter := range d.letters {
			for range r.Intn(8) {
				o.Tell("come " + drawOf(r, d.words) + " " + drawOf(r, list("1", "30", "60")))
				o.Tell("pay " + drawOf(r, d.who) + " " + drawOf(r, list("1", "20", "40")))
			}
			if r.Intn(2) == 0 {
				o.Tell("close " + string(letter))
			}
			if r.Intn(8) == 0 {
				o.Tell("undo")
			}
			o.Tell("stop " + drawOf(r, d.who))
		}
		all = append(all, o.Lines())
	}
	return all
}
