package clerk_test

import (
	"fmt"
	"math/rand"
	"slices"
	"strings"
	"testing"

	"headword/api"
	"headword/clerk"
)

func TestLimits(t *testing.T) {
	limits := []int{clerk.MaxLines, clerk.MaxWords, clerk.MaxSubscribers, clerk.MaxPence, clerk.Price}
	if !slices.Equal(limits, []int{150, 40, 12, 9999, 20}) {
		t.Errorf("limits %v", limits)
	}
}

// A new office has no headwords, no volumes and no subscribers, and no other one has anything of it.
func TestNew(t *testing.T) {
	o := clerk.New()
	examineOffice(t, o, nil)
	told(t, officeA()...)
	examineOffice(t, o, nil)
	if e := o.Tell("word map"); e != api.OK {
		t.Errorf("Tell: %d", e)
	}
	examineOffice(t, clerk.New(), nil)
}

// The examples of the chapter in which lines are told: each of them to an office of its own.
func TestExamples(t *testing.T) {
	for _, x := range []struct {
		before, lines string
		want          []api.Errno
	}{
		{"", "word map;word Map;word;word map ann;undo;give map ann 1;close mm;pay tom 05", []api.Errno{api.OK, api.ErrName, api.ErrForm, api.ErrForm, api.ErrEmpty, api.ErrNone, api.ErrName, api.ErrForm}},
		{strings.Join(officeA(), ";"), "short mast mt;word mop;come mast 10;give map ann 1;close a;word apt;stop ann;word nap", []api.Errno{api.OK, api.ErrShut, api.ErrShut, api.ErrTwice, api.ErrOrder, api.ErrShut, api.ErrNone, api.OK}},
		{"word a;word b;word c;see a b;see b c", "see c a", []api.Errno{api.ErrClash}},
		{"word map;word mop", "short map mp;short map ma", []api.Errno{api.ErrClash, api.OK}},
		{"word map;word mop;short map ma", "word mars", []api.Errno{api.ErrClash}},
	} {
		for i, line := range split(x.lines) {
			examineTellings(t, []telling{{x.before, line, x.want[i]}})
		}
	}
}

// P14.1, R3: an office is invalid if it is nil, or zero, or only has the fields of one that was returned.
func TestInvalidOffices(t *testing.T) {
	a := told(t, officeA()...)
	fields := *a
	for i, o := range []*clerk.Office{nil, {}, new(clerk.Office), &fields} {
		for _, line := range list("word map", "word nap", "undo", "", "Word", "close m", "pay tom 5", "stop tom") {
			if e := o.Tell(line); e != api.ErrNil {
				t.Errorf("Tell %q of office %d: %d", line, i, e)
			}
		}
		for _, word := range list("map", "mp", "", "no") {
			if found, e := o.Find(word); found != "" || e != api.ErrNil {
				t.Errorf("Find of office %d: %q %d", i, found, e)
			}
			if way, e := o.Way(word); len(way) > 0 || e != api.ErrNil {
				t.Errorf("Way of office %d: %q %d", i, way, e)
			}
		}
		if o.Copy() != nil || o.Text() != "" {
			t.Errorf("office %d: %v %q", i, o.Copy(), o.Text())
		}
		if n := len(o.Lines()) + len(o.Entries()) + len(o.Volumes()) + len(o.Accounts()) + len(o.Writers()) + len(o.Late()); n > 0 {
			t.Errorf("office %d tells %q", i, known(o))
		}
	}
	examineOffice(t, a, officeA())
}

// examineRefused tells an office with lines another one, which it is to refuse, and compares what it tells before and after it.
func examineRefused(t *testing.T, lines []string, line string, want api.Errno) {
	t.Helper()
	o := told(t, lines...)
	before := known(o)
	if e := o.Tell(line); e != want {
		t.Errorf("Tell %.99q after %q: %d, want %d", line, lines, e, want)
	}
	examineSame(t, line, known(o), before)
}

// wrongLines are lines with an error of their form, which is the same for all offices.
var wrongLines = []struct {
	line string
	want api.Errno
}{
	{"", api.ErrForm},
	{" ", api.ErrForm},
	{"  ", api.ErrForm},
	{"\n", api.ErrForm},
	{"w", api.ErrForm},
	{"wordmap", api.ErrForm},
	{"words map", api.ErrForm},
	{"Word map", api.ErrForm},
	{"WORD map", api.ErrForm},
	{"headword", api.ErrForm},
	{"end 5", api.ErrForm},
	{"map word", api.ErrForm},
	{"redo", api.ErrForm},
	{"Undo", api.ErrForm},
	{"word\tmap", api.ErrForm},
	{"word\u00a0map", api.ErrForm},
	{"word\nmap", api.ErrForm},
	{"word\x00map", api.ErrForm},
	{"wörd map", api.ErrForm},
	{"\xffword map", api.ErrForm},
	// too few words, and too many
	{"word", api.ErrForm},
	{"short", api.ErrForm},
	{"give", api.ErrForm},
	{"come", api.ErrForm},
	{"see", api.ErrForm},
	{"close", api.ErrForm},
	{"pay", api.ErrForm},
	{"stop", api.ErrForm},
	{"short map", api.ErrForm},
	{"give map", api.ErrForm},
	{"give map ann", api.ErrForm},
	{"give map 5", api.ErrForm},
	{"come map", api.ErrForm},
	{"see map", api.ErrForm},
	{"pay tom", api.ErrForm},
	{"pay 5", api.ErrForm},
	{"word map mp", api.ErrForm},
	{"short map mp m", api.ErrForm},
	{"give map ann 5 5", api.ErrForm},
	{"come map 5 5", api.ErrForm},
	{"come map ann 5", api.ErrForm},
	{"see map mop mp", api.ErrForm},
	{"close m n", api.ErrForm},
	{"pay tom 5 5", api.ErrForm},
	{"stop tom sue", api.ErrForm},
	{"undo undo", api.ErrForm},
	{"undo 1", api.ErrForm},
	{"word Map mp", api.ErrForm}, // the number of words comes before the words
	{"short Map", api.ErrForm},
	{"close mm n", api.ErrForm},
	{"pay Tom 05 5", api.ErrForm},
	// blanks where there should be none
	{" word map", api.ErrForm},
	{"  word map", api.ErrForm},
	{"word map ", api.ErrForm},
	{"word map  ", api.ErrForm},
	{"word  map", api.ErrForm},
	{"word ", api.ErrForm},
	{"word  ", api.ErrForm},
	{" undo", api.ErrForm},
	{"undo ", api.ErrForm},
	{"undo  ", api.ErrForm},
	{"short  mp", api.ErrForm},
	{"short map ", api.ErrForm},
	{"short map  mp", api.ErrForm},
	{"give map  5", api.ErrForm},
	{"give  ann 5", api.ErrForm},
	{"give map ann ", api.ErrForm},
	{"give map ann 5 ", api.ErrForm},
	{"give map ann  5", api.ErrForm},
	{"come  5", api.ErrForm},
	{"come map ", api.ErrForm},
	{"see  map", api.ErrForm},
	{"close ", api.ErrForm},
	{"close  m", api.ErrForm},
	{"pay  5", api.ErrForm},
	{"pay tom ", api.ErrForm},
	{"stop ", api.ErrForm},
	{" short mp", api.ErrForm},
	{"give Map  5", api.ErrForm}, // blanks come before names
	{"see Map ", api.ErrForm},
	{"pay Tom ", api.ErrForm},
	// names
	{"word Map", api.ErrName},
	{"word maP", api.ErrName},
	{"word m1", api.ErrName},
	{"word 5", api.ErrName},
	{"word m-p", api.ErrName},
	{"word map\n", api.ErrName},
	{"word map\t", api.ErrName},
	{"word \tmap", api.ErrName},
	{"word map\r", api.ErrName},
	{"word ma\x00p", api.ErrName},
	{"word mäp", api.ErrName},
	{"word é", api.ErrName},
	{"word \xe9", api.ErrName},
	{"word \x80", api.ErrName},
	{"word a\u00a0b", api.ErrName},
	{"word `", api.ErrName},
	{"word {", api.ErrName},
	{"word abcdefghijk", api.ErrName},
	{"word abcdefghijabcdefghij", api.ErrName},
	{"short Map mp", api.ErrName},
	{"short map Mp", api.ErrName},
	{"short map 5", api.ErrName},
	{"short map abcdefghijk", api.ErrName},
	{"give Map ann 5", api.ErrName},
	{"give map Ann 5", api.ErrName},
	{"give map 5 5", api.ErrName},
	{"give map abcdefghijk 5", api.ErrName},
	{"come Map 5", api.ErrName},
	{"come 5 5", api.ErrName},
	{"see Map mop", api.ErrName},
	{"see map Mop", api.ErrName},
	{"pay Tom 5", api.ErrName},
	{"pay 5 5", api.ErrName},
	{"stop Tom", api.ErrName},
	{"stop 5", api.ErrName},
	// letters
	{"close mm", api.ErrName},
	{"close map", api.ErrName},
	{"close M", api.ErrName},
	{"close 5", api.ErrName},
	{"close é", api.ErrName},
	{"close \xe9", api.ErrName},
	{"close `", api.ErrName},
	{"close {", api.ErrName},
	{"close abcdefghijk", api.ErrName},
	// numbers
	{"give map ann five", api.ErrForm},
	{"give map ann 05", api.ErrForm},
	{"give map ann 10000", api.ErrForm},
	{"come map m", api.ErrForm},
	{"come map 00", api.ErrForm},
	{"come map 10000", api.ErrForm},
	{"come map 99999999999999999999", api.ErrForm},
	{"pay tom x", api.ErrForm},
	{"pay tom 05", api.ErrForm},
	{"pay tom 10000", api.ErrForm},
	// the first word with an error counts
	{"give Map ann x", api.ErrName},
	{"give Map ann 10000", api.ErrName},
	{"give map Ann 05", api.ErrName},
	{"come Map x", api.ErrName},
	{"pay Tom 05", api.ErrName},
	{"short 5 05", api.ErrName},
	{"give map ann Ann", api.ErrForm},
}

// P14.2, R1, R2: the form comes before what is told, whatever the office has.
func TestForm(t *testing.T) {
	full := make([]string, 150)
	for i := range full {
		full[i] = "pay tom 1"
	}
	for _, x := range wrongLines {
		if slowForm(x.line) != x.want {
			t.Errorf("slowForm of %q: %d", x.line, slowForm(x.line))
		}
		examineRefused(t, nil, x.line, x.want)
		examineRefused(t, officeA(), x.line, x.want)
		examineRefused(t, full, x.line, x.want)
	}
}

// P14.2: however long a line is.
func TestLongLines(t *testing.T) {
	many := 1 << 20
	for _, x := range []struct {
		line string
		want api.Errno
	}{
		{strings.Repeat(" ", many), api.ErrForm},
		{strings.Repeat("word ", many), api.ErrForm},
		{strings.Repeat("a", many), api.ErrForm},
		{"undo" + strings.Repeat(" ", many), api.ErrForm},
		{"word" + strings.Repeat(" a", many), api.ErrForm},
		{"word " + strings.Repeat("a", many), api.ErrName},
		{"close " + strings.Repeat("m", many), api.ErrName},
		{"pay tom " + strings.Repeat("1", many), api.ErrForm},
		{"pay tom " + strings.Repeat("0", many), api.ErrForm},
	} {
		if e := clerk.New().Tell(x.line); e != x.want {
			t.Errorf("Tell %.20q ..: %d, want %d", x.line, e, x.want)
		}
	}
}

// P14.2: all names of one letter, names of each length, and one byte more at each place.
func TestNames(t *testing.T) {
	for c := range 256 {
		name, want := string([]byte{byte(c)}), api.ErrName
		switch {
		case c >= 'a' && c <= 'z':
			want = api.OK
		case c == ' ':
			want = api.ErrForm
		}
		for _, line := range list("word ", "pay ", "close ") {
			o := told(t, split("word a;give a ann 1;come a 1")...)
			switch line {
			case "pay ":
				line += name + " 5"
			case "word ":
				o = clerk.New()
				line += name
			default:
				line += name
			}
			if e := o.Tell(line); e != want {
				t.Errorf("Tell %q: %d, want %d", line, e, want)
			}
		}
		for place := range 4 {
			line, want := "word "+"map"[:place]+name+"map"[place:], want
			if e := clerk.New().Tell(line); e != want {
				t.Errorf("Tell %q: %d, want %d", line, e, want)
			}
		}
	}
	for length := 1; length <= 30; length++ {
		want := api.OK
		if length > api.MaxName {
			want = api.ErrName
		}
		name := strings.Repeat("z", length)
		for _, line := range list("word "+name, "short "+name+" z", "pay "+name+" 1", "stop "+name) {
			o := clerk.New()
			if want == api.OK {
				o = told(t, "pay "+name+" 1")
			}
			if strings.HasPrefix(line, "short") && want == api.OK {
				o = told(t, "word "+name)
			}
			if e := o.Tell(line); e != want {
				t.Errorf("Tell %q: %d, want %d", line, e, want)
			}
		}
	}
}

// P14.2: all numbers from 0 to 9999 are right, and no others.
func TestNumbers(t *testing.T) {
	for number := range 12000 {
		want := api.OK
		if number == 0 {
			want = api.ErrRange
		}
		if number > 9999 {
			want = api.ErrForm
		}
		o := clerk.New()
		if e := o.Tell(fmt.Sprintf("pay tom %d", number)); e != want {
			t.Errorf("Tell %d: %d, want %d", number, e, want)
		}
		if want == api.OK && o.Accounts()[0].Pence != number {
			t.Errorf("%d pence: %v", number, o.Accounts())
		}
	}
	o := told(t, "word map", "word mop")
	for _, number := range list("00", "01", "05", "000", "0000", "09999", "00001", "-1", "-0", "-5", "+0", "+1", "+5", "--1", "-", "+", "1.", "1.0", ".5", "1e1", "1_0", "0x5", "0b1", "0o7", "1a", "a1", "a", "٣", "５", "\xff", "5\n", "\n5", "5\x00", "1,000", "10000", "65536", "4294967297", "18446744073709551617", "9223372036854775808", "340282366920938463463374607431768211457", "-9223372036854775808", "NaN", "Inf") {
		for _, line := range list("give map ann ", "come map ", "pay tom ") {
			if e := o.Tell(line + number); e != api.ErrForm {
				t.Errorf("Tell %q: %d", line+number, e)
			}
		}
	}
	examineOffice(t, o, split("word map;word mop"))
}

// P14.2: an office has room for MaxLines lines, and undo is none of them.
func TestManyLines(t *testing.T) {
	o := clerk.New()
	var lines []string
	for number := 1; number <= 150; number++ {
		line := fmt.Sprintf("pay tom %d", number%60+1)
		lines = append(lines, line)
		if e := o.Tell(line); e != api.OK {
			t.Fatalf("Tell of line %d: %d", number, e)
		}
	}
	for _, line := range list("pay tom 1", "pay tom 0", "word map", "short map mp", "give map ann 1", "come map 1", "see map map", "close m", "stop tom", "stop sue") {
		if e := o.Tell(line); e != api.ErrLong {
			t.Errorf("Tell %q of a full office: %d", line, e)
		}
	}
	examineOffice(t, o, lines)
	for range 3 {
		if e := o.Tell("undo"); e != api.OK {
			t.Errorf("undo of a full office: %d", e)
		}
		examineOffice(t, o, lines[:149])
		if e := o.Tell("stop tom"); e != api.OK {
			t.Errorf("Tell of the last line: %d", e)
		}
		if e := o.Tell("pay tom 1"); e != api.ErrLong {
			t.Errorf("Tell of a full office: %d", e)
		}
	}
}

// P14.2, P14.13: an office without lines has nothing to undo, also if it had some.
func TestUndoOfNothing(t *testing.T) {
	examineRefused(t, nil, "undo", api.ErrEmpty)
	o := told(t, "word map", "undo")
	examineOffice(t, o, nil)
	if e := o.Tell("undo"); e != api.ErrEmpty {
		t.Errorf("undo: %d", e)
	}
	o.Tell("stop tom")
	if e := o.Tell("undo"); e != api.ErrEmpty {
		t.Errorf("undo of a refused line: %d", e)
	}
	examineOffice(t, o, nil)
}

// P14.2 to P14.7, P14.13: after each of many lines, drawn at random, an office tells what is to be looked up in its lines.
func TestManyOffices(t *testing.T) {
	t.Parallel()
	r := rand.New(rand.NewSource(1))
	found := map[string]int{}
	for number := range 480 {
		large := number%12 == 0
		d := newDrawing(r, large)
		o := clerk.New()
		var lines []string
		for step := range d.steps(large) {
			line := d.line()
			after, e := examineTell(t, o, lines, line)
			lines = after
			found[fmt.Sprint(strings.Split(line+" ", " ")[0], " ", e)]++
			if step%41 == 40 {
				examineOffice(t, o, lines)
			}
		}
		examineOffice(t, o, lines)
	}
	for kind, errors := range map[string][]api.Errno{
		"word":  {api.OK, api.ErrForm, api.ErrName, api.ErrLong, api.ErrTwice, api.ErrShut, api.ErrFull, api.ErrClash},
		"short": {api.OK, api.ErrForm, api.ErrName, api.ErrLong, api.ErrNone, api.ErrTwice, api.ErrProof, api.ErrClash},
		"give":  {api.OK, api.ErrForm, api.ErrName, api.ErrLong, api.ErrNone, api.ErrTwice, api.ErrClash, api.ErrShut, api.ErrRange},
		"come":  {api.OK, api.ErrForm, api.ErrName, api.ErrLong, api.ErrNone, api.ErrOpen, api.ErrTwice, api.ErrShut, api.ErrRange, api.ErrOver},
		"see":   {api.OK, api.ErrForm, api.ErrName, api.ErrLong, api.ErrNone, api.ErrTwice, api.ErrFull, api.ErrShut, api.ErrClash},
		"close": {api.OK, api.ErrForm, api.ErrName, api.ErrLong, api.ErrOrder, api.ErrEmpty},
		"pay":   {api.OK, api.ErrForm, api.ErrName, api.ErrLong, api.ErrRange, api.ErrMany, api.ErrFull},
		"stop":  {api.OK, api.ErrForm, api.ErrName, api.ErrLong, api.ErrNone, api.ErrTwice},
		"undo":  {api.OK, api.ErrForm, api.ErrEmpty},
	} {
		for _, e := range errors {
			if found[fmt.Sprint(kind, " ", e)] < 5 {
				t.Errorf("so often %s led to %d: %d", kind, e, found[fmt.Sprint(kind, " ", e)])
			}
		}
	}
}

// tellAll tells an office each of some lines, and then each again, up to a number of them, and takes back all that it took.
func tellAll(t *testing.T, o *clerk.Office, lines, all []string, many int) {
	examineOffice(t, o, lines)
	if many == 0 {
		return
	}
	for _, line := range all {
		after, e := examineTell(t, o, lines, line)
		if e != api.OK {
			examineSame(t, line, known(o), slowKnown(lines))
			continue
		}
		tellAll(t, o, after, all, many-1)
		if e := o.Tell("undo"); e != api.OK {
			t.Fatalf("undo after %q: %d", after, e)
		}
	}
	examineOffice(t, o, lines)
}

// P14.2 to P14.7, P14.13: all lists of lines of few kinds that go together.
func TestAllSmallOffices(t *testing.T) {
	t.Parallel()
	for _, x := range []struct {
		before, all string
		many        int
	}{
		{"", "word a;word ab;word ba;short a a;short ab b;short ab ab;short ba b;short ba ba", 5},
		{"word a;word b", "see a b;see b a;see a a;see b c;see c a;see c b;word c;give a x 1;give c x 1", 5},
		{"word a;word b", "give a x 1;give b y 2;come a 1;come a 2;come a 3;come b 4;close a;close b;close c;see a b", 6},
		{"word a;give a x 1;come a 1;word b;give b x 1;come b 1;word c;give c x 1;come c 1", "pay x 1;pay x 20;pay y 39;stop x;stop y;close a;close b;close c", 5},
		{"word b;word c", "give b x 5;come b 5;close b;word a;word bb;word d;short b b;see c b;see b c;give c x 1", 4},
		{"pay x 9979", "pay x 20;pay x 21;pay x 9999;pay y 9999;pay y 1;stop x;stop z;stop y", 5},
	} {
		lines := split(x.before)
		tellAll(t, told(t, lines...), lines, split(x.all), x.many)
	}
}
