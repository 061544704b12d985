package clerk_test

import (
	"fmt"
	"math/rand"
	"slices"
	"strings"
	"testing"

	"headword/api"
	"headword/clerk"
	"headword/short"
)

// offices returns the lines of many offices.
func offices(t *testing.T, seed int64) [][]string {
	t.Helper()
	return append(slices.Concat(drawOffices(t, seed, 200), drawVolumes(seed, 60)), nil, officeA(), officeB())
}

// P14.10
func TestLinesAndPence(t *testing.T) {
	found := map[string]int{}
	for _, lines := range offices(t, 11) {
		o := told(t, lines...)
		came, waiting, bound, sent, got := 0, 0, 0, 0, 0
		for _, entry := range o.Entries() {
			came += entry.Came
			if entry.Volume == 0 {
				waiting += entry.Came
			}
		}
		for _, v := range o.Volumes() {
			bound += v.Lines
			sent += v.Sent
		}
		ofWriters := 0
		for _, c := range o.Writers() {
			ofWriters += c.Lines
		}
		if came != waiting+bound || came != ofWriters {
			t.Errorf("%q: %d lines came, %d wait, %d are in volumes, %d are of writers", lines, came, waiting, bound, ofWriters)
		}
		paid := map[string]int{}
		for _, words := range linesOf(lines, "pay") {
			paid[words[1]] += value(words[2])
		}
		for _, a := range o.Accounts() {
			if a.Pence < 0 || a.Pence > clerk.MaxPence || a.Pence+clerk.Price*a.Volumes != paid[a.Who] {
				t.Errorf("%q: %+v paid %d", lines, a, paid[a.Who])
			}
			got += a.Volumes
		}
		if len(paid) != len(o.Accounts()) || sent != got {
			t.Errorf("%q: %d subscribers, of whom %d paid; %d volumes were sent, and %d got", lines, len(o.Accounts()), len(paid), sent, got)
		}
		if sent > 0 && waiting > 0 {
			found["sent and waiting"]++
		}
	}
	if found["sent and waiting"] < 10 {
		t.Errorf("found %v", found)
	}
}

// P14.11
func TestOneWordForEachForm(t *testing.T) {
	forms := 0
	for _, lines := range offices(t, 12) {
		o := told(t, lines...)
		for _, entry := range o.Entries() {
			if word, e := o.Find(entry.Word); word != entry.Word || e != api.OK {
				t.Errorf("Find %q: %q %d", entry.Word, word, e)
			}
			if entry.Form == "" {
				continue
			}
			forms++
			for _, other := range o.Entries() {
				if short.Left(other.Word, entry.Form) != (other.Word == entry.Word) {
					t.Errorf("%q: %q is the short form of %q", lines, entry.Form, entry.Word)
				}
			}
			if word, e := o.Find(entry.Form); word != entry.Word || e != api.OK {
				t.Errorf("Find %q: %q %d", entry.Form, word, e)
			}
		}
	}
	if forms < 200 {
		t.Errorf("%d short forms", forms)
	}
}

// P14.12
func TestNoCircles(t *testing.T) {
	long := 0
	for _, lines := range offices(t, 13) {
		o := told(t, lines...)
		refers := map[string]string{}
		for _, entry := range o.Entries() {
			refers[entry.Word] = entry.See
		}
		for word := range refers {
			way, e := o.Way(word)
			if e != api.OK || len(way) > len(refers) || way[0] != word || refers[way[len(way)-1]] != "" {
				t.Fatalf("%q: Way of %q: %q %d", lines, word, way, e)
			}
			for i := range way[1:] {
				if refers[way[i]] != way[i+1] {
					t.Errorf("%q: Way of %q: %q", lines, word, way)
				}
			}
			if len(way) > 3 {
				long++
			}
		}
	}
	if long < 20 {
		t.Errorf("%d long ways", long)
	}
}

// P14.13: each line that is taken and undone, and each that is refused, leaves the office as it was; all are undone at last.
func TestUndo(t *testing.T) {
	t.Parallel()
	r := rand.New(rand.NewSource(14))
	undone := map[string]int{}
	for number := range 200 {
		d := newDrawing(r, number%10 == 9)
		o := clerk.New()
		states := [][]string{known(o)}
		for range d.steps(false) {
			line := d.line()
			if line == "undo" {
				continue
			}
			e := o.Tell(line)
			if e != api.OK {
				examineSame(t, line, known(o), states[len(states)-1])
				continue
			}
			after := known(o)
			if e := o.Tell("undo"); e != api.OK {
				t.Fatalf("undo of %q: %d", line, e)
			}
			examineSame(t, line, known(o), states[len(states)-1])
			if e := o.Tell(line); e != api.OK {
				t.Fatalf("Tell %q again: %d", line, e)
			}
			examineSame(t, line, known(o), after)
			states = append(states, after)
			kind, _, _ := strings.Cut(line, " ")
			undone[kind]++
		}
		for i := len(states) - 2; i >= 0; i-- {
			if e := o.Tell("undo"); e != api.OK {
				t.Fatalf("undo: %d", e)
			}
			examineSame(t, "undo", known(o), states[i])
		}
		if e := o.Tell("undo"); e != api.ErrEmpty {
			t.Errorf("undo of nothing: %d", e)
		}
	}
	for _, kind := range list("word", "short", "give", "come", "see", "close", "pay", "stop") {
		if undone[kind] < 50 {
			t.Errorf("so often %s was undone: %d", kind, undone[kind])
		}
	}
}

// P14.14
func TestBooks(t *testing.T) {
	t.Parallel()
	for _, lines := range offices(t, 15) {
		o := told(t, lines...)
		read, e := clerk.Read(o.Text())
		if e != api.OK {
			t.Fatalf("Read %q: %d", o.Text(), e)
		}
		examineSame(t, "read", known(read), known(o))
		examineSame(t, "told again", known(told(t, o.Lines()...)), known(o))
		if len(o.Text()) > api.MaxText {
			t.Errorf("a text of %d bytes", len(o.Text()))
		}
		// what was read goes on like what was told
		for _, line := range list("undo", "pay zoe 20", "close z", "undo", "undo", "undo") {
			if e, f := o.Tell(line), read.Tell(line); e != f {
				t.Errorf("Tell %q: %d, and %d", line, e, f)
			}
			examineSame(t, line, known(read), known(o))
		}
	}
}

// closings tells, for each headword whose article had come before its letter closed, the number of the closing volume.
func closings(lines []string) map[string]int {
	numbers, came := map[string]int{}, map[string]bool{}
	number := 0
	for _, line := range lines {
		words := strings.Split(line, " ")
		switch words[0] {
		case "come":
			came[words[1]] = true
		case "close":
			number++
			for word := range came {
				if word[:1] <= words[1] {
					numbers[word] = number
					delete(came, word)
				}
			}
		}
	}
	return numbers
}

// P14.15
func TestVolumesAreInOrder(t *testing.T) {
	found := map[string]int{}
	for _, lines := range offices(t, 16) {
		o := told(t, lines...)
		want := closings(lines)
		var all []string
		last := ""
		for i, v := range o.Volumes() {
			if len(v.Words) == 0 || v.Letter <= last {
				t.Errorf("%q: volume %+v", lines, v)
			}
			for _, word := range v.Words {
				if word[:1] > v.Letter || word[:1] <= last || want[word] != i+1 {
					t.Errorf("%q: %q is in volume %+v", lines, word, v)
				}
			}
			all = append(all, v.Words...)
			last = v.Letter
		}
		if len(all) != len(want) || !slices.IsSorted(all) || len(slices.Compact(slices.Clone(all))) != len(all) {
			t.Errorf("%q: volumes with %q", lines, all)
		}
		for _, entry := range o.Entries() {
			if entry.Volume != want[entry.Word] {
				t.Errorf("%q: %+v", lines, entry)
			}
			if entry.Volume == 0 && entry.Came > 0 && entry.Word[:1] <= last {
				t.Errorf("%q: %+v is closed, and waits", lines, entry)
			}
		}
		if len(o.Volumes()) > 1 {
			found["more than one volume"]++
		}
		if len(all) > len(o.Volumes()) {
			found["more words than volumes"]++
		}
		if len(o.Late()) > 0 {
			found["late"]++
		}
	}
	if found["more than one volume"] < 50 || found["more words than volumes"] < 50 || found["late"] < 30 {
		t.Errorf("found %v", found)
	}
}

// M7: a volume that closes at a later letter has at least the same articles, and is sent to the same subscribers.
func TestLaterLetters(t *testing.T) {
	t.Parallel()
	found := map[bool]int{}
	for _, lines := range offices(t, 17) {
		var before []string
		for letter := 'a'; letter <= 'z'; letter++ {
			o := told(t, lines...)
			number := len(o.Volumes())
			if e := o.Tell("close " + string(letter)); e != api.OK {
				if e == api.ErrEmpty && len(before) > 0 {
					t.Errorf("%q: nothing closes at %c, but %q before it", lines, letter, before)
				}
				continue
			}
			words := o.Volumes()[number].Words
			if len(words) < len(before) || !slices.Equal(words[:len(before)], before) {
				t.Errorf("%q: %q close at %c, but %q before it", lines, words, letter, before)
			}
			found[len(words) > len(before) && len(before) > 0]++
			before = words
		}
	}
	if found[true] < 30 {
		t.Errorf("found %v", found)
	}
}

// M7: whoever pays more gets no fewer volumes.
func TestMorePence(t *testing.T) {
	t.Parallel()
	for _, lines := range offices(t, 18) {
		for i, line := range lines {
			words := strings.Split(line, " ")
			if words[0] != "pay" || value(words[2]) > 500 {
				continue
			}
			more := slices.Clone(lines)
			more[i] = fmt.Sprintf("pay %s %d", words[1], value(words[2])+20)
			o, p := clerk.New(), clerk.New()
			taken := true
			for k := range lines {
				o.Tell(lines[k])
				taken = p.Tell(more[k]) == api.OK && taken
			}
			if !taken {
				continue // too many pence in all
			}
			for k, a := range o.Accounts() {
				b := p.Accounts()[k]
				if b.Volumes < a.Volumes || b.Volumes > a.Volumes+1 || b.Who != words[1] && b != a {
					t.Errorf("%q: %+v; %s, and %+v", lines, a, more[i], b)
				}
			}
		}
	}
}
