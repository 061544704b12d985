package clerk_test

import (
	"fmt"
	"slices"
	"testing"

	"headword/api"
	"headword/clerk"
)

// spoil changes all elements of a list, and what lies behind them.
func spoil[T any](l []T, other T) {
	for i := range l {
		l[i] = other
	}
	rest := l[len(l):cap(l)]
	for i := range rest {
		rest[i] = other
	}
}

// spoilAll changes all that an office returns.
func spoilAll(o *clerk.Office) {
	volumes := o.Volumes()
	for _, v := range volumes {
		spoil(v.Words, "no")
	}
	spoil(volumes, clerk.Volume{Letter: "q", Words: list("no"), Lines: 7, Sent: 7})
	spoil(o.Lines(), "word no")
	spoil(o.Entries(), clerk.Entry{Word: "no", Form: "no", See: "no", Writer: "no", Asked: 7, Came: 7, Volume: 1})
	spoil(o.Accounts(), clerk.Account{Who: "no", Pence: 7, Volumes: 7, Stopped: true})
	spoil(o.Writers(), clerk.Count{Who: "no", Lines: 7})
	spoil(o.Late(), "no")
	for _, entry := range o.Entries() {
		way, _ := o.Way(entry.Word)
		spoil(way, "no")
	}
}

// R4, P1: results share no memory with the office, and asking changes nothing.
func TestOwnMemory(t *testing.T) {
	for _, lines := range append(drawOffices(t, 4, 40), nil, officeA(), officeB()) {
		o := told(t, lines...)
		before := known(o)
		spoilAll(o)
		examineSame(t, "spoiled", known(o), before)
		examineOffice(t, o, lines)
		o.Tell("undo")
		examineOffice(t, o, lines[:max(0, len(lines)-1)])
		spoilAll(o)
		o.Tell("pay zoe 1")
		after, _ := slowTell(lines[:max(0, len(lines)-1)], "pay zoe 1")
		examineOffice(t, o, after)
	}
}

// R4: no two results, and no two lists of one result, share memory; what is told later changes no result.
func TestResultsStay(t *testing.T) {
	o := told(t, split("word a;word b;word c;give a x 1;give b x 1;give c x 1;come a 1;come b 1;come c 1;pay tom 50;close b")...)
	volumes, lines, entries, accounts, writers := o.Volumes(), o.Lines(), o.Entries(), o.Accounts(), o.Writers()
	before := fmt.Sprint(volumes, lines, entries, accounts, writers)
	for _, line := range list("close c", "pay tom 5", "word d", "undo", "undo", "undo", "undo", "close a") {
		o.Tell(line)
	}
	if after := fmt.Sprint(volumes, lines, entries, accounts, writers); after != before {
		t.Errorf("results were %s, and are %s", before, after)
	}
	volumes = told(t, officeB()...).Volumes()
	_ = append(volumes[0].Words, "no")
	volumes[0].Words[0] = "no"
	if !slices.Equal(volumes[1].Words, list("zoo")) {
		t.Errorf("Volumes: %v", volumes)
	}
}

// P14.9: copies of copies, and what is told to each of them.
func TestCopy(t *testing.T) {
	for _, lines := range append(drawOffices(t, 5, 40), nil, officeA(), officeB()) {
		o := told(t, lines...)
		c := o.Copy()
		d := c.Copy()
		if c == o || d == c || d == o {
			t.Fatal("a copy is the office itself")
		}
		for _, x := range []*clerk.Office{o, c, d} {
			examineOffice(t, x, lines)
		}
		var own [3][]string
		for i, x := range []*clerk.Office{o, c, d} {
			own[i] = lines
			for _, line := range [3][]string{split("undo;undo"), split("pay zoe 3;word zoo;give zoo zoe 7"), split("undo;stop tom;word zebra;see zebra zoo;close z")}[i] {
				own[i], _ = examineTell(t, x, own[i], line)
			}
		}
		for i, x := range []*clerk.Office{o, c, d} {
			examineOffice(t, x, own[i])
		}
	}
}

// P14.9: a copy of a full office is full, and has the same last line.
func TestCopyOfFullOffice(t *testing.T) {
	o := clerk.New()
	for range 150 {
		o.Tell("pay tom 1")
	}
	c := o.Copy()
	if e := c.Tell("pay tom 1"); e != api.ErrLong {
		t.Errorf("Tell: %d", e)
	}
	if e := c.Tell("undo"); e != api.OK || len(c.Lines()) != 149 || len(o.Lines()) != 150 {
		t.Errorf("undo: %d, %d lines and %d", e, len(c.Lines()), len(o.Lines()))
	}
}

// P1: what is told to one office, read or asked between changes no other one.
func TestOfficesAreApart(t *testing.T) {
	all := drawOffices(t, 6, 12)
	offices := make([]*clerk.Office, len(all))
	for i := range offices {
		offices[i] = clerk.New()
	}
	for step := range 150 {
		for i, lines := range all {
			if step < len(lines) {
				if e := offices[i].Tell(lines[step]); e != api.OK {
					t.Fatalf("Tell %q: %d", lines[step], e)
				}
			}
		}
	}
	for i, lines := range all {
		examineOffice(t, offices[i], lines)
	}
}
