package clerk_test

import (
	"fmt"
	"slices"
	"testing"

	"headword/api"
	"headword/clerk"
)

// officeB returns lines of two volumes, words that refer on, and all that can be known of a headword.
func officeB() []string {
	return split("word zoo;word b;word ab;word a;see b zoo;short zoo o;give a ann 3;word z;word y;give zoo eve 9;come zoo 7;come a 6;give z ann 4;see ab b;short ab ab;short y y;close a;give y bob 1;close z")
}

// P14.6
func TestEntries(t *testing.T) {
	want := []clerk.Entry{{Word: "map", Form: "mp", Writer: "ann", Asked: 30, Came: 40, Volume: 1}, {Word: "mast", Writer: "ben", Asked: 10}}
	if entries := told(t, officeA()...).Entries(); !slices.Equal(entries, want) {
		t.Errorf("Entries: %+v", entries)
	}
	want = []clerk.Entry{
		{Word: "a", Writer: "ann", Asked: 3, Came: 6, Volume: 1},
		{Word: "ab", Form: "ab", See: "b"},
		{Word: "b", See: "zoo"},
		{Word: "y", Form: "y", Writer: "bob", Asked: 1},
		{Word: "z", Writer: "ann", Asked: 4},
		{Word: "zoo", Form: "o", Writer: "eve", Asked: 9, Came: 7, Volume: 2},
	}
	if entries := told(t, officeB()...).Entries(); !slices.Equal(entries, want) {
		t.Errorf("Entries: %+v", entries)
	}
}

// P14.6: short forms and headwords, and what is neither: other parts, writers, subscribers, and what is no name.
func TestFind(t *testing.T) {
	for _, x := range []struct {
		lines      []string
		form, want string
	}{
		{officeA(), "mp", "map"},
		{officeA(), "map", "map"},
		{officeA(), "mast", "mast"},
		{officeB(), "o", "zoo"},
		{officeB(), "zoo", "zoo"},
		{officeB(), "z", "z"},
		{officeB(), "ab", "ab"},
		{officeB(), "b", "b"}, // not the one that it refers to
		{officeB(), "y", "y"},
		{officeA(), "mt", ""},
		{officeA(), "", ""},
		{officeA(), "ma", ""},
		{officeA(), "m", ""},
		{officeA(), "maps", ""},
		{officeA(), "ann", ""},
		{officeA(), "tom", ""},
		{officeA(), "MAP", ""},
		{officeA(), "map ", ""},
		{officeA(), " mp", ""},
		{officeA(), "word map", ""},
		{officeA(), "\xff", ""},
		{nil, "", ""},
		{nil, "map", ""},
		{split("word map;short map mp;undo"), "mp", ""},
		{split("word map;short map mp;undo"), "map", "map"},
		{split("word map;undo"), "map", ""},
	} {
		o := told(t, x.lines...)
		want := api.OK
		if x.want == "" {
			want = api.ErrNone
		}
		if word, e := o.Find(x.form); word != x.want || e != want {
			t.Errorf("Find %q of %q: %q %d, want %q %d", x.form, o.Lines(), word, e, x.want, want)
		}
	}
}

// P14.6
func TestWay(t *testing.T) {
	chain := split("word a;word b;word c;word d;see d b;see a b;see b c")
	for _, x := range []struct {
		lines []string
		word  string
		way   []string
		want  api.Errno
	}{
		{chain, "a", list("a", "b", "c"), api.OK},
		{chain, "b", list("b", "c"), api.OK},
		{chain, "c", list("c"), api.OK},
		{chain, "d", list("d", "b", "c"), api.OK},
		{append(chain, "undo"), "a", list("a", "b"), api.OK},
		{officeB(), "ab", list("ab", "b", "zoo"), api.OK},
		{officeA(), "map", list("map"), api.OK},
		{officeA(), "mp", nil, api.ErrNone}, // a short form is no headword
		{officeB(), "o", nil, api.ErrNone},
		{officeA(), "", nil, api.ErrNone},
		{officeA(), "ann", nil, api.ErrNone},
		{officeA(), "Map", nil, api.ErrNone},
		{officeA(), "\xff", nil, api.ErrNone},
		{nil, "", nil, api.ErrNone},
		{nil, "map", nil, api.ErrNone},
	} {
		o := told(t, x.lines...)
		if way, e := o.Way(x.word); !slices.Equal(way, x.way) || e != x.want {
			t.Errorf("Way %q of %q: %q %d, want %q %d", x.word, o.Lines(), way, e, x.way, x.want)
		}
	}
}

// P14.6, P14.12: all headwords refer on, in the order in which they were told and in the opposite one.
func TestLongWays(t *testing.T) {
	name := func(k int) string { return fmt.Sprintf("%c%c", 'a'+k%7, 'a'+k/7) }
	for _, backwards := range []bool{false, true} {
		o := clerk.New()
		var want []string
		for k := range 40 {
			want = append(want, name(k))
			o.Tell("word " + name(k))
		}
		for k := range 39 {
			if backwards {
				k = 38 - k
			}
			if e := o.Tell("see " + name(k) + " " + name(k+1)); e != api.OK {
				t.Fatalf("see of word %d: %d", k, e)
			}
		}
		for k := range 40 {
			if way, e := o.Way(name(k)); !slices.Equal(way, want[k:]) || e != api.OK {
				t.Errorf("Way of word %d: %q %d", k, way, e)
			}
			if e := o.Tell("see " + name(39) + " " + name(k)); e != api.ErrClash {
				t.Errorf("see of the last word, %d: %d", k, e)
			}
		}
	}
}

// P14.7
func TestVolumes(t *testing.T) {
	for _, x := range []struct {
		lines []string
		want  string
	}{
		{nil, "[]"},
		{officeA()[:7], "[]"},
		{officeA(), "[{m [map] 40 1}]"},
		{officeB(), "[{a [a] 6 0} {z [zoo] 7 0}]"},
		{split("word net;word bee;word oak;word ant;give net x 9;give bee x 5;give oak x 9;give ant x 3;come oak 8;come bee 6;come net 14;come ant 1;close o;word zoo;give zoo x 1;pay x 39;come zoo 2;close z"), "[{o [ant bee net oak] 29 0} {z [zoo] 2 1}]"},
		{split("word a;word b;word c;give c x 1;come c 1;give b x 1;come b 1;give a x 1;close b;come c 2"), ""},
		{split("word a;word b;word c;give c x 1;come c 2;give b x 1;come b 1;give a x 1;close b;close d"), "[{b [b] 1 0} {d [c] 2 0}]"},
		{split("word a;word b;give b x 1;give a x 1;come b 2;close c;word d;give d x 9;come d 9;close d;undo;undo;undo"), "[{c [b] 2 0}]"},
	} {
		o := clerk.New()
		for _, line := range x.lines {
			o.Tell(line)
		}
		if x.want == "" {
			examineOffice(t, o, x.lines[:len(x.lines)-1]) // the last line is refused
			continue
		}
		if volumes := fmt.Sprint(o.Volumes()); volumes != x.want {
			t.Errorf("Volumes of %q: %s, want %s", x.lines, volumes, x.want)
		}
		for _, v := range o.Volumes() {
			if !slices.IsSorted(v.Words) {
				t.Errorf("volume %v", v)
			}
		}
	}
}

// P14.7
func TestAccountsWritersAndLate(t *testing.T) {
	for _, x := range []struct {
		lines                   []string
		accounts, writers, late string
	}{
		{nil, "[]", "[]", "[]"},
		{officeA(), "[{tom 30 1 false}]", "[{ann 40} {ben 0}]", "[mast]"},
		{officeA()[:7], "[{tom 50 0 false}]", "[{ann 40} {ben 0}]", "[]"},
		{officeB(), "[]", "[{ann 6} {bob 0} {eve 7}]", "[y z]"},
		{split("pay zoe 5;pay ann 7;pay moe 9;stop moe;pay ann 1;stop zoe;pay zoe 2"), "[{ann 8 0 false} {moe 9 0 true} {zoe 7 0 false}]", "[]", "[]"},
		{split("word b;word a;word c;give c zoe 5;give a ann 5;give b zoe 5;come a 1;come c 9;close a"), "[]", "[{ann 1} {zoe 9}]", "[]"},
		{split("word b;word a;word c;give c zoe 5;give a ann 5;give b zoe 5;come b 1;come c 9;close b"), "[]", "[{ann 0} {zoe 10}]", "[a]"},
		{split("word b;word a;word c;give c zoe 5;give a ann 5;give b zoe 5;come c 9;close d"), "[]", "[{ann 0} {zoe 9}]", "[a b]"},
		{split("word a;word b;word c;see a b;give c x 1;come c 1;close c"), "[]", "[{x 1}]", "[]"}, // nobody was to write a and b
		{split("word a;give a x 1;come a 1;close c;word d;give d x 1"), "[]", "[{x 1}]", "[]"},
		{split("word a;give a x 1;undo"), "[]", "[]", "[]"},
	} {
		o := told(t, x.lines...)
		accounts, writers, late := fmt.Sprint(o.Accounts()), fmt.Sprint(o.Writers()), fmt.Sprint(o.Late())
		if accounts != x.accounts || writers != x.writers || late != x.late {
			t.Errorf("Accounts, Writers and Late of %q: %s %s %s, want %s %s %s", x.lines, accounts, writers, late, x.accounts, x.writers, x.late)
		}
	}
}
