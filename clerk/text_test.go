package clerk_test

import (
	"fmt"
	"slices"
	"strings"
	"testing"

	"headword/api"
	"headword/clerk"
)

// examineRead compares what Read returns with what is to be read.
func examineRead(t *testing.T, text string, lines []string, want api.Errno) {
	t.Helper()
	o, e := clerk.Read(text)
	if e != want || (o != nil) != (want == api.OK) {
		t.Errorf("Read %.99q: %t %d, want %d", text, o != nil, e, want)
		return
	}
	if want == api.OK {
		examineOffice(t, o, lines)
	}
}

// P14.5
func TestLinesAndText(t *testing.T) {
	for _, x := range []struct {
		lines []string
		text  string
	}{
		{nil, "headword\nend 9863\n"},
		{list("word map"), "headword\nword map\nend 5552\n"},
		{split("word map;undo"), "headword\nend 9863\n"},
		{split("word mop;undo;word map"), "headword\nword map\nend 5552\n"},
		{officeA(), closed("headword\nword map\nword mast\nshort map mp\ngive map ann 30\ncome map 40\ngive mast ben 10\npay tom 50\nclose m\n")},
	} {
		if text := told(t, x.lines...).Text(); text != x.text {
			t.Errorf("Text after %q: %q, want %q", x.lines, text, x.text)
		}
	}
	if lines := told(t, officeA()...).Lines(); !slices.Equal(lines, officeA()) {
		t.Errorf("Lines: %q", lines)
	}
	o := told(t, "word map")
	o.Tell("word map")
	o.Tell("Word")
	if lines := o.Lines(); !slices.Equal(lines, list("word map")) {
		t.Errorf("Lines: %q", lines)
	}
}

// P14.8, R1
func TestRead(t *testing.T) {
	a := strings.Join(officeA(), "\n") + "\n"
	for _, x := range []struct {
		text  string
		lines []string
		want  api.Errno
	}{
		{"headword\nend 9863\n", nil, api.OK},
		{"headword\nword map\nend 5552\n", list("word map"), api.OK},
		{closed("headword\n" + a), officeA(), api.OK},
		{"", nil, api.ErrText},
		{"\n", nil, api.ErrText},
		{"\n\n", nil, api.ErrText},
		{"headword", nil, api.ErrText},
		{"headword\n", nil, api.ErrText},
		{"headword\n\n", nil, api.ErrText},
		{"headword\nend 9863", nil, api.ErrText},
		{"headword\nend 9863\n\n", nil, api.ErrText},
		{"headword\nend 9863\n\nend 9863", nil, api.ErrText},
		{"headword\nend 9863\r\n", nil, api.ErrText},
		{"headword\nend 9863 \n", nil, api.ErrText},
		{"headword\nend 9863\nword map\n", nil, api.ErrText},
		{"headword\nend 9863\nx", nil, api.ErrText},
		{"headword\n\nend 9863", nil, api.ErrText},
		{"headword\nend\n", nil, api.ErrText},
		{"headword\nend \n", nil, api.ErrText},
		{"headword\nend9863\n", nil, api.ErrText},
		{"headword\n end 9863\n", nil, api.ErrText},
		{"headword\nEnd 9863\n", nil, api.ErrText},
		{"headword\nend  9863\n", nil, api.ErrText},
		{"headword\nend\t9863\n", nil, api.ErrText},
		{"headword\nend 09863\n", nil, api.ErrText},
		{"headword\nend +9863\n", nil, api.ErrText},
		{"headword\nend -78\n", nil, api.ErrText},
		{"headword\nend 19804\n", nil, api.ErrText}, // the check number and 9941
		{"headword\nend 10000\n", nil, api.ErrText},
		{"headword\nend 18446744073709561479\n", nil, api.ErrText},
		{"headword\nend 9863 9863\n", nil, api.ErrText},
		{"headword\nend x\n", nil, api.ErrText},
		{"headword\n9863\n", nil, api.ErrText},
		{"headword\nword map\n", nil, api.ErrText},
		{"headwordend 9863\n", nil, api.ErrText},
		{"headword end 9863\n", nil, api.ErrText},
		{"end 0\n", nil, api.ErrText},
		{"end 9863\n", nil, api.ErrText},
		{"end 9863\nheadword\n", nil, api.ErrText},
		{closed("Headword\n"), nil, api.ErrText}, // whatever its check number
		{closed("headword \n"), nil, api.ErrText},
		{closed(" headword\n"), nil, api.ErrText},
		{closed("headwords\n"), nil, api.ErrText},
		{closed("headword\r\n"), nil, api.ErrText},
		{closed("\nheadword\n"), nil, api.ErrText},
		{closed("word map\n"), nil, api.ErrText},
		{closed("word map\nheadword\n"), nil, api.ErrText},
		{closed("headword"), nil, api.ErrText},
		{closed(""), nil, api.ErrText},
		{closed("\n"), nil, api.ErrText},
		{"\ufeff" + closed("headword\n"), nil, api.ErrText},
		{closed("headword\nword map"), nil, api.ErrText},
		{closed(closed("headword\n")) + "\n", nil, api.ErrText},
		{"headword\nend 0\n", nil, api.ErrTorn},
		{"headword\nend 9862\n", nil, api.ErrTorn},
		{"headword\nend 9864\n", nil, api.ErrTorn},
		{"headword\nend 9941\n", nil, api.ErrTorn},
		{"headword\nend 9999\n", nil, api.ErrTorn},
		{"headword\nend 78\n", nil, api.ErrTorn},
		{"headword\nend 986\n", nil, api.ErrTorn},
		{"headword\nword mop\nend 5552\n", nil, api.ErrTorn},
		{"headword\nword map\nend 9863\n", nil, api.ErrTorn},
		{"headword\nundo\nend 0\n", nil, api.ErrTorn}, // before its lines are told
		{"headword\nend 0\nend 9863\n", nil, api.ErrTorn},
		{"headword\n\nend 9863\n", nil, api.ErrTorn},
		{closed("headword\nundo\n"), nil, api.ErrProof},
		{closed("headword\nword map\nundo\n"), nil, api.ErrProof},
		{closed("headword\nword map\nundo\nword map\n"), nil, api.ErrProof},
		{closed("headword\nword map\nword map\n"), nil, api.ErrProof},
		{closed("headword\nword map\nundo now\n"), nil, api.ErrProof},
		{closed("headword\n\n"), nil, api.ErrProof},
		{closed("headword\n\nword map\n"), nil, api.ErrProof},
		{closed("headword\nword map\n\n"), nil, api.ErrProof},
		{closed("headword\nword map\r\n"), nil, api.ErrProof},
		{closed("headword\nword map \n"), nil, api.ErrProof},
		{closed("headword\nheadword\n"), nil, api.ErrProof},
		{closed("headword\nWord map\n"), nil, api.ErrProof},
		{closed("headword\nstop tom\n"), nil, api.ErrProof},
		{closed("headword\npay tom 05\n"), nil, api.ErrProof},
		{closed("headword\npay tom 0\n"), nil, api.ErrProof},
		{closed("headword\n" + a + "word mop\n"), nil, api.ErrProof},
		{closed("headword\nshort map mp\nword map\n"), nil, api.ErrProof},
		{closed(closed("headword\n")), nil, api.ErrProof}, // end is no line of an office
		{closed(closed("headword\nword map\n")), nil, api.ErrProof},
	} {
		if lines, e := slowRead(x.text); !slices.Equal(lines, x.lines) || e != x.want {
			t.Errorf("slowRead %q: %q %d", x.text, lines, e)
		}
		examineRead(t, x.text, x.lines, x.want)
	}
}

// P14.8: all numbers behind end, as far as they have four digits.
func TestReadOfAllNumbers(t *testing.T) {
	for number := range 12000 {
		want := api.ErrTorn
		switch {
		case number == 9863:
			want = api.OK
		case number > 9999:
			want = api.ErrText
		}
		examineRead(t, fmt.Sprintf("headword\nend %d\n", number), nil, want)
	}
}

// P14.8, R1: the length comes first, and 16000 bytes are not too many.
func TestReadOfLongTexts(t *testing.T) {
	// filled returns a text of so many bytes, with the lines of an office and one that has no form.
	filled := func(size int) string {
		for many := size - 40; ; many++ {
			if text := closed("headword\nword map\n" + strings.Repeat("x", many) + "\n"); len(text) == size {
				return text
			}
		}
	}
	torn := func(size int) string { return "headword\n" + strings.Repeat("x", size-16) + "\nend 5\n" }
	many := strings.Repeat("pay tom 1\n", 150)
	for _, x := range []struct {
		text string
		want api.Errno
	}{
		{strings.Repeat("a", 16000), api.ErrText},
		{strings.Repeat("a", 16001), api.ErrLong},
		{strings.Repeat("\n", 16000), api.ErrText},
		{strings.Repeat("\n", 16001), api.ErrLong},
		{strings.Repeat("headword\n", 1<<17), api.ErrLong},
		{torn(15999), api.ErrTorn},
		{torn(16000), api.ErrTorn},
		{torn(16001), api.ErrLong},
		{filled(15990), api.ErrProof},
		{filled(16000), api.ErrProof},
		{filled(16001), api.ErrLong},
		{closed("headword\n" + many + "pay tom 1\n"), api.ErrProof},
		{closed("headword\n" + strings.Repeat("pay tom 1\n", 1500)), api.ErrProof},
		{closed("headword\n" + strings.Repeat("\n", 15000)), api.ErrProof},
	} {
		examineRead(t, x.text, nil, x.want)
	}
	examineRead(t, closed("headword\n"+many), split(strings.ReplaceAll(many, "\n", ";")), api.OK)
}

// changes are all texts that one byte less, more or other makes of a text; other bytes are few, or all.
func changes(text string, all bool, visit func(other string)) {
	bytes := "\n d90e"
	if all {
		bytes = ""
		for c := range 256 {
			bytes += string([]byte{byte(c)})
		}
	}
	for place := range len(text) + 1 {
		for i := range len(bytes) {
			visit(text[:place] + bytes[i:i+1] + text[place:])
			if place < len(text) && text[place] != bytes[i] {
				visit(text[:place] + bytes[i:i+1] + text[place+1:])
			}
		}
		if place < len(text) {
			visit(text[:place] + text[place+1:])
		}
	}
}

// P14.8, P14.14: if one byte of a text is changed, Read returns an error; and also for one more or less what is to be returned.
func TestReadOfChangedTexts(t *testing.T) {
	t.Parallel()
	found := map[api.Errno]int{}
	for _, lines := range append(drawOffices(t, 2, 8), nil, list("word map"), officeA(), officeB()) {
		text := slowText(lines)
		changes(text, len(text) < 250, func(other string) {
			o, e := clerk.Read(other)
			if len(other) == len(text) && e == api.OK {
				t.Errorf("Read %q, changed to %q: OK", text, other)
			}
			if (o != nil) != (e == api.OK) {
				t.Errorf("Read %q: %d", other, e)
			}
			if _, want := slowRead(other); e != want {
				t.Errorf("Read %q: %d, want %d", other, e, want)
			}
			found[e]++
		})
	}
	for _, e := range []api.Errno{api.ErrText, api.ErrTorn} {
		if found[e] < 1000 {
			t.Errorf("so often Read of changed texts led to %d: %d", e, found[e])
		}
	}
}

// P14.8: the same changes of what stands before the last line, which then has its check number.
func TestReadOfChangedLines(t *testing.T) {
	t.Parallel()
	found := map[api.Errno]int{}
	for _, lines := range append(drawOffices(t, 3, 4), nil, list("word map"), officeA(), officeB()) {
		text := slowText(lines)
		body := text[:strings.LastIndex(text, "end ")]
		changes(body, len(body) < 100, func(other string) {
			want, e := slowRead(closed(other))
			o, f := clerk.Read(closed(other))
			if f != e || (o != nil) != (e == api.OK) || o != nil && !slices.Equal(o.Lines(), want) {
				t.Errorf("Read %q: %d, want %d", closed(other), f, e)
			}
			found[e]++
		})
	}
	for _, e := range []api.Errno{api.OK, api.ErrText, api.ErrProof} {
		if found[e] < 50 {
			t.Errorf("so often Read of changed lines led to %d: %d", e, found[e])
		}
	}
}
