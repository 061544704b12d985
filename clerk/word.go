package clerk

import (
	"slices"

	"headword/api"
	"headword/short"
)

// Entry is what is known of a headword.
type Entry struct {
	Word, Form, See, Writer string
	Asked, Came             int
	Volume                  int
}

// wordLine is word WORD.
type wordLine struct{ word string }

func (l wordLine) tell(o *Office) api.Errno {
	_, known := o.entries[l.word]
	switch {
	case known:
		return api.ErrTwice
	case o.isClosed(l.word):
		return api.ErrShut
	case len(o.entries) == MaxWords:
		return api.ErrFull
	}
	for _, entry := range o.entries {
		if entry.Form != "" && short.Left(l.word, entry.Form) {
			return api.ErrClash
		}
	}
	o.entries[l.word] = Entry{Word: l.word}
	return api.OK
}

// shortLine is short WORD FORM.
type shortLine struct{ word, form string }

func (l shortLine) tell(o *Office) api.Errno {
	entry, known := o.entries[l.word]
	switch {
	case !known:
		return api.ErrNone
	case entry.Form != "":
		return api.ErrTwice
	case !short.Left(l.word, l.form):
		return api.ErrProof
	}
	for word := range o.entries {
		if word != l.word && short.Left(word, l.form) {
			return api.ErrClash
		}
	}
	entry.Form = l.form
	o.entries[l.word] = entry
	return api.OK
}

// giveLine is give WORD WRITER LINES.
type giveLine struct {
	word, writer string
	lines        int
}

func (l giveLine) tell(o *Office) api.Errno {
	entry, known := o.entries[l.word]
	switch {
	case !known:
		return api.ErrNone
	case entry.Writer != "":
		return api.ErrTwice
	case entry.See != "":
		return api.ErrClash
	case o.isClosed(l.word):
		return api.ErrShut
	case l.lines == 0:
		return api.ErrRange
	}
	entry.Writer, entry.Asked = l.writer, l.lines
	o.entries[l.word] = entry
	return api.OK
}

// comeLine is come WORD LINES.
type comeLine struct {
	word  string
	lines int
}

func (l comeLine) tell(o *Office) api.Errno {
	entry, known := o.entries[l.word]
	switch {
	case !known:
		return api.ErrNone
	case entry.Writer == "":
		return api.ErrOpen
	case entry.Came > 0:
		return api.ErrTwice
	case o.isClosed(l.word):
		return api.ErrShut
	case l.lines == 0:
		return api.ErrRange
	case l.lines > 2*entry.Asked:
		return api.ErrOver
	}
	entry.Came = l.lines
	o.entries[l.word] = entry
	return api.OK
}

// seeLine is see WORD OTHER.
type seeLine struct{ word, other string }

func (l seeLine) tell(o *Office) api.Errno {
	entry, known := o.entries[l.word]
	_, otherKnown := o.entries[l.other]
	switch {
	case !known || !otherKnown:
		return api.ErrNone
	case entry.See != "":
		return api.ErrTwice
	case entry.Writer != "":
		return api.ErrFull
	case o.isClosed(l.word):
		return api.ErrShut
	case slices.Contains(o.way(l.other), l.word): // also if both are the same
		return api.ErrClash
	}
	entry.See = l.other
	o.entries[l.word] = entry
	return api.OK
}
