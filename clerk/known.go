package clerk

import (
	"maps"
	"slices"

	"headword/api"
)

// Count is how many lines of a writer have come.
type Count struct {
	Who   string
	Lines int
}

// Entries returns what is known of all headwords.
func (o *Office) Entries() []Entry {
	if !o.isValid() {
		return nil
	}
	return o.sorted()
}

// Volumes returns all volumes.
func (o *Office) Volumes() []Volume {
	if !o.isValid() {
		return nil
	}
	volumes := slices.Clone(o.volumes)
	for _, entry := range o.sorted() {
		if entry.Volume > 0 {
			volume := &volumes[entry.Volume-1]
			volume.Words = append(volume.Words, entry.Word)
			volume.Lines += entry.Came
		}
	}
	return volumes
}

// Accounts returns the accounts of all subscribers.
func (o *Office) Accounts() []Account {
	if !o.isValid() {
		return nil
	}
	accounts := []Account{}
	for _, who := range slices.Sorted(maps.Keys(o.accounts)) {
		accounts = append(accounts, o.accounts[who])
	}
	return accounts
}

// Writers returns how many lines have come from each writer.
func (o *Office) Writers() []Count {
	if !o.isValid() {
		return nil
	}
	lines := map[string]int{}
	for _, entry := range o.entries {
		if entry.Writer != "" {
			lines[entry.Writer] += entry.Came
		}
	}
	counts := []Count{}
	for _, who := range slices.Sorted(maps.Keys(lines)) {
		counts = append(counts, Count{who, lines[who]})
	}
	return counts
}

// Late returns the headwords whose article is too late.
func (o *Office) Late() []string {
	if !o.isValid() {
		return nil
	}
	late := []string{}
	for _, entry := range o.sorted() {
		if entry.Writer != "" && entry.Came == 0 && o.isClosed(entry.Word) {
			late = append(late, entry.Word)
		}
	}
	return late
}

// Find returns the headword of a form.
func (o *Office) Find(form string) (string, api.Errno) {
	if !o.isValid() {
		return "", api.ErrNil
	}
	for _, entry := range o.entries {
		// No more than one fits, whatever the order: a short form is a part of no other headword.
		if form == entry.Word || form == entry.Form && form != "" {
			return entry.Word, api.OK
		}
	}
	return "", api.ErrNone
}

// Way returns the headwords to which one comes from one.
func (o *Office) Way(word string) ([]string, api.Errno) {
	if !o.isValid() {
		return nil, api.ErrNil
	}
	if _, known := o.entries[word]; !known {
		return nil, api.ErrNone
	}
	return o.way(word), api.OK
}
