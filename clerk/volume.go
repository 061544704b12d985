package clerk

import "headword/api"

// Volume is a volume that has closed.
type Volume struct {
	Letter string
	Words  []string
	Lines  int
	Sent   int
}

// Account is what a subscriber has, and got.
type Account struct {
	Who     string
	Pence   int
	Volumes int
	Stopped bool
}

// closeLine is close LETTER.
type closeLine struct{ letter string }

func (l closeLine) tell(o *Office) api.Errno {
	if o.isClosed(l.letter) {
		return api.ErrOrder
	}
	sent := o.send()
	o.volumes = append(o.volumes, Volume{Letter: l.letter, Sent: sent})
	if !o.bind(len(o.volumes)) {
		return api.ErrEmpty
	}
	return api.OK
}

// send lets all who can pay a volume get it, and returns how many these are.
func (b *book) send() int {
	sent := 0
	for who, account := range b.accounts {
		if !account.Stopped && account.Pence >= Price {
			account.Pence -= Price
			account.Volumes++
			b.accounts[who] = account
			sent++
		}
	}
	return sent
}

// bind puts the closed articles that have come, and wait, into a volume, and reports whether there are any.
func (b *book) bind(volume int) bool {
	found := false
	for word, entry := range b.entries {
		if entry.Came > 0 && entry.Volume == 0 && b.isClosed(word) {
			entry.Volume = volume
			b.entries[word] = entry
			found = true
		}
	}
	return found
}

// payLine is pay WHO PENCE.
type payLine struct {
	who   string
	pence int
}

func (l payLine) tell(o *Office) api.Errno {
	account := o.accounts[l.who]
	o.accounts[l.who] = Account{Who: l.who, Pence: account.Pence + l.pence, Volumes: account.Volumes}
	switch {
	case l.pence == 0:
		return api.ErrRange
	case len(o.accounts) > MaxSubscribers:
		return api.ErrMany
	case o.accounts[l.who].Pence > MaxPence:
		return api.ErrFull
	}
	return api.OK
}

// stopLine is stop WHO.
type stopLine struct{ who string }

func (l stopLine) tell(o *Office) api.Errno {
	account, known := o.accounts[l.who]
	switch {
	case !known:
		return api.ErrNone
	case account.Stopped:
		return api.ErrTwice
	}
	account.Stopped = true
	o.accounts[l.who] = account
	return api.OK
}
