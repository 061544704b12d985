package clerk_test

import (
	"fmt"
	"slices"
	"testing"

	"headword/api"
	"headword/clerk"
)

// manyWho are lines of an office with as many subscribers as possible.
func manyWho() string {
	lines := ""
	for c := range 12 {
		lines += fmt.Sprintf(";pay %c 100", 'a'+c)
	}
	return lines
}

// P14.4: close
func TestClose(t *testing.T) {
	const map5 = "word map;give map ann 5;come map 5"
	examineTellings(t, []telling{
		{map5, "close m", api.OK},
		{map5, "close n", api.OK},
		{map5, "close z", api.OK},
		{"word a;give a ann 1;come a 1", "close a", api.OK},
		{"word zoo;give zoo ann 1;come zoo 1", "close z", api.OK},
		{map5 + ";word net;give net ben 1;come net 1;close m", "close n", api.OK},
		{map5 + ";word oak;give oak ben 1;come oak 1;close m", "close z", api.OK},
		{map5 + ";close m", "close m", api.ErrOrder},
		{map5 + ";close m", "close l", api.ErrOrder},
		{map5 + ";close m", "close a", api.ErrOrder},
		{map5 + ";word oak;give oak ben 1;come oak 1;close m", "close l", api.ErrOrder},
		{map5 + ";word oak;give oak ben 1;come oak 1;close m;close z", "close n", api.ErrOrder},
		{map5 + ";word oak;give oak ben 1;come oak 1;close m;close z", "close m", api.ErrOrder},
		{map5 + ";close z", "close z", api.ErrOrder},
		{"", "close a", api.ErrEmpty},
		{"", "close z", api.ErrEmpty},
		{"word map", "close m", api.ErrEmpty},
		{"word map;give map ann 5", "close m", api.ErrEmpty},
		{"word map;word mop;see map mop", "close z", api.ErrEmpty},
		{map5, "close l", api.ErrEmpty},
		{map5, "close a", api.ErrEmpty},
		{map5 + ";pay tom 50", "close l", api.ErrEmpty}, // so tom pays nothing
		{map5 + ";close m", "close n", api.ErrEmpty},
		{map5 + ";close m", "close z", api.ErrEmpty},
		{map5 + ";word oak;give oak ben 1;come oak 1;close m", "close n", api.ErrEmpty},
		{map5 + ";word oak;give oak ben 1;come oak 1;close m", "close o", api.OK},
		{map5 + ";close m;undo", "close a", api.ErrEmpty},
		{map5 + ";close z;undo", "close m", api.OK},
		{map5 + ";close z;undo", "word zoo", api.OK},
	})
}

// P14.4: pay
func TestPay(t *testing.T) {
	examineTellings(t, []telling{
		{"", "pay tom 1", api.OK},
		{"", "pay tom 9999", api.OK},
		{"pay tom 1", "pay tom 9998", api.OK},
		{"pay tom 9000", "pay tom 999", api.OK},
		{"pay tom 5;stop tom", "pay tom 1", api.OK},
		{"pay tom 9999", "pay sue 9999", api.OK},
		{"word map;give map ann 1;come map 1;pay tom 9999;close z", "pay tom 20", api.OK},
		{"", "pay tom 0", api.ErrRange},
		{"pay tom 5", "pay tom 0", api.ErrRange},
		{"pay tom 5;stop tom", "pay tom 0", api.ErrRange},
		{"pay tom 9999", "pay tom 0", api.ErrRange},
		{"pay tom 9999", "pay tom 1", api.ErrFull},
		{"pay tom 9999;stop tom", "pay tom 1", api.ErrFull},
		{"pay tom 1", "pay tom 9999", api.ErrFull},
		{"pay tom 5000", "pay tom 5000", api.ErrFull},
		{"pay tom 9999", "pay tom 9999", api.ErrFull},
		{"word map;give map ann 1;come map 1;pay tom 9999;close z", "pay tom 21", api.ErrFull},
		{manyWho(), "pay zoe 1", api.ErrMany},
		{manyWho(), "pay zoe 0", api.ErrRange}, // before there are too many
		{manyWho() + ";stop a;stop b", "pay zoe 1", api.ErrMany},
		{manyWho() + ";undo", "pay zoe 1", api.OK},
		{manyWho(), "pay a 1", api.OK},
		{manyWho(), "pay l 9899", api.OK},
		{manyWho(), "pay l 9900", api.ErrFull},
		{manyWho() + ";stop a", "pay a 1", api.OK},
	})
}

// P14.4: stop
func TestStop(t *testing.T) {
	examineTellings(t, []telling{
		{"pay tom 1", "stop tom", api.OK},
		{"pay tom 1;pay sue 1;stop sue", "stop tom", api.OK},
		{"pay tom 1;stop tom;pay tom 1", "stop tom", api.OK},
		{manyWho(), "stop l", api.OK},
		{"word map;give map ann 1;come map 1;pay tom 20;close z", "stop tom", api.OK}, // who has nothing left
		{"", "stop tom", api.ErrNone},
		{"pay sue 1", "stop tom", api.ErrNone},
		{"pay tom 1;undo", "stop tom", api.ErrNone},
		{"word tom;give tom tom 1", "stop tom", api.ErrNone},
		{"pay tom 1;stop tom", "stop tom", api.ErrTwice},
		{"pay tom 1;stop tom;pay tom 1;stop tom", "stop tom", api.ErrTwice},
	})
}

// When a volume closes, who has not stopped and has 20 pence or more gets it.
func TestWhoGetsVolumes(t *testing.T) {
	const three = "word a;word b;word c;give a x 1;give b x 1;give c x 1;come a 1;come b 1;come c 1"
	for _, x := range []struct {
		lines    string
		accounts []clerk.Account
		sent     []int
	}{
		{"pay tom 19;close a;close b;close c", []clerk.Account{{Who: "tom", Pence: 19}}, []int{0, 0, 0}},
		{"pay tom 20;close a;close b;close c", []clerk.Account{{Who: "tom", Pence: 0, Volumes: 1}}, []int{1, 0, 0}},
		{"pay tom 21;close a;close b;close c", []clerk.Account{{Who: "tom", Pence: 1, Volumes: 1}}, []int{1, 0, 0}},
		{"pay tom 39;close a;close b;close c", []clerk.Account{{Who: "tom", Pence: 19, Volumes: 1}}, []int{1, 0, 0}},
		{"pay tom 40;close a;close b;close c", []clerk.Account{{Who: "tom", Pence: 0, Volumes: 2}}, []int{1, 1, 0}},
		{"pay tom 9999;close a;close b;close c", []clerk.Account{{Who: "tom", Pence: 9939, Volumes: 3}}, []int{1, 1, 1}},
		{"close a;pay tom 60;close b;close c", []clerk.Account{{Who: "tom", Pence: 20, Volumes: 2}}, []int{0, 1, 1}},
		{"pay tom 60;close c", []clerk.Account{{Who: "tom", Pence: 40, Volumes: 1}}, []int{1}},
		{"pay tom 60;close a;stop tom;close b;close c", []clerk.Account{{Who: "tom", Pence: 40, Volumes: 1, Stopped: true}}, []int{1, 0, 0}},
		{"pay tom 60;stop tom;close a;pay tom 1;close b;close c", []clerk.Account{{Who: "tom", Pence: 21, Volumes: 2}}, []int{0, 1, 1}},
		{"pay tom 10;close a;pay tom 10;close b;pay tom 20;close c", []clerk.Account{{Who: "tom", Pence: 0, Volumes: 2}}, []int{0, 1, 1}},
		{"pay tom 30;pay sue 50;pay ida 70;close a;close b;close c", []clerk.Account{{Who: "ida", Pence: 10, Volumes: 3}, {Who: "sue", Pence: 10, Volumes: 2}, {Who: "tom", Pence: 10, Volumes: 1}}, []int{3, 2, 1}},
		{"pay tom 60;close a;close a;close b;close a", []clerk.Account{{Who: "tom", Pence: 20, Volumes: 2}}, []int{1, 1}}, // refused lines send nothing
	} {
		o := told(t, split(three)...)
		for _, line := range split(x.lines) {
			o.Tell(line)
		}
		var sent []int
		for _, v := range o.Volumes() {
			sent = append(sent, v.Sent)
		}
		if !slices.Equal(o.Accounts(), x.accounts) || !slices.Equal(sent, x.sent) {
			t.Errorf("%s: %+v, sent %v, want %+v, %v", x.lines, o.Accounts(), sent, x.accounts, x.sent)
		}
	}
}
