package quire_test

import (
	"strings"
	"testing"

	"headword/api"
	"headword/quire"
)

func TestLimits(t *testing.T) {
	if quire.MaxFolds != 6 || quire.MaxCreases != 63 {
		t.Errorf("limits %d, %d", quire.MaxFolds, quire.MaxCreases)
	}
}

// P3.1
func TestCheck(t *testing.T) {
	for _, x := range []struct {
		folds string
		want  api.Errno
	}{
		{"", api.OK},
		{"o", api.OK},
		{"u", api.OK},
		{"ouuouo", api.OK},
		{"ooooooo", api.ErrLong},
		{strings.Repeat("u", 100000), api.ErrLong},
		{"xxxxxxx", api.ErrLong}, // too long comes before wrong letters
		{"éééé", api.ErrLong},    // four characters, eight bytes
		{"ééé", api.ErrForm},
		{"ox", api.ErrForm},
		{"xo", api.ErrForm},
		{"O", api.ErrForm},
		{"U", api.ErrForm},
		{"v", api.ErrForm},
		{"h", api.ErrForm},
		{"o u", api.ErrForm},
		{"ou\n", api.ErrForm},
		{"\x00", api.ErrForm},
		{"\xff", api.ErrForm},
		{"p", api.ErrForm},
		{"s", api.ErrForm},
	} {
		if e := quire.Check(x.folds); e != x.want {
			t.Errorf("Check of %.20q: %d, want %d", x.folds, e, x.want)
		}
		_, _, pages := quire.Pages(x.folds)
		_, _, end := quire.End(x.folds)
		for name, e := range map[string]api.Errno{
			"Pile":    errorOf(quire.Pile(x.folds)),
			"Pages":   pages,
			"Creases": errorOf(quire.Creases(x.folds)),
			"End":     end,
		} {
			if e != x.want {
				t.Errorf("%s of %.20q: %d, want %d", name, x.folds, e, x.want)
			}
		}
	}
}

// P3.4
func TestErrorsOfCreases(t *testing.T) {
	for _, x := range []struct {
		creases string
		any     api.Errno // of functions of any creases
		strip   api.Errno // of functions of all creases of a strip
	}{
		{"", api.OK, api.OK},
		{"v", api.OK, api.OK},
		{"h", api.OK, api.OK},
		{"vh", api.OK, api.ErrShape},
		{"vvh", api.OK, api.OK},
		{"vvvv", api.OK, api.ErrShape},
		{strings.Repeat("v", 6), api.OK, api.ErrShape},
		{strings.Repeat("v", 7), api.OK, api.OK},
		{strings.Repeat("h", 8), api.OK, api.ErrShape},
		{strings.Repeat("h", 15), api.OK, api.OK},
		{strings.Repeat("h", 16), api.OK, api.ErrShape},
		{strings.Repeat("h", 31), api.OK, api.OK},
		{strings.Repeat("h", 32), api.OK, api.ErrShape},
		{strings.Repeat("h", 62), api.OK, api.ErrShape},
		{strings.Repeat("h", 63), api.OK, api.OK},
		{strings.Repeat("h", 64), api.ErrLong, api.ErrLong},
		{strings.Repeat("v", 127), api.ErrLong, api.ErrLong},
		{strings.Repeat("x", 64), api.ErrLong, api.ErrLong}, // too long comes before wrong letters
		{strings.Repeat("é", 32), api.ErrLong, api.ErrLong}, // 32 characters, 64 bytes
		{strings.Repeat("x", 63), api.ErrForm, api.ErrForm},
		{"vx", api.ErrForm, api.ErrForm}, // wrong letters come before the shape
		{"xvv", api.ErrForm, api.ErrForm},
		{"vvo", api.ErrForm, api.ErrForm},
		{"u", api.ErrForm, api.ErrForm},
		{"V", api.ErrForm, api.ErrForm},
		{"H", api.ErrForm, api.ErrForm},
		{"\x00", api.ErrForm, api.ErrForm},
		{"v\xffv", api.ErrForm, api.ErrForm},
		{"i", api.ErrForm, api.ErrForm},
		{"w", api.ErrForm, api.ErrForm},
	} {
		if e := errorOf(quire.Walk(x.creases)); e != x.any {
			t.Errorf("Walk of %.20q: %d, want %d", x.creases, e, x.any)
		}
		if _, _, e := quire.Lanes(x.creases); e != x.any && (x.any != api.OK || e != api.ErrClash) {
			t.Errorf("Lanes of %.20q: %d, want %d", x.creases, e, x.any)
		}
		if e := errorOf(quire.Folds(x.creases)); e != x.strip && (x.strip != api.OK || e != api.ErrLost) {
			t.Errorf("Folds of %.20q: %d, want %d", x.creases, e, x.strip)
		}
		if _, _, e := quire.Why(x.creases); e != x.strip && (x.strip != api.OK || e != api.ErrClash) {
			t.Errorf("Why of %.20q: %d, want %d", x.creases, e, x.strip)
		}
		want := x.strip
		if want == api.OK {
			want = api.ErrNone
		}
		if e := quire.Proves(x.creases, 70, -1); e != want {
			t.Errorf("Proves of %.20q: %d, want %d", x.creases, e, want)
		}
	}
}
