package class_test

import (
	"slices"
	"testing"

	"headword/api"
	"headword/class"
)

// P5.3
func TestMost(t *testing.T) {
	for _, x := range []struct {
		b    book
		want []int
	}{
		{bookA(), list(0, 1, 2)},
		{bookB(), list(0)},
		{bookC(), list(0, 1, 2)},
		{say(2), nil},
		{say(4, "12"), list(0)},
		{say(5, "12", "23", "34"), list(0, 2)},
		{say(5, "34", "12", "23"), list(0, 1)},
		{say(5, "4", "12", "02", "3"), list(0, 1, 3)},
		{say(5, "23", "12", "34", "1"), list(1, 2, 3)},
		{say(6, "23", "34", "45", "12", "1"), list(0, 2, 4)}, // 1 3 4 is as long
		{say(6, "23", "12", "45", "34"), list(0, 2)},
		{say(6, "24", "12", "45", "13", "2"), list(0, 3, 4)}, // 1 2 4 is as long
		{say(6, "235", "12", "45", "123"), list(1, 2, 3)},    // not with the first one
		{say(8, "1", "2", "3", "4", "5", "6", "7", "0", "12", "34", "56", "1234", "07"), list(0, 1, 2, 3, 4, 5, 6, 7, 8, 9, 10, 11, 12)},
	} {
		if slow := slowMost(x.b); !slices.Equal(slow, x.want) && len(x.b.sides) < 13 {
			t.Errorf("the slow Most of %v: %v, want %v", x.b, slow, x.want)
		}
		if l, e := class.Most(x.b.articles, x.b.sides); !slices.Equal(l, x.want) || e != api.OK {
			t.Errorf("Most of %v: %v %d, want %v", x.b, l, e, x.want)
		}
	}
}

// P5.3, M3
func TestMostOfManyBooks(t *testing.T) {
	for _, b := range manyBooks(31) {
		want := slowMost(b)
		if l, e := class.Most(b.articles, b.sides); !slices.Equal(l, want) || e != api.OK {
			t.Errorf("Most of %v: %v %d, want %v", b, l, e, want)
		}
	}
}

// P5.8
func TestFill(t *testing.T) {
	for _, x := range []struct {
		b    book
		want [][]int
		e    api.Errno
	}{
		{bookA(), digits("1", "12", "123", "2", "3"), api.OK},
		{bookB(), nil, api.ErrLost},
		{bookC(), digits("1", "1234", "2", "234", "3", "34", "4"), api.OK},
		{say(2), digits("1"), api.OK},
		{say(2, "0"), digits("1"), api.OK},
		{say(3), digits("1", "12", "2"), api.OK},
		{say(4), digits("1", "12", "123", "2", "3"), api.OK},
		{say(4, "02"), digits("1", "123", "13", "2", "3"), api.OK},
		{say(5, "34", "12"), digits("1", "12", "1234", "2", "3", "34", "4"), api.OK}, // 123 does not agree with 34
		{say(5, "34", "12", "3", "13"), nil, api.ErrLost},
		{say(8), digits("1", "12", "123", "1234", "12345", "123456", "1234567", "2", "3", "4", "5", "6", "7"), api.OK},
	} {
		if l, e := class.Fill(x.b.articles, x.b.sides); !equal(l, x.want) || e != x.e {
			t.Errorf("Fill of %v: %v %d, want %v %d", x.b, l, e, x.want, x.e)
		}
	}
}

// P5.8
func TestFillOfManyBooks(t *testing.T) {
	lost := 0
	for _, b := range manyBooks(8) {
		var want [][]int
		code := api.ErrLost
		if len(slowClashes(b)) == 0 {
			want, code = slowFill(b), api.OK
		} else {
			lost++
		}
		if l, e := class.Fill(b.articles, b.sides); !equal(l, want) || e != code {
			t.Errorf("Fill of %v: %v %d, want %v %d", b, l, e, want, code)
		}
	}
	if lost == 0 {
		t.Error("all divisions agree")
	}
}
