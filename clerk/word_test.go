package clerk_test

import (
	"fmt"
	"slices"
	"strings"
	"testing"

	"headword/api"
)

// telling is a line that is told to an office with other lines, and its error.
type telling struct {
	lines, line string
	want        api.Errno
}

// examineTellings examines what the lines lead to, and that they change nothing if they are refused.
func examineTellings(t *testing.T, all []telling) {
	t.Helper()
	for _, x := range all {
		lines := split(x.lines)
		if x.want != api.OK {
			examineRefused(t, lines, x.line, x.want)
			continue
		}
		o := told(t, append(slices.Clone(lines), x.line)...)
		examineOffice(t, o, linesAfter(append(lines, x.line)))
	}
}

// shut are lines of an office in which m is closed, and no article of map, mop and may has come; each of them is known in another way.
const shut = "word map;word mop;word may;word max;give mop ann 10;see may map;give max ann 1;come max 1;close m"

// manyWords are lines of an office with as many headwords as possible.
func manyWords() string {
	lines := "word map;short map mp"
	for k := range 39 {
		lines += fmt.Sprintf(";word %cx%c", 'a'+k/13, 'a'+k%13)
	}
	return lines
}

// P14.3: word
func TestWord(t *testing.T) {
	examineTellings(t, []telling{
		{"", "word map", api.OK},
		{"", "word m", api.OK},
		{"", "word zzzzzzzzzz", api.OK},
		{"", "word word", api.OK},
		{"", "word undo", api.OK},
		{"", "word end", api.OK},
		{"", "word headword", api.OK},
		{"word map", "word mop", api.OK},
		{"word map", "word ma", api.OK},
		{"word map", "word maps", api.OK},
		{"word map", "word map", api.ErrTwice},
		{"word map;short map mp", "word map", api.ErrTwice},
		{"word map;short map map", "word map", api.ErrTwice},
		{"word map;give map ann 5", "word map", api.ErrTwice},
		{"pay map 5", "word map", api.OK}, // a subscriber is no headword
		{"word map;give map ann 5", "word ann", api.OK},
		{shut, "word mug", api.ErrShut},
		{shut, "word m", api.ErrShut},
		{shut, "word apt", api.ErrShut},
		{shut, "word lzz", api.ErrShut},
		{shut, "word nap", api.OK},
		{shut, "word zoo", api.OK},
		{shut, "word map", api.ErrTwice}, // before it is shut
		{"word map;short map mp", "word mop", api.ErrClash},
		{"word map;short map mp", "word mp", api.ErrClash},
		{"word map;short map mp", "word amazepop", api.ErrClash},
		{"word map;short map mp", "word pm", api.OK},
		{"word map;short map mp", "word mm", api.OK},
		{"word map;short map map", "word mop", api.OK},
		{"word map;short map map", "word maps", api.ErrClash},
		{"word map;word bee;short map m;short bee b", "word bob", api.ErrClash},
		{"word map;word bee;short map m;short bee b", "word mom", api.ErrClash},
		{"word map;word bee;short map m;short bee b", "word toy", api.OK},
		{"word map;short map mp;give map ann 1;come map 1;close m", "word mop", api.ErrShut}, // before it clashes
		{"word map;short map mp;give map ann 1;come map 1;close m", "word nomp", api.ErrClash},
		{manyWords(), "word zoo", api.ErrFull},
		{manyWords(), "word map", api.ErrTwice},
		{manyWords(), "word mop", api.ErrFull}, // before it clashes
		{manyWords() + ";give map ann 1;come map 1;close m", "word mop", api.ErrShut},
		{manyWords() + ";give map ann 1;come map 1;close m", "word nap", api.ErrFull},
		{strings.TrimSuffix(manyWords(), ";word cxm"), "word zoo", api.OK},
		{strings.TrimSuffix(manyWords(), ";word cxm"), "word mop", api.ErrClash},
		{manyWords() + ";undo", "word zoo", api.OK},
	})
}

// P14.3: short
func TestShort(t *testing.T) {
	examineTellings(t, []telling{
		{"word map", "short map mp", api.OK},
		{"word map", "short map m", api.OK},
		{"word map", "short map map", api.OK},
		{"word map;word mop", "short map ma", api.OK},
		{"", "short map mp", api.ErrNone},
		{"word mop", "short map mp", api.ErrNone},
		{"word map;short map mp", "short mp mp", api.ErrNone},
		{"", "short map xyz", api.ErrNone},
		{"word mop", "short map mop", api.ErrNone},
		{"word map;short map mp", "short map mp", api.ErrTwice},
		{"word map;short map mp", "short map ma", api.ErrTwice},
		{"word map;short map mp", "short map pm", api.ErrTwice}, // before it is no part
		{"word map;word mast;short map mp", "short map ma", api.ErrTwice},
		{"word map", "short map pm", api.ErrProof},
		{"word map", "short map maps", api.ErrProof},
		{"word map", "short map mm", api.ErrProof},
		{"word map", "short map x", api.ErrProof},
		{"word map", "short map mapx", api.ErrProof},
		{"word map;word mop", "short map mo", api.ErrProof}, // before it is a part of another one
		{"word map;word mop", "short map mop", api.ErrProof},
		{"word map;word mop", "short map mp", api.ErrClash},
		{"word map;word mop", "short map m", api.ErrClash},
		{"word map;word mop", "short mop mp", api.ErrClash},
		{"word map;word maps", "short map map", api.ErrClash},
		{"word map;word maps", "short maps maps", api.OK},
		{"word map;word maps", "short maps ps", api.OK},
		{"word map;word maps", "short maps map", api.ErrClash},
		{"word map;word nap;word mop", "short map ap", api.ErrClash},
		{"word abcdefghij;word jihgfedcba", "short abcdefghij aj", api.OK},
		{"word abcdefghij;word jihgfedcba", "short abcdefghij j", api.ErrClash},
		{"word map;word mop;see mop map", "short mop mop", api.OK},
		{shut, "short map ap", api.OK}, // also of closed ones
		{shut, "short max x", api.OK},
		{shut, "short map m", api.ErrClash},
	})
}

// P14.3: give
func TestGive(t *testing.T) {
	examineTellings(t, []telling{
		{"word map", "give map ann 1", api.OK},
		{"word map", "give map ann 9999", api.OK},
		{"word map", "give map map 5", api.OK},
		{"word map;word mop;give map ann 5", "give mop ann 6", api.OK},
		{"word map;word mop;see map mop", "give mop ann 6", api.OK}, // another one refers to it
		{"", "give map ann 1", api.ErrNone},
		{"", "give map ann 0", api.ErrNone},
		{"word mop", "give map ann 1", api.ErrNone},
		{"word map;short map mp", "give mp ann 1", api.ErrNone},
		{"word map;give map ann 5", "give map ann 5", api.ErrTwice},
		{"word map;give map ann 5", "give map ben 1", api.ErrTwice},
		{"word map;give map ann 5", "give map ben 0", api.ErrTwice},
		{"word map;give map ann 5;come map 5", "give map ben 1", api.ErrTwice},
		{"word map;word mop;see map mop", "give map ann 5", api.ErrClash},
		{"word map;word mop;see map mop", "give map ann 0", api.ErrClash},
		{shut, "give map ann 5", api.ErrShut},
		{shut, "give map ann 0", api.ErrShut},
		{shut, "give mop ann 5", api.ErrTwice},
		{shut, "give may ann 5", api.ErrClash},
		{shut, "give zoo ann 5", api.ErrNone},
		{shut, "give abc ann 5", api.ErrNone},
		{shut + ";word nap", "give nap ann 5", api.OK},
		{"word map", "give map ann 0", api.ErrRange},
	})
}

// P14.3: come
func TestCome(t *testing.T) {
	examineTellings(t, []telling{
		{"word map;give map ann 5", "come map 1", api.OK},
		{"word map;give map ann 5", "come map 5", api.OK},
		{"word map;give map ann 5", "come map 9", api.OK},
		{"word map;give map ann 5", "come map 10", api.OK},
		{"word map;give map ann 1", "come map 2", api.OK},
		{"word map;give map ann 5000", "come map 9999", api.OK},
		{"word map;give map ann 9999", "come map 9999", api.OK},
		{"word map;give map ann 9999", "come map 1", api.OK},
		{"", "come map 5", api.ErrNone},
		{"", "come map 0", api.ErrNone},
		{"word map;give map mop 5", "come mop 5", api.ErrNone},
		{"word map;short map mp;give map ann 5", "come mp 5", api.ErrNone},
		{"word map", "come map 5", api.ErrOpen},
		{"word map", "come map 0", api.ErrOpen},
		{"word map;word mop;see map mop;give mop ann 5", "come map 5", api.ErrOpen},
		{"word map;give map ann 5;come map 5", "come map 5", api.ErrTwice},
		{"word map;give map ann 5;come map 5", "come map 0", api.ErrTwice},
		{"word map;give map ann 5;come map 5", "come map 11", api.ErrTwice},
		{"word map;give map ann 1;come map 1;close m", "come map 1", api.ErrTwice},
		{shut, "come map 5", api.ErrOpen},
		{shut, "come mop 5", api.ErrShut},
		{shut, "come mop 0", api.ErrShut},
		{shut, "come mop 21", api.ErrShut},
		{shut, "come max 0", api.ErrTwice},
		{shut, "come zoo 0", api.ErrNone},
		{shut + ";word nap;give nap ann 1", "come nap 2", api.OK},
		{"word map;give map ann 5", "come map 0", api.ErrRange},
		{"word map;give map ann 5", "come map 11", api.ErrOver},
		{"word map;give map ann 5", "come map 9999", api.ErrOver},
		{"word map;give map ann 1", "come map 3", api.ErrOver},
		{"word map;give map ann 4999", "come map 9998", api.OK},
		{"word map;give map ann 4999", "come map 9999", api.ErrOver},
	})
}

// P14.3: see
func TestSee(t *testing.T) {
	const chain = "word a;word b;word c;word d;see a b;see b c"
	examineTellings(t, []telling{
		{"word map;word mop", "see map mop", api.OK},
		{"word map;word mop", "see mop map", api.OK},
		{"word map;word mop;word may;see mop map", "see may map", api.OK},
		{"word map;word mop;give mop ann 5", "see map mop", api.OK},
		{chain, "see d a", api.OK},
		{chain, "see d c", api.OK},
		{chain, "see c d", api.OK},
		{"", "see map mop", api.ErrNone},
		{"word map", "see map mop", api.ErrNone},
		{"word mop", "see map mop", api.ErrNone},
		{"", "see map map", api.ErrNone},
		{"word map;word mop;short mop o", "see map o", api.ErrNone},
		{"word map;word mop;see map mop", "see map may", api.ErrNone}, // before it refers twice
		{"word map;give map ann 1", "see map may", api.ErrNone},
		{shut, "see map zoo", api.ErrNone},
		{"word map;word mop;see map mop", "see map mop", api.ErrTwice},
		{"word map;word mop;word may;see map mop", "see map may", api.ErrTwice},
		{"word map;word mop;see map mop", "see map map", api.ErrTwice},
		{"word map;word mop;give map ann 1", "see map mop", api.ErrFull},
		{"word map;word mop;give map ann 1;come map 1", "see map mop", api.ErrFull},
		{"word map;word mop;give map ann 1", "see map map", api.ErrFull},
		{"word map;word mop;give map ann 1;see mop map", "see map mop", api.ErrFull},
		{shut, "see map mop", api.ErrShut},
		{shut, "see map map", api.ErrShut},
		{shut, "see map may", api.ErrShut}, // may refers to map
		{shut, "see mop map", api.ErrFull},
		{shut, "see may mop", api.ErrTwice},
		{shut + ";word nap", "see nap map", api.OK}, // only the other one is closed
		{shut + ";word nap", "see nap may", api.OK},
		{shut + ";word nap", "see map nap", api.ErrShut},
		{"word map", "see map map", api.ErrClash},
		{"word map;word mop;see map mop", "see mop map", api.ErrClash},
		{chain, "see c c", api.ErrClash},
		{chain, "see c b", api.ErrClash},
		{chain, "see c a", api.ErrClash},
		{chain + ";see d a", "see c d", api.ErrClash},
		{chain + ";see c d", "see d a", api.ErrClash},
		{chain + ";see c d", "see d b", api.ErrClash},
		{chain + ";see c d;undo", "see d a", api.OK},
	})
}
