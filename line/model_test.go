package line_test

import (
	"fmt"
	"regexp"
	"strings"
	"testing"

	"berthing/api"
	"berthing/line"
)

// forms is each kind's line as a pattern, so that Parse is held against another way to read one.
func forms() []*regexp.Regexp {
	var l []*regexp.Regexp
	for _, k := range kinds {
		l = append(l, regexp.MustCompile(`\A *`+k.word+strings.Repeat(` +(0|-?[1-9][0-9]{0,9})`, k.count)+` *\z`))
	}
	return l
}

// read is what a text tells, by the patterns.
func read(forms []*regexp.Regexp, s string) (api.Order, api.Errno) {
	if len(s) > api.MaxLine {
		return api.Order{}, api.ErrForm
	}
	for i, form := range forms {
		m := form.FindStringSubmatch(s)
		if m == nil {
			continue
		}
		var numbers [3]int
		for j, digits := range m[1:] {
			if _, err := fmt.Sscan(digits, &numbers[j]); err != nil {
				return api.Order{}, api.ErrForm
			}
			if numbers[j] < -far || numbers[j] > far {
				return api.Order{}, api.ErrForm
			}
		}
		return order(kinds[i].kind, numbers), api.OK
	}
	return api.Order{}, api.ErrForm
}

func agrees(t *testing.T, forms []*regexp.Regexp, s string) {
	t.Helper()
	want, wantErr := read(forms, s)
	if o, e := line.Parse(s); o != want || e != wantErr {
		t.Fatalf("%q: %+v, %d; wanted %+v, %d", s, o, e, want, wantErr)
	}
}

// Each byte of good lines is cut out, doubled, and made any other one.
func TestOneByteOff(t *testing.T) {
	forms := forms()
	for _, s := range []string{
		"come 4 19 0", "leave -3", " hold 1", "free 2 ", "change 10 -7", "keep 1073741824 -1073741824 0", "drop  3",
		"shut 16", "wait 100", "begin", " commit ", "undo", "guess 1 2 3", "ask 0",
	} {
		agrees(t, forms, s)
		for i := range len(s) {
			agrees(t, forms, s[:i])
			agrees(t, forms, s[i:])
			agrees(t, forms, s[:i]+s[i+1:])
			agrees(t, forms, s[:i+1]+s[i:])
			for b := range 256 {
				agrees(t, forms, s[:i]+string([]byte{byte(b)})+s[i+1:])
				agrees(t, forms, s[:i]+string([]byte{byte(b)})+s[i:])
			}
		}
	}
}

// numbers is a row of numbers that is the same at every run.
type numbers struct{ state uint64 }

func (r *numbers) below(n int) int {
	r.state = r.state*6364136223846793005 + 1442695040888963407
	return int(r.state>>33) % n
}

// text is made of what lines are made of, in an order that may be a line's.
func (r *numbers) text() string {
	parts := []string{"0", "1", "-1", "-", "+1", "01", "1073741824", "-1073741824", "1073741825", "\t", "x", ""}
	spaces := []string{" ", " ", " ", "  ", "   ", ""}
	s := spaces[r.below(len(spaces))] + kinds[r.below(len(kinds))].word
	for range r.below(5) {
		n := len(parts)
		if r.below(3) > 0 {
			n = 3
		}
		s += spaces[r.below(len(spaces))] + parts[r.below(n)]
	}
	return s + strings.Repeat(" ", r.below(3)*r.below(25))
}

func TestAnyTexts(t *testing.T) {
	forms := forms()
	r := &numbers{state: 4}
	good := 0
	for range 50000 {
		s := r.text()
		agrees(t, forms, s)
		if _, e := line.Parse(s); e == api.OK {
			good++
		}
	}
	if good < 1000 {
		t.Errorf("only %d of the texts tell an order", good)
	}
}

// What is printed comes back, of whatever numbers; and what comes back is printed with its spaces made one.
func TestThereAndBack(t *testing.T) {
	r := &numbers{state: 11}
	for range 50000 {
		o := order(r.below(17)-1, [3]int{r.number(), r.number(), r.number()})
		s, e := line.Print(o)
		if (e == api.OK) != line.Good(o) {
			t.Fatalf("%+v: %q, %d", o, s, e)
		}
		if e != api.OK {
			refused(t, o)
			continue
		}
		parsed(t, s, o)
	}
	for range 50000 {
		s := r.text()
		o, e := line.Parse(s)
		if e != api.OK {
			continue
		}
		if back, e := line.Print(o); e != api.OK || back != strings.Join(strings.Fields(s), " ") {
			t.Fatalf("%q: %+v, %q, %d", s, o, back, e)
		}
	}
}

// number is 0 rather often, and sometimes out of its bounds.
func (r *numbers) number() int {
	switch r.below(4) {
	case 0, 1:
		return 0
	case 2:
		return r.below(400) - 200
	default:
		return r.below(2*far+21) - far - 10
	}
}
