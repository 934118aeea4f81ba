package line_test

import (
	"math"
	"strings"
	"testing"

	"berthing/api"
	"berthing/line"
)

const far = 1 << 30

// kinds is the chapter's list, by kind, told a second time: from the text, not from the program.
var kinds = []struct {
	kind  int
	word  string
	count int
}{
	{1, "come", 3},
	{2, "leave", 1},
	{3, "hold", 1},
	{4, "free", 1},
	{5, "change", 2},
	{6, "keep", 3},
	{7, "drop", 1},
	{8, "shut", 1},
	{9, "wait", 1},
	{10, "begin", 0},
	{11, "commit", 0},
	{12, "undo", 0},
	{13, "guess", 3},
	{14, "ask", 1},
}

// order is one of a kind with numbers at their places.
func order(kind int, numbers [3]int) api.Order {
	return api.Order{Kind: kind, A: numbers[0], B: numbers[1], C: numbers[2]}
}

// refused holds that an order is not good, and is not printed.
func refused(t *testing.T, o api.Order) {
	t.Helper()
	if line.Good(o) {
		t.Errorf("%+v: good", o)
	}
	if s, e := line.Print(o); e != api.ErrForm || s != "" {
		t.Errorf("%+v: %q, %d", o, s, e)
	}
}

// printed holds that an order is good, is printed so, and comes back.
func printed(t *testing.T, o api.Order, want string) {
	t.Helper()
	if !line.Good(o) {
		t.Errorf("%+v: not good", o)
	}
	if s, e := line.Print(o); e != api.OK || s != want {
		t.Errorf("%+v: %q, %d; wanted %q", o, s, e, want)
	}
	parsed(t, want, o)
}

func parsed(t *testing.T, s string, want api.Order) {
	t.Helper()
	if o, e := line.Parse(s); e != api.OK || o != want {
		t.Errorf("%q: %+v, %d; wanted %+v", s, o, e, want)
	}
}

func tellsNone(t *testing.T, s string) {
	t.Helper()
	if o, e := line.Parse(s); e != api.ErrForm || o != (api.Order{}) {
		t.Errorf("%q: %+v, %d", s, o, e)
	}
}

func TestPrinted(t *testing.T) {
	for _, c := range []struct {
		order api.Order
		text  string
	}{
		{api.Order{Kind: api.Come, A: 16, B: 9, C: 0}, "come 16 9 0"},
		{api.Order{Kind: api.Come, A: -1, B: 0, C: -20}, "come -1 0 -20"},
		{api.Order{Kind: api.Leave, A: 3}, "leave 3"},
		{api.Order{Kind: api.Leave, A: -3}, "leave -3"},
		{api.Order{Kind: api.Hold}, "hold 0"},
		{api.Order{Kind: api.Free, A: 13}, "free 13"},
		{api.Order{Kind: api.Change, A: 0, B: 7}, "change 0 7"},
		{api.Order{Kind: api.Change, A: 7}, "change 7 0"},
		{api.Order{Kind: api.Keep, A: 16, B: 20, C: 30}, "keep 16 20 30"},
		{api.Order{Kind: api.Drop, A: 2}, "drop 2"},
		{api.Order{Kind: api.Shut, A: 10}, "shut 10"},
		{api.Order{Kind: api.Wait, A: 299}, "wait 299"},
		{api.Order{Kind: api.Begin}, "begin"},
		{api.Order{Kind: api.Commit}, "commit"},
		{api.Order{Kind: api.Undo}, "undo"},
		{api.Order{Kind: api.Guess, A: 1, B: 2, C: 3}, "guess 1 2 3"},
		{api.Order{Kind: api.Ask, A: 5}, "ask 5"},
		{api.Order{Kind: api.Ask, A: far}, "ask 1073741824"},
		{api.Order{Kind: api.Ask, A: -far}, "ask -1073741824"},
		{api.Order{Kind: api.Guess, A: -far, B: -far, C: -far}, "guess -1073741824 -1073741824 -1073741824"},
	} {
		printed(t, c.order, c.text)
	}
}

// At each place of each kind: the edges, what is just beyond them, and what a number must be that nobody reads.
func TestNumbersOfEachKind(t *testing.T) {
	edges := []struct {
		n    int
		text string
		good bool
	}{
		{-far, "-1073741824", true},
		{1 - far, "-1073741823", true},
		{-1, "-1", true},
		{0, "0", true},
		{1, "1", true},
		{far - 1, "1073741823", true},
		{far, "1073741824", true},
		{-far - 1, "-1073741825", false},
		{far + 1, "1073741825", false},
		{math.MinInt32, "-2147483648", false},
		{1 << 32, "4294967296", false},
		{math.MinInt64, "-9223372036854775808", false},
		{math.MaxInt64, "9223372036854775807", false},
	}
	for _, k := range kinds {
		for place := range 3 {
			for _, edge := range edges {
				var numbers [3]int
				numbers[place] = edge.n
				o := order(k.kind, numbers)
				if place >= k.count && edge.n != 0 {
					refused(t, o)
					continue
				}
				texts := []string{"0", "0", "0"}
				texts[place] = edge.text
				text := strings.Join(append([]string{k.word}, texts[:k.count]...), " ")
				if edge.good {
					printed(t, o, text)
				} else {
					refused(t, o)
					tellsNone(t, text)
				}
			}
		}
	}
}

func TestKindsThatThereAreNot(t *testing.T) {
	for _, kind := range []int{math.MinInt, -1 << 32, -14, -1, 0, 15, 16, 255, 256 + 1, 1<<32 + 1, math.MaxInt} {
		refused(t, api.Order{Kind: kind})
		refused(t, api.Order{Kind: kind, A: 1})
		refused(t, api.Order{Kind: kind, A: 1, B: 2, C: 3})
	}
}

func TestHowManyNumbers(t *testing.T) {
	for _, k := range kinds {
		for count := range 8 {
			s := k.word + strings.Repeat(" 1", count)
			if count != k.count {
				tellsNone(t, s)
				tellsNone(t, s+" ")
				continue
			}
			var numbers [3]int
			for i := range count {
				numbers[i] = 1
			}
			parsed(t, s, order(k.kind, numbers))
		}
	}
}

func TestMoreSpaces(t *testing.T) {
	for _, k := range kinds {
		numbers := [3]int{-7, 0, 12}
		clear(numbers[k.count:])
		o := order(k.kind, numbers)
		text, _ := line.Print(o)
		for ahead := range 4 {
			for between := 1; between < 5; between++ {
				for behind := range 4 {
					wide := strings.ReplaceAll(text, " ", strings.Repeat(" ", between))
					parsed(t, strings.Repeat(" ", ahead)+wide+strings.Repeat(" ", behind), o)
				}
			}
		}
	}
	parsed(t, "come 1   2  3", api.Order{Kind: api.Come, A: 1, B: 2, C: 3})
}

func TestTextsThatTellNone(t *testing.T) {
	for _, s := range []string{
		"", " ", strings.Repeat(" ", api.MaxLine),
		"0", "1", "1 2 3", "-", "ask", "5 ask", "ask ask", "ask ask 1", "begin begin",
		"Ask 1", "ASK 1", "as 1", "asks 1", "ask1", "ask-1", "gone 1", "come1 2 3", "co me 1 2 3", "beg in", "undone", "\"ask\" 1", "ask \"1\"",
		"ask +1", "ask +", "ask -", "ask - 1", "ask --1", "ask +-1", "ask 1-", "ask 1 -", "ask +0",
		"ask 01", "ask 00", "ask 000", "ask -0", "ask -01", "ask -00", "ask 0000000005", "change 1 02", "come 1 2 -0",
		"ask a", "ask 1a", "ask a1", "ask 0x1", "ask 0b1", "ask 1e3", "ask 1.0", "ask 1.", "ask 1_0", "ask 1,0", "come 1,2,3", "ask inf",
		"ask \u0661", "ask \uff11", "ask \u22121", "\uff41sk 1",
		"ask 1073741825", "ask -1073741825", "ask 2147483648", "ask 4294967297", "ask -4294967295",
		"ask 9223372036854775807", "ask 9223372036854775808", "ask -9223372036854775808", "ask -9223372036854775809",
		"ask 18446744073709551616", "ask 18446744073709551617", "ask 99999999999999999999999999999999999999999999",
		"ask 1 0", "begin 0", "begin -0", "undo 1", "commit begin", "leave", "change 1", "come 1 2", "come 1 2 3 4", "keep 1 2", "guess 1 2 3 0",
		"ask 1\x00", "\x00ask 1", "ask 1\n", "\nask 1", "ask 1\r\n", "begin\n", "begin;", "begin\x00", "ask 1 ;", "ask 1 \xff", "\xef\xbb\xbfask 1",
	} {
		tellsNone(t, s)
	}
}

// Nothing but byte 32 is a space: not between, not ahead, not behind, not beside one.
func TestOtherBytesThanSpace(t *testing.T) {
	others := []string{"\u00a0", "\u0085", "\u2003", "\u3000", "\u200b", "\ufeff"}
	for b := range 256 {
		// A digit makes another number, which may be good.
		if b != ' ' && (b < '0' || b > '9') {
			others = append(others, string([]byte{byte(b)}))
		}
	}
	for _, other := range others {
		for _, s := range []string{
			"change" + other + "1 2",
			"change 1" + other + "2",
			"change 1 2" + other,
			"change " + other + "1 2" + other + " ",
			"change 1 2 " + other,
			other + " change 1 2",
			other + "change 1 2",
			" change " + other + " 1 2",
			other + "begin",
			"begin" + other,
		} {
			tellsNone(t, s)
		}
	}
}

func TestLongTexts(t *testing.T) {
	for _, k := range kinds {
		numbers := [3]int{-far, -far, -far}
		clear(numbers[k.count:])
		o := order(k.kind, numbers)
		text, _ := line.Print(o)
		room := strings.Repeat(" ", api.MaxLine-len(text))
		long := []string{room + text, text + room, room[1:] + text + " "}
		if k.count > 0 {
			long = append(long, strings.Replace(text, " ", " "+room, 1))
		}
		for _, s := range long {
			if len(s) != api.MaxLine {
				t.Fatalf("%q: %d bytes", s, len(s))
			}
			parsed(t, s, o)
			tellsNone(t, s+" ")
			tellsNone(t, " "+s)
			tellsNone(t, s+strings.Repeat(" ", 1<<16))
		}
	}
	tellsNone(t, strings.Repeat(" ", api.MaxLine+1))
	tellsNone(t, strings.Repeat("9", 1<<16))
	tellsNone(t, strings.Repeat("ask 1 ", 1<<16))
	// Bytes are counted, not what they spell.
	tellsNone(t, strings.Repeat("\u00e9", api.MaxLine/2))
	tellsNone(t, strings.Repeat("\u00e9", api.MaxLine))
}
