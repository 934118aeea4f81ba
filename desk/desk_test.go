package desk_test

import (
	"slices"
	"strings"
	"testing"

	"berthing/api"
	"berthing/desk"
	"berthing/port"
)

// said is a line, and the reply that is wanted.
type said struct {
	line string
	code api.Errno
	n    int
}

func same(p, q api.Port) bool {
	return p.Now == q.Now && p.Shut == q.Shut && p.Next == q.Next && p.Kept == q.Kept && slices.Equal(p.Ships, q.Ships)
}

// stands holds that a desk's plan is the one that is made from the beginning, and that nobody who is due is still outside.
func stands(t *testing.T, d *desk.Desk) {
	t.Helper()
	p, plan := d.Port(), d.Plan()
	if !port.Good(p) {
		t.Fatalf("not good: %+v", p)
	}
	if want := port.Plan(p); !slices.Equal(plan, want) {
		t.Fatalf("%+v: %v; wanted %v", p, plan, want)
	}
	if _, who := port.Due(p, plan); len(who) > 0 {
		t.Fatalf("%+v: %v are due", p, who)
	}
}

// changes is whether a line may change the port at all.
func changes(s string) bool {
	word, _, _ := strings.Cut(strings.TrimLeft(s, " "), " ")
	return !slices.Contains([]string{"begin", "commit", "guess", "ask"}, word)
}

// tells holds a desk's replies against those that are wanted, and behind each line its plan.
func tells(t *testing.T, d *desk.Desk, l ...said) {
	t.Helper()
	for i, c := range l {
		was := d.Port()
		if r := d.Tell(c.line); r != (api.Reply{Code: c.code, N: c.n}) {
			t.Fatalf("%d: %q: %+v; wanted code %d, %d", i, c.line, r, c.code, c.n)
		}
		stands(t, d)
		if is := d.Port(); (c.code != api.OK || !changes(c.line)) && !same(was, is) {
			t.Fatalf("%d: %q: %+v has become %+v", i, c.line, was, is)
		}
	}
}

// after is a desk that was told lines, which were all done.
func after(t *testing.T, lines ...string) *desk.Desk {
	t.Helper()
	d := desk.New()
	for _, s := range lines {
		if r := d.Tell(s); r.Code != api.OK {
			t.Fatalf("%q: %+v", s, r)
		}
		stands(t, d)
	}
	return d
}

func states(p api.Port) []int {
	var l []int
	for _, s := range p.Ships {
		l = append(l, s.State)
	}
	return l
}

// holds holds a desk's time, the states of its ships, and its plan, against those that are wanted.
func holds(t *testing.T, d *desk.Desk, now int, state, plan []int) {
	t.Helper()
	p := d.Port()
	if p.Now != now || !slices.Equal(states(p), state) || !slices.Equal(d.Plan(), plan) {
		t.Fatalf("%+v, %v; wanted %d, %v, %v", p, d.Plan(), now, state, plan)
	}
}

// P5.1
func TestNew(t *testing.T) {
	d := desk.New()
	if p := d.Port(); !same(p, port.New()) || len(d.Plan()) != 0 {
		t.Errorf("%+v, %v", p, d.Plan())
	}
	tells(t, d, said{"commit", api.ErrNest, 0}, said{"undo", api.ErrNest, 0}, said{"begin", api.OK, 0})
}

// P5.1: two desks have nothing to do with each other.
func TestTwoDesks(t *testing.T) {
	a, b := desk.New(), desk.New()
	tells(t, a, said{"begin", api.OK, 0}, said{"come 3 4 0", api.OK, 0})
	tells(t, b, said{"undo", api.ErrNest, 0}, said{"ask 0", api.ErrNone, 0}, said{"come 5 4 0", api.OK, 0})
	tells(t, a, said{"undo", api.OK, 0})
	if n := len(b.Port().Ships); n != 1 {
		t.Errorf("%d ships", n)
	}
}

// P5.1: of a desk that is nil, lines beyond MaxActs and lines that tell nothing among them.
func TestNil(t *testing.T) {
	var d *desk.Desk
	lines := []string{"", "?", "come 1 1 0", "wait 1", "begin", "commit", "undo", "guess 1 1 0", "ask 0"}
	for i := range api.MaxActs + 2 {
		s := lines[i%len(lines)]
		if r := d.Tell(s); r != (api.Reply{Code: api.ErrNone}) {
			t.Fatalf("%d: %q: %+v", i, s, r)
		}
	}
	if p := d.Port(); !same(p, api.Port{}) || len(d.Plan()) != 0 {
		t.Errorf("%+v, %v", p, d.Plan())
	}
}

// P5.1: what a desk has told is the caller's, its spare room too, whatever is written there.
func TestAnswersAreTheCallers(t *testing.T) {
	lines := []string{"come 10 9 1", "come 10 9 1", "come 7 20 2", "hold 2", "keep 4 30 40", "begin", "leave 0", "undo", "wait 2"}
	d := after(t, lines...)
	twin := after(t, lines...)
	spoil(d)
	agree(t, d, twin, "come 2 5 0", "begin", "free 2", "wait 3")
	spoil(d)
	agree(t, d, twin, "come 9 1 0", "ask 0", "ask 1", "undo", "ask 1", "guess 16 3 3", "wait 40")
}

// spoil writes over all that a desk tells.
func spoil(d *desk.Desk) {
	p := d.Port()
	ships := p.Ships[:cap(p.Ships)]
	for i := range ships {
		ships[i] = api.Ship{State: 77, Wide: -1, Long: -1, Class: 9, Since: -5, Queued: -7}
	}
	p.Kept[0] = api.Kept{Wide: 99}
	plan := d.Plan()
	plan = plan[:cap(plan)]
	for i := range plan {
		plan[i] = 88
	}
}

// agree holds one desk against another, as they stand and behind each line.
func agree(t *testing.T, d, twin *desk.Desk, lines ...string) {
	t.Helper()
	for _, s := range append([]string{"?"}, lines...) {
		if r, want := d.Tell(s), twin.Tell(s); r != want {
			t.Fatalf("%q: %+v; wanted %+v", s, r, want)
		}
		if !same(d.Port(), twin.Port()) || !slices.Equal(d.Plan(), twin.Plan()) {
			t.Fatalf("%q: %+v, %v; wanted %+v, %v", s, d.Port(), d.Plan(), twin.Port(), twin.Plan())
		}
	}
}

// P5.1: what was told stays as it was told, whatever the desk does then.
func TestAnswersStay(t *testing.T) {
	d := after(t, "come 10 9 1", "come 10 9 1")
	p, plan := d.Port(), d.Plan()
	tells(t, d, said{"hold 1", api.OK, 0}, said{"leave 0", api.OK, 0}, said{"free 1", api.OK, 0}, said{"come 1 1 0", api.OK, 2}, said{"wait 3", api.OK, 0})
	if !slices.Equal(states(p), []int{api.Lies, api.Waits}) || p.Ships[0].Wide != 10 || !slices.Equal(plan, []int{-1, 9}) {
		t.Errorf("%+v, %v", p, plan)
	}
}

// P5.2: Parse's error, ahead of whatever else there is; nothing is done.
func TestNoOrder(t *testing.T) {
	d := after(t, "come 16 9 0", "come 4 5 1")
	for _, s := range []string{
		"", " ", "?", "come", "come 1 1", "come 1 1 0 0", "come 1 1 x", "Leave 0", "leave 00", "leave +1", "leave -0", "leave\t0",
		"undo 1", "begin 0", "wait", "wait 1 1", "wait 1073741825", "wait 9223372036854775808", "ask", "ask 0 0", "guess 1 1",
		"leave" + strings.Repeat(" ", 55) + "0", "leave 0\n", "\xff", "leave 0\x00",
	} {
		tells(t, d, said{s, api.ErrForm, 0})
	}
	holds(t, d, 0, []int{api.Lies, api.Waits}, []int{-1, 9})
	tells(t, d, said{"  leave" + strings.Repeat(" ", 50) + "0  ", api.OK, 0})
	holds(t, d, 0, []int{api.Gone, api.Lies}, []int{-1, -1})
}

// P5.2: MaxActs lines, whatever their replies are, and one more; the desk still stands then.
func TestMaxActs(t *testing.T) {
	for name, lines := range map[string][]string{
		"done":     {"ask 0"},
		"no order": {"?"},
		"refused":  {"wait 0"},
		"undone":   {"begin", "undo"},
		"guessed":  {"guess 1 1 0"},
		"mixed":    {"begin", "hold 9", "", "wait 1", "shut 17", "undo", "ask 9"},
	} {
		t.Run(name, func(t *testing.T) {
			d := after(t, "come 4 290 0", "come 13 5 0")
			for i := range api.MaxActs - 2 {
				if r := d.Tell(lines[i%len(lines)]); r.Code == api.ErrFull {
					t.Fatalf("%d: %+v", i, r)
				}
			}
			p, plan := d.Port(), d.Plan()
			for _, s := range []string{"come 1 1 0", "?", "wait 0", "undo", "commit", "leave 0", "ask 0", "ask 9", strings.Repeat("x", 99)} {
				if r := d.Tell(s); r != (api.Reply{Code: api.ErrFull}) {
					t.Fatalf("%q: %+v", s, r)
				}
			}
			if !same(p, d.Port()) || !slices.Equal(plan, d.Plan()) || len(plan) != 2 {
				t.Errorf("%+v, %v; wanted %+v, %v", d.Port(), d.Plan(), p, plan)
			}
		})
	}
}

// P5.2: the last line that may be told is still done.
func TestLastLine(t *testing.T) {
	d := desk.New()
	for range api.MaxActs - 1 {
		tells(t, d, said{"?", api.ErrForm, 0})
	}
	tells(t, d, said{"come 3 4 0", api.OK, 0}, said{"come 3 4 0", api.ErrFull, 0})
	holds(t, d, 0, []int{api.Lies}, []int{-1})
}

// P5.2: behind an order of each of the first eight kinds who is due comes in; nobody else does.
func TestDueBehindOrder(t *testing.T) {
	const waits, held, lies, gone = api.Waits, api.Held, api.Lies, api.Gone
	for _, c := range []struct {
		name        string
		ahead       []string
		line        string
		n           int
		state, plan []int
	}{
		{"come, and is in", nil, "come 16 9 0", 0, []int{lies}, []int{-1}},
		{"come, and waits", []string{"come 16 9 0"}, "come 1 9 0", 1, []int{lies, waits}, []int{-1, 9}},
		{"come, and is never in", []string{"come 1 9 0"}, "come 16 300 0", 1, []int{lies, waits}, []int{-1, -1}},
		{"come, ahead of who waits", []string{"come 16 9 0", "come 9 9 1"}, "come 9 5 0", 2, []int{lies, waits, waits}, []int{-1, 14, 9}},
		{"leave, and two are in", []string{"come 16 9 0", "come 9 5 1", "come 7 5 1", "come 1 2 1"}, "leave 0", 0, []int{gone, lies, lies, waits}, []int{-1, -1, -1, 5}},
		{"leave, of who waited", []string{"come 8 9 0", "come 9 300 0", "come 9 9 0"}, "leave 1", 0, []int{lies, gone, waits}, []int{-1, -1, 9}},
		{"hold, and who is behind is in", []string{"keep 6 20 30", "come 8 9 0", "come 9 15 0", "come 8 20 0"}, "hold 1", 0, []int{lies, held, lies}, []int{-1, -1, -1}},
		{"hold, and another one is in", []string{"keep 16 9 20", "come 10 9 0", "come 7 9 1", "come 6 290 2", "come 6 9 3"}, "hold 1", 0, []int{lies, held, waits, lies}, []int{-1, -1, -1, -1}},
		{"free, and is in", []string{"come 16 9 0", "come 9 5 0", "hold 1", "leave 0"}, "free 1", 0, []int{gone, lies}, []int{-1, -1}},
		{"free, and waits", []string{"come 16 9 0", "come 9 5 0", "hold 1"}, "free 1", 0, []int{lies, waits}, []int{-1, 9}},
		{"change, and is in", []string{"keep 16 9 20", "come 4 10 0"}, "change 0 9", 0, []int{lies}, []int{-1}},
		{"change, of who lies", []string{"come 16 9 0", "come 4 10 0"}, "change 0 20", 0, []int{lies, waits}, []int{-1, 20}},
		{"keep, and who was to come in waits longer", []string{"come 16 9 0", "come 4 10 0"}, "keep 13 12 30", 0, []int{lies, waits}, []int{-1, 30}},
		{"keep, at the place behind", []string{"keep 1 2 3", "keep 1 2 3"}, "keep 2 3 4", 2, nil, nil},
		{"drop, and two are in", []string{"keep 16 5 20", "come 4 10 0", "come 4 9 0"}, "drop 0", 0, []int{lies, lies}, []int{-1, -1}},
		{"shut, of fewer, and it is in", []string{"shut 16", "come 4 10 0", "come 9 10 0"}, "shut 12", 0, []int{lies, waits}, []int{-1, -1}},
		{"shut, of more", []string{"come 4 10 0", "come 14 10 0"}, "shut 12", 0, []int{lies, waits}, []int{-1, -1}},
	} {
		t.Run(c.name, func(t *testing.T) {
			d := after(t, c.ahead...)
			tells(t, d, said{c.line, api.OK, c.n})
			holds(t, d, 0, c.state, c.plan)
			for i, s := range d.Port().Ships {
				if s.State == lies && s.Since != 0 {
					t.Errorf("%d: %+v", i, s)
				}
			}
		})
	}
}
