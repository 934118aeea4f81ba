package desk_test

import (
	"slices"
	"testing"

	"berthing/api"
	"berthing/desk"
)

// full is a desk with all the ships that there may be: 0 is gone, 1 is held, 2 lies from 0 to 20, 3 waits for its end, and so do all others.
func full(t *testing.T) *desk.Desk {
	t.Helper()
	l := []string{"come 16 20 0", "come 16 20 1", "come 16 20 0", "come 4 30 1"}
	for range api.MaxShips - len(l) {
		l = append(l, "come 1 1 3")
	}
	d := after(t, append(l, "hold 1", "leave 0")...)
	p := d.Port()
	if !slices.Equal(states(p)[:4], []int{api.Gone, api.Held, api.Lies, api.Waits}) || p.Ships[2].Since != 0 || d.Plan()[3] != 20 {
		t.Fatalf("%+v, %v", p, d.Plan())
	}
	return d
}

// P5.2: Come's errors, first to last.
func TestComeErrors(t *testing.T) {
	d := full(t)
	for _, s := range []string{
		"come 0 1 0", "come 17 1 0", "come -1 1 0", "come 1 0 0", "come 1 301 0", "come 1 1 -1", "come 1 1 4",
		"come -1073741824 1073741824 1073741824",
	} {
		tells(t, d, said{s, api.ErrRange, 0})
		tells(t, desk.New(), said{s, api.ErrRange, 0})
	}
	for _, s := range []string{"come 1 1 0", "come 16 300 3"} {
		tells(t, d, said{s, api.ErrFull, 0})
		tells(t, desk.New(), said{s, api.OK, 0})
	}
}

// P5.2: Leave, Hold, Free and Change, and their errors.
func TestMoveErrors(t *testing.T) {
	tells(t, full(t),
		said{"leave -1", api.ErrNone, 0}, said{"leave 14", api.ErrNone, 0}, said{"leave 1073741824", api.ErrNone, 0}, said{"leave 0", api.ErrMove, 0},
		said{"leave 1", api.OK, 0}, said{"leave 1", api.ErrMove, 0}, said{"leave 3", api.OK, 0}, said{"leave 2", api.OK, 0})
	tells(t, full(t),
		said{"hold -1", api.ErrNone, 0}, said{"hold 14", api.ErrNone, 0}, said{"hold 0", api.ErrMove, 0}, said{"hold 1", api.ErrMove, 0},
		said{"hold 2", api.ErrMove, 0}, said{"hold 3", api.OK, 0}, said{"hold 3", api.ErrMove, 0})
	tells(t, full(t),
		said{"free -1", api.ErrNone, 0}, said{"free 14", api.ErrNone, 0}, said{"free 0", api.ErrMove, 0}, said{"free 2", api.ErrMove, 0},
		said{"free 3", api.ErrMove, 0}, said{"free 1", api.OK, 0}, said{"free 1", api.ErrMove, 0})
	tells(t, full(t),
		said{"keep 1 25 30", api.OK, 0}, said{"wait 5", api.OK, 0},
		said{"change -1 0", api.ErrNone, 0}, said{"change 14 0", api.ErrNone, 0}, said{"change 0 0", api.ErrMove, 0}, said{"change 0 1", api.ErrMove, 0},
		said{"change 1 0", api.ErrRange, 0}, said{"change 1 301", api.ErrRange, 0}, said{"change 3 -1", api.ErrRange, 0},
		said{"change 2 0", api.ErrRange, 0}, said{"change 2 5", api.ErrRange, 0}, said{"change 2 301", api.ErrRange, 0},
		said{"change 2 26", api.ErrRoom, 0}, said{"change 2 25", api.OK, 0}, said{"change 1 300", api.OK, 0}, said{"change 3 1", api.OK, 0},
		said{"change 2 6", api.OK, 0}, said{"ask 3", api.OK, 6})
}

// P5.2: a ship that lies may not lie beyond End, though its Long alone would do.
func TestChangeBeyondEnd(t *testing.T) {
	d := after(t, "wait 100", "come 4 5 0")
	tells(t, d, said{"change 0 201", api.ErrRange, 0}, said{"change 0 200", api.OK, 0}, said{"wait 199", api.OK, 0}, said{"ask 0", api.OK, 100})
}

// P5.2: Keep and Drop, and their errors.
func TestKeepErrors(t *testing.T) {
	d := after(t, "come 10 20 0", "wait 5")
	refused := []string{
		"keep 0 9 12", "keep 17 9 12", "keep -1 9 12", "keep 1 4 12", "keep 1 -1 12", "keep 1 9 9", "keep 1 9 8", "keep 1 9 301", "keep 1 300 301", "keep 7 4 12", "keep 17 5 6",
	}
	for _, s := range refused {
		tells(t, d, said{s, api.ErrRange, 0})
	}
	tells(t, d,
		said{"keep 7 5 6", api.ErrRoom, 0}, said{"keep 7 19 21", api.ErrRoom, 0}, said{"drop 0", api.ErrNone, 0},
		said{"keep 6 5 6", api.OK, 0}, said{"keep 16 20 21", api.OK, 1}, said{"keep 1 299 300", api.OK, 2}, said{"keep 1 21 300", api.OK, 3},
		said{"keep 7 5 6", api.ErrFull, 0}, said{"keep 1 30 31", api.ErrFull, 0})
	for _, s := range refused {
		tells(t, d, said{s, api.ErrRange, 0})
	}
	tells(t, d,
		said{"drop -1", api.ErrNone, 0}, said{"drop 4", api.ErrNone, 0}, said{"drop 1", api.OK, 0}, said{"drop 1", api.ErrNone, 0},
		said{"keep 2 30 31", api.OK, 1}, said{"drop 3", api.OK, 0}, said{"drop 2", api.OK, 0}, said{"drop 1", api.OK, 0}, said{"drop 0", api.OK, 0}, said{"drop 0", api.ErrNone, 0})
}

// P5.2: what is kept and is over by now still has its place.
func TestKeptAndOver(t *testing.T) {
	d := after(t, "keep 16 1 3", "keep 16 3 5", "keep 16 5 7", "keep 16 7 9", "wait 20")
	tells(t, d, said{"keep 1 30 31", api.ErrFull, 0}, said{"drop 2", api.OK, 0}, said{"keep 1 30 31", api.OK, 2})
}

// P5.2: Shut, and its errors.
func TestShutErrors(t *testing.T) {
	d := after(t, "come 10 20 0", "keep 12 30 40")
	tells(t, d,
		said{"shut -1", api.ErrRange, 0}, said{"shut 17", api.ErrRange, 0}, said{"shut 5", api.ErrRoom, 0}, said{"shut 16", api.ErrRoom, 0},
		said{"shut 4", api.OK, 0}, said{"drop 0", api.OK, 0}, said{"shut 7", api.ErrRoom, 0}, said{"shut 6", api.OK, 0}, said{"shut 0", api.OK, 0},
		said{"leave 0", api.OK, 0}, said{"shut 16", api.OK, 0}, said{"come 1 1 0", api.OK, 1}, said{"ask 1", api.OK, -1})
}

// P5.3: none, one, many, up to the last time, and beyond it.
func TestWait(t *testing.T) {
	d := desk.New()
	for _, s := range []string{"wait 0", "wait -1", "wait -1073741824", "wait 300", "wait 301", "wait 1073741824"} {
		tells(t, d, said{s, api.ErrRange, 0})
	}
	tells(t, d, said{"wait 1", api.OK, 0})
	holds(t, d, 1, nil, nil)
	tells(t, d, said{"wait 49", api.OK, 0}, said{"wait 250", api.ErrRange, 0})
	holds(t, d, 50, nil, nil)
	tells(t, d, said{"wait 249", api.OK, 0}, said{"wait 1", api.ErrRange, 0}, said{"wait 0", api.ErrRange, 0}, said{"wait 250", api.ErrRange, 0})
	holds(t, d, 299, nil, nil)
	tells(t, desk.New(), said{"wait 299", api.OK, 0})
}

// P5.3: ships go and come in, at each time by itself.
func TestDueBehindWait(t *testing.T) {
	const waits, held, lies, gone = api.Waits, api.Held, api.Lies, api.Gone
	lines := []string{"come 16 3 0", "come 10 4 0", "come 10 2 0", "come 6 5 1", "come 6 9 2", "hold 4"}
	rows := []struct{ state, plan []int }{
		{[]int{lies, waits, waits, waits, held}, []int{-1, 3, 7, 3, -1}},
		{[]int{lies, waits, waits, waits, held}, []int{-1, 3, 7, 3, -1}},
		{[]int{lies, waits, waits, waits, held}, []int{-1, 3, 7, 3, -1}},
		{[]int{gone, lies, waits, lies, held}, []int{-1, -1, 7, -1, -1}},
		{[]int{gone, lies, waits, lies, held}, []int{-1, -1, 7, -1, -1}},
		{[]int{gone, lies, waits, lies, held}, []int{-1, -1, 7, -1, -1}},
		{[]int{gone, lies, waits, lies, held}, []int{-1, -1, 7, -1, -1}},
		{[]int{gone, gone, lies, lies, held}, []int{-1, -1, -1, -1, -1}},
		{[]int{gone, gone, lies, gone, held}, []int{-1, -1, -1, -1, -1}},
		{[]int{gone, gone, gone, gone, held}, []int{-1, -1, -1, -1, -1}},
	}
	slow := after(t, lines...)
	for now, row := range rows {
		holds(t, slow, now, row.state, row.plan)
		tells(t, slow, said{"wait 1", api.OK, 0})
		if now == 0 {
			continue
		}
		fast := after(t, lines...)
		tells(t, fast, said{"wait " + string(rune('0'+now)), api.OK, 0})
		holds(t, fast, now, row.state, row.plan)
	}
}

// P5.3: who came in within a wait lies since then, and not since its end; of who is gone Since is 0.
func TestSinceWithinWait(t *testing.T) {
	d := after(t, "come 16 3 0", "come 10 40 0", "come 10 2 0", "wait 20")
	tells(t, d, said{"ask 1", api.OK, 3}, said{"ask 2", api.OK, 43}, said{"ask 0", api.OK, -1})
	if s := d.Port().Ships[0]; s.State != api.Gone || s.Since != 0 {
		t.Errorf("%+v", s)
	}
}

// P5.3: at the last time ships still come in, for one time at most.
func TestLastTime(t *testing.T) {
	d := after(t, "come 16 299 0", "come 16 1 0", "come 1 2 0", "wait 298")
	tells(t, d, said{"ask 1", api.OK, 299}, said{"ask 2", api.OK, -1}, said{"wait 1", api.OK, 0}, said{"wait 1", api.ErrRange, 0})
	holds(t, d, 299, []int{api.Gone, api.Lies, api.Waits}, []int{-1, -1, -1})
}

// P5.4: what is begun and committed has been.
func TestCommit(t *testing.T) {
	d := after(t, "come 16 9 0", "come 4 5 0", "begin")
	tells(t, d,
		said{"begin", api.ErrNest, 0}, said{"leave 0", api.OK, 0}, said{"wait 3", api.OK, 0}, said{"shut 2", api.OK, 0}, said{"begin", api.ErrNest, 0})
	was := d.Port()
	tells(t, d, said{"commit", api.OK, 0}, said{"commit", api.ErrNest, 0}, said{"undo", api.ErrNest, 0})
	if !same(was, d.Port()) {
		t.Errorf("%+v has become %+v", was, d.Port())
	}
	holds(t, d, 3, []int{api.Gone, api.Lies}, []int{-1, -1})
}

// P5.4: what is begun and undone has not been: neither orders, nor time, nor what was refused.
func TestUndo(t *testing.T) {
	lines := []string{"come 16 9 0", "come 4 5 0", "come 14 6 1", "keep 3 40 50", "hold 2", "wait 2", "shut 0"}
	d, twin := after(t, lines...), after(t, lines...)
	tells(t, d,
		said{"begin", api.OK, 0}, said{"leave 0", api.OK, 0}, said{"wait 30", api.OK, 0}, said{"free 2", api.OK, 0}, said{"change 2 20", api.ErrRoom, 0},
		said{"change 2 7", api.OK, 0}, said{"shut 2", api.OK, 0}, said{"drop 0", api.OK, 0}, said{"keep 2 60 70", api.OK, 0}, said{"come 1 1 0", api.OK, 3},
		said{"begin", api.ErrNest, 0}, said{"guess 1 1 1", api.OK, 39}, said{"wait 300", api.ErrRange, 0}, said{"?", api.ErrForm, 0}, said{"undo", api.OK, 0},
		said{"undo", api.ErrNest, 0}, said{"commit", api.ErrNest, 0})
	agree(t, d, twin, "ask 0", "ask 1", "ask 2", "ask 3", "come 2 3 0", "free 2", "wait 12", "ask 2", "keep 1 60 70")
}

// P5.4: one behind the other, each from where the port stood then; undo at once is nothing.
func TestUndoAgain(t *testing.T) {
	d := after(t, "come 16 9 0", "begin")
	tells(t, d, said{"undo", api.OK, 0}, said{"begin", api.OK, 0}, said{"wait 4", api.OK, 0}, said{"commit", api.OK, 0})
	tells(t, d, said{"begin", api.OK, 0}, said{"wait 5", api.OK, 0}, said{"ask 0", api.OK, -1}, said{"undo", api.OK, 0}, said{"ask 0", api.OK, 0})
	holds(t, d, 4, []int{api.Lies}, []int{-1})
	tells(t, d, said{"begin", api.OK, 0}, said{"leave 0", api.OK, 0}, said{"come 1 1 0", api.OK, 1}, said{"undo", api.OK, 0}, said{"come 2 2 2", api.OK, 1}, said{"ask 1", api.OK, 9})
	if p := d.Port(); p.Next != 2 || p.Ships[1].Queued != 1 {
		t.Errorf("%+v", p)
	}
}

// P5.4: time that has run out comes back, but the lines that were told do not.
func TestUndoLines(t *testing.T) {
	d := desk.New()
	for range api.MaxActs / 5 {
		tells(t, d, said{"begin", api.OK, 0}, said{"come 1 1 0", api.OK, 0}, said{"wait 299", api.OK, 0}, said{"wait 1", api.ErrRange, 0}, said{"undo", api.OK, 0})
	}
	tells(t, d, said{"begin", api.ErrFull, 0})
	holds(t, d, 0, nil, nil)
}

// P5.5: at once, later, never, refused; tells holds that nothing is changed.
func TestGuess(t *testing.T) {
	d := after(t, "come 10 9 1", "come 10 9 1", "wait 4")
	plan := d.Plan()
	tells(t, d,
		said{"guess 6 5 3", api.OK, 4}, said{"guess 6 14 3", api.OK, 4}, said{"guess 7 1 2", api.OK, 18}, said{"guess 7 1 1", api.OK, 18}, said{"guess 7 1 0", api.OK, 9},
		said{"guess 16 282 2", api.OK, 18}, said{"guess 16 283 2", api.OK, -1}, said{"guess 16 291 0", api.OK, 9}, said{"guess 16 292 0", api.OK, -1}, said{"guess 1 300 0", api.OK, -1},
		said{"guess 0 1 0", api.ErrRange, 0}, said{"guess 17 1 0", api.ErrRange, 0}, said{"guess 1 0 0", api.ErrRange, 0}, said{"guess 1 301 0", api.ErrRange, 0},
		said{"guess 1 1 -1", api.ErrRange, 0}, said{"guess 1 1 4", api.ErrRange, 0}, said{"ask 2", api.ErrNone, 0})
	if !slices.Equal(plan, d.Plan()) {
		t.Errorf("%v has become %v", plan, d.Plan())
	}
	// What was guessed is what comes of it.
	tells(t, d, said{"guess 7 1 0", api.OK, 9}, said{"come 7 1 0", api.OK, 2}, said{"ask 2", api.OK, 9}, said{"ask 1", api.OK, 10})
}

// P5.5: there is no room for one more ship; a number out of its bounds is told first.
func TestGuessFull(t *testing.T) {
	tells(t, full(t), said{"guess 17 1 0", api.ErrRange, 0}, said{"guess 1 1 4", api.ErrRange, 0}, said{"guess 1 1 0", api.ErrFull, 0}, said{"leave 2", api.OK, 0}, said{"guess 1 1 0", api.ErrFull, 0})
}

// P5.5: of one that waits, for some time or for ever, lies, is held, is gone by an order or by time; and of none.
func TestAsk(t *testing.T) {
	tells(t, desk.New(), said{"ask 0", api.ErrNone, 0}, said{"ask -1", api.ErrNone, 0})
	d := after(t, "come 16 5 0", "wait 2", "come 10 20 1", "come 9 7 2", "come 16 290 2", "come 3 3 3", "hold 4", "come 1 1 3", "leave 5", "wait 6")
	tells(t, d,
		said{"ask 0", api.OK, -1}, said{"ask 1", api.OK, 5}, said{"ask 2", api.OK, 25}, said{"ask 3", api.OK, -1}, said{"ask 4", api.OK, -1}, said{"ask 5", api.OK, -1},
		said{"ask 6", api.ErrNone, 0}, said{"ask -1", api.ErrNone, 0}, said{"ask 1073741824", api.ErrNone, 0}, said{"ask -1073741824", api.ErrNone, 0},
		said{"leave 1", api.OK, 0}, said{"ask 1", api.OK, -1}, said{"ask 2", api.OK, 8})
	holds(t, d, 8, []int{api.Gone, api.Gone, api.Lies, api.Waits, api.Held, api.Gone}, []int{-1, -1, -1, -1, -1, -1})
}

// The examples of the whole in DOC.md.
func TestExamples(t *testing.T) {
	tells(t, desk.New(), said{"come 16 9 0", api.OK, 0}, said{"ask 0", api.OK, 0}, said{"come 1 9 0", api.OK, 1}, said{"ask 1", api.OK, 9})
	tells(t, desk.New(),
		said{"shut 12", api.OK, 0}, said{"come 4 5 0", api.OK, 0}, said{"come 4 5 1", api.OK, 1}, said{"ask 1", api.OK, 5}, said{"leave 0", api.OK, 0}, said{"ask 1", api.OK, 0})
	kept := after(t, "come 16 15 0", "come 4 10 0", "come 4 5 0")
	holds(t, kept, 0, []int{api.Lies, api.Waits, api.Waits}, []int{-1, 15, 15})
	tells(t, kept, said{"keep 16 20 30", api.OK, 0})
	holds(t, kept, 0, []int{api.Lies, api.Waits, api.Waits}, []int{-1, 30, 15})
	d := after(t, "come 4 5 0", "come 14 5 0")
	was := d.Port()
	tells(t, d, said{"begin", api.OK, 0}, said{"leave 0", api.OK, 0}, said{"wait 9", api.OK, 0}, said{"shut 3", api.OK, 0}, said{"undo", api.OK, 0})
	if !same(was, d.Port()) {
		t.Errorf("%+v has become %+v", was, d.Port())
	}
}

// P5.6: the replies of a new desk, as many as lines; a list that is handed in stays as it is.
func TestRun(t *testing.T) {
	lines := []string{"?", "come 16 9 0", "come 1 9 0", "ask 1", "begin", "leave 0", "ask 1", "undo", "ask 1", "undo", "guess 17 1 0", "wait 300", ""}
	was := slices.Clone(lines)
	want := []api.Reply{
		{Code: api.ErrForm}, {N: 0}, {N: 1}, {N: 9}, {}, {}, {N: 0}, {}, {N: 9}, {Code: api.ErrNest}, {Code: api.ErrRange}, {Code: api.ErrRange}, {Code: api.ErrForm},
	}
	for range 2 {
		l, e := desk.Run(lines)
		if e != api.OK || !slices.Equal(l, want) {
			t.Errorf("%v, %d; wanted %v", l, e, want)
		}
		l[0] = api.Reply{N: 77}
	}
	if !slices.Equal(lines, was) {
		t.Errorf("%q has become %q", was, lines)
	}
}

// P5.6: no lines, MaxActs of them, and one more.
func TestRunBounds(t *testing.T) {
	for _, l := range [][]string{nil, {}} {
		if r, e := desk.Run(l); e != api.OK || len(r) != 0 {
			t.Errorf("%v, %d", r, e)
		}
	}
	for _, s := range []string{"?", "ask 0", "shut 3"} {
		l := slices.Repeat([]string{s}, api.MaxActs)
		want := slices.Repeat([]api.Reply{desk.New().Tell(s)}, api.MaxActs)
		if r, e := desk.Run(l); e != api.OK || !slices.Equal(r, want) {
			t.Errorf("%q: %v, %d", s, r, e)
		}
		if r, e := desk.Run(append(l, s)); e != api.ErrFull || len(r) != 0 {
			t.Errorf("%q: %v, %d", s, r, e)
		}
	}
}
