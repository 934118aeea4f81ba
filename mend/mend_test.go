package mend_test

import (
	"math"
	"slices"
	"testing"

	"berthing/api"
	"berthing/mend"
	"berthing/port"
)

func waits(wide, long, class, queued int) api.Ship {
	return api.Ship{State: api.Waits, Wide: wide, Long: long, Class: class, Queued: queued}
}

func lies(wide, long, since, queued int) api.Ship {
	return api.Ship{State: api.Lies, Wide: wide, Long: long, Since: since, Queued: queued}
}

func order(kind int, l ...int) api.Order {
	a := [3]int{}
	copy(a[:], l)
	return api.Order{Kind: kind, A: a[0], B: a[1], C: a[2]}
}

// told is a port behind orders that must all be done.
func told(t *testing.T, p api.Port, l ...api.Order) api.Port {
	t.Helper()
	for _, o := range l {
		q, _, e := port.Tell(p, o)
		if e != api.OK {
			t.Fatalf("%+v: %d", o, e)
		}
		p = q
	}
	return p
}

// later is a port some times on, at which whoever was due has come in.
func later(t *testing.T, p api.Port, times int) api.Port {
	t.Helper()
	for range times {
		p, _ = port.Due(p, port.Plan(p))
		q, e := port.Later(p)
		if e != api.OK {
			t.Fatal(e)
		}
		p = q
	}
	p, _ = port.Due(p, port.Plan(p))
	return p
}

// mends holds the mended plan of a port against the one that is made from the beginning.
func mends(t *testing.T, was, now api.Port) int {
	t.Helper()
	plan := port.Plan(was)
	got, looked := mend.Plan(was, now, plan)
	if want := port.Plan(now); !slices.Equal(got, want) {
		t.Fatalf("%+v, %v, to %+v: %v; wanted %v", was, plan, now, got, want)
	}
	if n := len(port.Ranked(now)); looked < 0 || looked > n {
		t.Fatalf("%+v to %+v: %d of %d looked at", was, now, looked, n)
	}
	return looked
}

// quay has two ships that lie, and five that wait: the last but one for ever.
func quay() api.Port {
	p := api.Port{
		Now: 10,
		Ships: []api.Ship{
			lies(10, 20, 0, 0),
			lies(2, 30, 5, 1),
			waits(4, 10, 0, 2),
			waits(6, 15, 1, 3),
			waits(12, 20, 1, 4),
			waits(15, 290, 2, 5),
			waits(1, 5, 3, 6),
		},
		Next: 7,
	}
	p.Kept[1] = api.Kept{Wide: 8, From: 100, To: 120}
	return p
}

func TestQuay(t *testing.T) {
	if got := port.Plan(quay()); !slices.Equal(got, []int{-1, -1, 10, 20, 35, -1, 20}) {
		t.Fatal(got)
	}
}

func TestOneOrder(t *testing.T) {
	for _, c := range []struct {
		name   string
		order  api.Order
		plan   []int
		looked int
	}{
		{"come, last of all", order(api.Come, 3, 10, 3), []int{-1, -1, 10, 20, 35, -1, 20, 20}, 1},
		{"come, first of class 0 but one, behind all in time", order(api.Come, 16, 5, 0), []int{-1, -1, 10, 20, 40, -1, 20, 35}, 2},
		{"come, and is in nobody's way", order(api.Come, 16, 100, 0), []int{-1, -1, 10, 20, 35, -1, 20, 120}, 1},
		{"come, and is never to come in", order(api.Come, 16, 300, 0), []int{-1, -1, 10, 20, 35, -1, 20, -1}, 1},
		{"leave, of one that lies", order(api.Leave, 0), []int{-1, -1, 10, 10, 25, -1, 10}, 4},
		{"leave, of the first that waits", order(api.Leave, 2), []int{-1, -1, -1, 20, 35, -1, 10}, 4},
		{"leave, of the last", order(api.Leave, 6), []int{-1, -1, 10, 20, 35, -1, -1}, 0},
		{"leave, of who never comes in", order(api.Leave, 5), []int{-1, -1, 10, 20, 35, -1, 20}, 0},
		{"hold", order(api.Hold, 3), []int{-1, -1, 10, -1, 20, -1, 20}, 2},
		{"change, of one that waits", order(api.Change, 3, 10), []int{-1, -1, 10, 20, 30, -1, 20}, 3},
		{"change, of one that lies, to longer", order(api.Change, 0, 25), []int{-1, -1, 10, 25, 40, -1, 20}, 3},
		{"change, of one that lies, to shorter", order(api.Change, 0, 15), []int{-1, -1, 10, 15, 30, -1, 15}, 4},
		{"change, of who never comes in", order(api.Change, 5, 180), []int{-1, -1, 10, 20, 35, 120, 20}, 1},
		{"keep, where somebody was to come in", order(api.Keep, 16, 35, 50), []int{-1, -1, 10, 20, 50, -1, 20}, 1},
		{"keep, where nobody was", order(api.Keep, 8, 200, 210), []int{-1, -1, 10, 20, 35, -1, 20}, 0},
		{"keep, beside all", order(api.Keep, 1, 40, 60), []int{-1, -1, 10, 20, 35, -1, 20}, 0},
		{"drop", order(api.Drop, 1), []int{-1, -1, 10, 20, 35, -1, 20}, 1},
		{"shut", order(api.Shut, 2), []int{-1, -1, 20, 20, 35, -1, 10}, 5},
	} {
		t.Run(c.name, func(t *testing.T) {
			was := quay()
			now := told(t, was, c.order)
			got, looked := mend.Plan(was, now, port.Plan(was))
			if !slices.Equal(got, c.plan) || looked != c.looked {
				t.Errorf("%v, %d; wanted %v, %d", got, looked, c.plan, c.looked)
			}
			mends(t, was, now)
			mends(t, now, was)
		})
	}
}

func TestHeldAndFreed(t *testing.T) {
	p := quay()
	held := told(t, p, order(api.Hold, 3))
	got, _ := mend.Plan(held, told(t, held, order(api.Free, 3)), port.Plan(held))
	if !slices.Equal(got, port.Plan(p)) {
		t.Error(got)
	}
}

// Who is freed has its place in the queue ahead of others of its class, and need not touch them.
func TestFreedBesideOthers(t *testing.T) {
	was := api.Port{Ships: []api.Ship{waits(2, 5, 1, 0), waits(3, 5, 1, 1), waits(4, 5, 1, 2)}, Next: 3}
	was.Ships[0].State = api.Held
	got, looked := mend.Plan(was, told(t, was, order(api.Free, 0)), port.Plan(was))
	if !slices.Equal(got, []int{0, 0, 0}) || looked != 1 {
		t.Error(got, looked)
	}
}

func TestSeveralOrders(t *testing.T) {
	was := quay()
	now := told(t, was,
		order(api.Leave, 0),
		order(api.Come, 5, 20, 0),
		order(api.Hold, 4),
		order(api.Keep, 9, 12, 18),
		order(api.Drop, 1),
		order(api.Change, 5, 200),
		order(api.Shut, 1),
	)
	mends(t, was, now)
	mends(t, now, was)
}

// Whose time has come lies where it was to lie, and whoever has lain long enough leaves nothing that was not known: nobody is looked at.
func TestTimeAlone(t *testing.T) {
	was := quay()
	for n := range 60 {
		if looked := mends(t, was, later(t, was, n)); looked != 0 {
			t.Errorf("%d: %d", n, looked)
		}
	}
}

func TestTimeGoesBack(t *testing.T) {
	was := quay()
	for n := range 60 {
		mends(t, later(t, was, n), was)
	}
}

func TestTimeWithoutDue(t *testing.T) {
	was := quay()
	now, e := port.Later(was)
	if e != api.OK {
		t.Fatal(e)
	}
	// Ship 2 was to come in at 10, which is over: it comes in at 11, and the others do not mind.
	got, looked := mend.Plan(was, now, port.Plan(was))
	if !slices.Equal(got, []int{-1, -1, 11, 20, 35, -1, 20}) || looked != 1 {
		t.Error(got, looked)
	}
}

func TestAlike(t *testing.T) {
	full := port.New()
	for range api.MaxShips {
		full = told(t, full, order(api.Come, 9, 50, 1))
	}
	shut := told(t, full, order(api.Shut, api.Room))
	last := api.Port{Now: api.End - 1, Ships: []api.Ship{waits(1, 1, 0, 0), waits(16, 1, 0, 1)}, Next: 2}
	for name, p := range map[string]api.Port{"new": port.New(), "quay": quay(), "full": full, "shut": shut, "last time": last} {
		if looked := mends(t, p, p); looked != 0 {
			t.Errorf("%s: %d", name, looked)
		}
		q := p
		q.Ships = append(make([]api.Ship, 0, 20), p.Ships...)
		if looked := mends(t, p, q) + mends(t, q, p); looked != 0 {
			t.Errorf("%s, of another list: %d", name, looked)
		}
	}
}

// More room moves who was to come in behind the time at which it is, not who comes in at that time.
func TestMoreRoomAtTheEdge(t *testing.T) {
	was := api.Port{Ships: []api.Ship{waits(8, 5, 0, 0)}, Next: 1}
	was.Kept = [api.MaxKept]api.Kept{
		{Wide: 9, From: 0, To: 9},
		{Wide: 9, From: 9, To: 10},
		{Wide: 1, From: 10, To: 20},
	}
	for _, c := range []struct{ drop, at, looked int }{{0, 0, 1}, {1, 9, 1}, {2, 10, 0}} {
		got, looked := mend.Plan(was, told(t, was, order(api.Drop, c.drop)), port.Plan(was))
		if !slices.Equal(got, []int{c.at}) || looked != c.looked {
			t.Errorf("%d: %v, %d; wanted %d, %d", c.drop, got, looked, c.at, c.looked)
		}
	}
}

// The last time counts: who never came in does, if there is room then.
func TestMoreRoomAtTheLastTime(t *testing.T) {
	was := api.Port{Ships: []api.Ship{waits(16, 1, 0, 0)}, Next: 1}
	was.Kept[0] = api.Kept{Wide: 1, From: 0, To: api.End - 1}
	was.Kept[1] = api.Kept{Wide: 1, From: api.End - 1, To: api.End}
	got, looked := mend.Plan(was, told(t, was, order(api.Drop, 1)), []int{-1})
	if !slices.Equal(got, []int{api.End - 1}) || looked != 1 {
		t.Error(got, looked)
	}
}

func TestPlansThatAreNone(t *testing.T) {
	p := quay()
	now := told(t, p, order(api.Leave, 0))
	for _, plan := range [][]int{nil, {}, {-1}, append(port.Plan(p), 7)} {
		got, looked := mend.Plan(p, now, plan)
		if !slices.Equal(got, port.Plan(now)) || looked > 5 {
			t.Errorf("%v: %v, %d", plan, got, looked)
		}
	}
	if got, _ := mend.Plan(p, p, slices.Repeat([]int{99}, len(p.Ships)+1)); !slices.Equal(got, port.Plan(p)) {
		t.Error(got)
	}
	// Of other plans nothing is promised but an end.
	for _, n := range []int{math.MinInt, math.MinInt + 1, -2, -1, 0, 9, 299, 300, 1 << 40, math.MaxInt - 5, math.MaxInt} {
		plan := slices.Repeat([]int{n}, len(p.Ships))
		for _, q := range []api.Port{p, now, port.New()} {
			if got, looked := mend.Plan(p, q, plan); len(got) != len(q.Ships) || looked > len(port.Ranked(q)) {
				t.Errorf("%d: %v, %d", n, got, looked)
			}
		}
	}
}

func badPorts() []api.Port {
	var l []api.Port
	for _, f := range []func(p *api.Port){
		func(p *api.Port) { p.Now = -1 },
		func(p *api.Port) { p.Now = math.MinInt },
		func(p *api.Port) { p.Now = math.MaxInt },
		func(p *api.Port) { p.Now = api.End },
		func(p *api.Port) { p.Shut = -1 },
		func(p *api.Port) { p.Shut = api.Room },
		func(p *api.Port) { p.Next = 3 },
		func(p *api.Port) { p.Kept[0].From = 1 },
		func(p *api.Port) { p.Kept[0] = api.Kept{Wide: 1, From: math.MinInt, To: math.MaxInt} },
		func(p *api.Port) { p.Ships[0].State = 0 },
		func(p *api.Port) { p.Ships[2].Queued = 3 },
		func(p *api.Port) { p.Ships[2].Long = math.MaxInt },
		func(p *api.Port) { p.Ships[3].Wide = math.MinInt },
		func(p *api.Port) { p.Ships[1].Since = math.MaxInt },
		func(p *api.Port) { p.Ships = slices.Repeat(p.Ships, 3) },
	} {
		p := quay()
		f(&p)
		l = append(l, p)
	}
	return l
}

func TestBadPorts(t *testing.T) {
	good := quay()
	for i, bad := range badPorts() {
		if port.Good(bad) {
			t.Fatal(i)
		}
		plan := port.Plan(good)
		if got, looked := mend.Plan(bad, good, plan); !slices.Equal(got, plan) || looked > 5 {
			t.Errorf("%d: from it: %v, %d", i, got, looked)
		}
		for _, was := range []api.Port{good, bad} {
			got, looked := mend.Plan(was, bad, plan)
			if !slices.Equal(got, port.Plan(bad)) || looked != 0 {
				t.Errorf("%d: to it: %v, %d", i, got, looked)
			}
		}
	}
}

func TestListsAreLeftAlone(t *testing.T) {
	was := quay()
	now := told(t, was, order(api.Leave, 0))
	plan := port.Plan(was)
	// Spare room behind each list, with something in it that must stay.
	mark := waits(3, 3, 3, 3)
	was.Ships = append(was.Ships, mark)[:len(was.Ships)]
	now.Ships = append(now.Ships, mark)[:len(now.Ships)]
	plan = append(plan, 77)[:len(plan)]
	ships, others, times := slices.Clone(was.Ships), slices.Clone(now.Ships), slices.Clone(plan)

	for _, q := range []api.Port{was, now} {
		got, _ := mend.Plan(was, q, plan)
		for i := range got {
			got[i] = 99
		}
		_ = append(got, 98)
	}
	if !slices.Equal(was.Ships, ships) || !slices.Equal(now.Ships, others) || !slices.Equal(plan, times) {
		t.Error("a list was changed")
	}
	n := len(ships)
	if was.Ships[:n+1][n] != mark || now.Ships[:n+1][n] != mark || plan[:n+1][n] != 77 {
		t.Error("spare room was changed")
	}
}
