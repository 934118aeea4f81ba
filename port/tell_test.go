package port_test

import (
	"math"
	"slices"
	"testing"

	"berthing/api"
	"berthing/port"
)

func order(kind int, l ...int) api.Order {
	l = append(l, 0, 0, 0)
	return api.Order{Kind: kind, A: l[0], B: l[1], C: l[2]}
}

// does holds what Tell makes of a port against what is wanted of it.
func does(t *testing.T, p api.Port, o api.Order, n int, f func(p *api.Port)) {
	t.Helper()
	want := p
	want.Ships = slices.Clone(p.Ships)
	f(&want)
	q, m, e := port.Tell(p, o)
	if e != api.OK || m != n || !same(q, want) {
		t.Errorf("%v: %v %d %d, not %v %d", o, q, m, e, want, n)
	}
	if !port.Good(q) {
		t.Errorf("%v: it is not good any more", o)
	}
}

// refuses holds that Tell answers an error, and the port as it was.
func refuses(t *testing.T, p api.Port, e api.Errno, l ...api.Order) {
	t.Helper()
	for _, o := range l {
		if q, n, f := port.Tell(p, o); f != e || n != 0 || !same(q, p) {
			t.Errorf("%v: %v %d %d, not %d", o, q, n, f, e)
		}
	}
}

// orders are one of each of the first eight kinds, that a busy port takes.
func orders() []api.Order {
	return []api.Order{
		order(api.Come, 1, 1, 0), order(api.Leave, 0), order(api.Hold, 1), order(api.Free, 2),
		order(api.Change, 4, 3), order(api.Keep, 1, 90, 91), order(api.Drop, 0), order(api.Shut, 0),
	}
}

// P2.6: a port that is not good comes ahead of all else.
func TestTellRefusesBadPorts(t *testing.T) {
	for _, p := range badPorts() {
		refuses(t, p, api.ErrForm, orders()...)
		refuses(t, p, api.ErrForm, order(api.Come, 0, 0, 9), order(api.Leave, -1), order(api.Drop, 9), order(api.Shut, -1), order(api.Wait, 1), order(0))
	}
}

// P2.6
func TestTellRefusesOtherKinds(t *testing.T) {
	for _, kind := range []int{
		0, -1, api.Wait, api.Begin, api.Commit, api.Undo, api.Guess, api.Ask, 15, math.MinInt, math.MaxInt,
	} {
		refuses(t, busy(), api.ErrForm, order(kind), order(kind, 1, 1, 1))
	}
}

// P2.6
func TestCome(t *testing.T) {
	does(t, port.New(), order(api.Come, 16, 300, 3), 0, func(p *api.Port) {
		p.Ships = append(p.Ships, ship(api.Waits, 16, 300, 3, 0, 0))
		p.Next = 1
	})
	does(t, busy(), order(api.Come, 1, 1, 0), 6, func(p *api.Port) {
		p.Ships = append(p.Ships, ship(api.Waits, 1, 1, 0, 0, 9))
		p.Next = 10
	})
	does(t, filled(api.MaxShips-1), order(api.Come, 2, 3, 1), 13, func(p *api.Port) {
		p.Ships = append(p.Ships, ship(api.Waits, 2, 3, 1, 0, 13))
		p.Next = 14
	})
	does(t, api.Port{Next: 1<<20 - 1, Shut: 16}, order(api.Come, 2, 3, 1), 0, func(p *api.Port) {
		p.Ships = append(p.Ships, ship(api.Waits, 2, 3, 1, 0, 1<<20-1))
		p.Next = 1 << 20
	})
}

// P2.6
func TestComeRefuses(t *testing.T) {
	wrong := []api.Order{
		order(api.Come, 0, 1, 0), order(api.Come, -1, 1, 0), order(api.Come, 17, 1, 0),
		order(api.Come, 1, 0, 0), order(api.Come, 1, -1, 0), order(api.Come, 1, 301, 0),
		order(api.Come, 1, 1, -1), order(api.Come, 1, 1, 4),
		order(api.Come, math.MinInt, 1, 0), order(api.Come, 1, math.MaxInt, 0), order(api.Come, 1, 1, math.MaxInt),
	}
	refuses(t, busy(), api.ErrRange, wrong...)
	refuses(t, filled(api.MaxShips), api.ErrRange, wrong...)
	refuses(t, api.Port{Next: 1 << 20}, api.ErrRange, wrong...)
	refuses(t, filled(api.MaxShips), api.ErrFull, order(api.Come, 1, 1, 0))
	refuses(t, api.Port{Next: 1 << 20}, api.ErrFull, order(api.Come, 1, 1, 0))
	gone := filled(api.MaxShips)
	gone.Ships[0].State = api.Gone
	refuses(t, gone, api.ErrFull, order(api.Come, 1, 1, 0))
}

// P2.7
func TestLeave(t *testing.T) {
	for _, i := range []int{0, 1, 2, 4, 5} {
		does(t, busy(), order(api.Leave, i), 0, func(p *api.Port) {
			p.Ships[i].State, p.Ships[i].Since = api.Gone, 0
		})
	}
}

// P2.7
func TestHoldAndFree(t *testing.T) {
	does(t, busy(), order(api.Hold, 4), 0, func(p *api.Port) { p.Ships[4].State = api.Held })
	does(t, busy(), order(api.Free, 2), 0, func(p *api.Port) { p.Ships[2].State = api.Waits })
	refuses(t, busy(), api.ErrMove,
		order(api.Hold, 0), order(api.Hold, 2), order(api.Hold, 5),
		order(api.Free, 0), order(api.Free, 1), order(api.Free, 4), order(api.Free, 5))
}

// P2.7
func TestChange(t *testing.T) {
	for _, c := range []struct{ i, long int }{
		{1, 1}, {1, 300}, {2, 1}, {2, 300}, {4, 1}, {4, 300}, // who does not lie
		{0, 11}, {0, 30}, {0, 29}, {5, 1}, {5, 250}, {5, 249}, // who lies
	} {
		does(t, busy(), order(api.Change, c.i, c.long), 0, func(p *api.Port) { p.Ships[c.i].Long = c.long })
	}
	wide := but(func(p *api.Port) { p.Kept[0] = api.Kept{} })
	does(t, wide, order(api.Change, 0, 260), 0, func(p *api.Port) { p.Ships[0].Long = 260 })
}

// P2.7
func TestChangeRefuses(t *testing.T) {
	for _, i := range []int{0, 1, 2, 4, 5} {
		refuses(t, busy(), api.ErrRange,
			order(api.Change, i, 0), order(api.Change, i, -1), order(api.Change, i, 301),
			order(api.Change, i, math.MinInt), order(api.Change, i, math.MaxInt))
	}
	refuses(t, busy(), api.ErrRange,
		order(api.Change, 0, 9), order(api.Change, 0, 10), // over by now
		order(api.Change, 0, 261), order(api.Change, 0, 300), order(api.Change, 5, 251)) // above End
}

// P2.7: no such ship comes ahead of all else, Gone ahead of the numbers.
func TestShipOrdersRefuse(t *testing.T) {
	for _, kind := range []int{api.Leave, api.Hold, api.Free, api.Change} {
		for _, b := range []int{-1, 0, 5, 301} {
			refuses(t, busy(), api.ErrNone,
				order(kind, -1, b), order(kind, 6, b), order(kind, math.MinInt, b), order(kind, math.MaxInt, b))
			refuses(t, port.New(), api.ErrNone, order(kind, 0, b))
			refuses(t, busy(), api.ErrMove, order(kind, 3, b))
		}
	}
}

// P2.8
func TestKeep(t *testing.T) {
	does(t, busy(), order(api.Keep, 12, 80, 300), 1, func(p *api.Port) { p.Kept[1] = kept(12, 80, 300) })
	does(t, busy(), order(api.Keep, 6, 50, 51), 1, func(p *api.Port) { p.Kept[1] = kept(6, 50, 51) })
	p := port.New()
	for i := range api.MaxKept {
		does(t, p, order(api.Keep, 4, 0, 300), i, func(p *api.Port) { p.Kept[i] = kept(4, 0, 300) })
		p, _, _ = port.Tell(p, order(api.Keep, 4, 0, 300))
	}
}

// P2.8
func TestKeepRefuses(t *testing.T) {
	wrong := []api.Order{
		order(api.Keep, 0, 90, 91), order(api.Keep, -1, 90, 91), order(api.Keep, 17, 90, 91),
		order(api.Keep, 1, 49, 91), order(api.Keep, 1, -1, 91), order(api.Keep, 1, 49, 50),
		order(api.Keep, 1, 90, 90), order(api.Keep, 1, 91, 90),
		order(api.Keep, 1, 90, 301), order(api.Keep, 1, 300, 301), order(api.Keep, 1, 300, 300),
		order(api.Keep, 1, math.MinInt, math.MaxInt), order(api.Keep, math.MaxInt, 90, 91),
		order(api.Keep, 0, 0, 0),
	}
	full := but(func(p *api.Port) { p.Kept[1] = kept(1, 55, 56) })
	refuses(t, busy(), api.ErrRange, wrong...)
	refuses(t, full, api.ErrRange, wrong...)
	// Full comes ahead of the room.
	refuses(t, full, api.ErrFull, order(api.Keep, 1, 90, 91), order(api.Keep, 16, 50, 300))
	// No room: beside ships, beside what is kept, and for one time only.
	refuses(t, busy(), api.ErrRoom,
		order(api.Keep, 7, 50, 51), order(api.Keep, 9, 55, 56), order(api.Keep, 1, 69, 70),
		order(api.Keep, 1, 50, 300), order(api.Keep, 5, 79, 90), order(api.Keep, 13, 299, 300))
}

// P2.8
func TestDrop(t *testing.T) {
	for _, i := range []int{0, 2, 3} {
		does(t, busy(), order(api.Drop, i), 0, func(p *api.Port) { p.Kept[i] = api.Kept{} })
	}
	refuses(t, busy(), api.ErrNone,
		order(api.Drop, 1), order(api.Drop, -1), order(api.Drop, 4), order(api.Drop, math.MinInt), order(api.Drop, math.MaxInt))
}

// P2.8
func TestShut(t *testing.T) {
	for _, n := range []int{0, 1} {
		does(t, busy(), order(api.Shut, n), 0, func(p *api.Port) { p.Shut = n })
	}
	does(t, filled(3), order(api.Shut, 16), 0, func(p *api.Port) { p.Shut = 16 })
	refuses(t, busy(), api.ErrRange, order(api.Shut, -1), order(api.Shut, 17), order(api.Shut, math.MinInt), order(api.Shut, math.MaxInt))
	refuses(t, busy(), api.ErrRoom, order(api.Shut, 2), order(api.Shut, 16))
}

// P2.8: what is over by now needs no room.
func TestShutWhereSomethingWasKept(t *testing.T) {
	past := api.Port{Now: 20, Kept: [api.MaxKept]api.Kept{kept(16, 10, 20)}}
	does(t, past, order(api.Shut, 16), 0, func(p *api.Port) { p.Shut = 16 })
	past.Now = 19
	refuses(t, past, api.ErrRoom, order(api.Shut, 1))
}

// P2.8: the room is asked for behind Change, too, and behind its other errors.
func TestChangeRefusesRoom(t *testing.T) {
	tight := but(func(p *api.Port) { p.Kept[1] = kept(4, 70, 71) })
	refuses(t, tight, api.ErrRoom, order(api.Change, 0, 31), order(api.Change, 0, 260))
	refuses(t, tight, api.ErrRange, order(api.Change, 0, 261))
	does(t, tight, order(api.Change, 0, 30), 0, func(p *api.Port) {})
	// Who waits needs no room yet.
	does(t, api.Port{Ships: tight.Ships[1:2], Shut: 16, Next: 2}, order(api.Change, 0, 300), 0, func(p *api.Port) { p.Ships[0].Long = 300 })
}

// Numbers that an order does not read are not asked for.
func TestTellReadsNoOtherNumbers(t *testing.T) {
	for _, o := range []api.Order{
		order(api.Leave, 0, -7, 999), order(api.Hold, 1, -7, 999), order(api.Free, 2, -7, 999),
		order(api.Change, 4, 3, 999), order(api.Drop, 0, -7, 999), order(api.Shut, 0, -7, 999),
	} {
		plain := o
		plain.C = 0
		if o.Kind != api.Change {
			plain.B = 0
		}
		p, n, e := port.Tell(busy(), o)
		q, m, f := port.Tell(busy(), plain)
		if !same(p, q) || n != m || e != f || e != api.OK {
			t.Errorf("%v: %v %d %d", o, p, n, e)
		}
	}
}

// A port that is handed in is not changed, its spare room neither, whether an order is taken or not; and what is answered may be written on.
func TestPortsAreLeftAlone(t *testing.T) {
	spare := ship(77, 77, 77, 77, 77, 77)
	whole := append(busy().Ships, spare, spare, spare)
	was := slices.Clone(whole)
	p := busy()
	p.Ships = whole[:6]
	check := func(q api.Port, what string) {
		t.Helper()
		for i := range q.Ships {
			q.Ships[i] = api.Ship{}
		}
		_ = append(q.Ships, api.Ship{})
		if !slices.Equal(whole, was) || !same(p, busy()) {
			t.Fatalf("%s: %v", what, whole)
		}
	}
	for _, o := range append(orders(), order(api.Come, 0, 0, 0), order(api.Leave, 3), order(api.Shut, 9), order(api.Wait, 1)) {
		q, _, _ := port.Tell(p, o)
		check(q, "Tell")
	}
	plan := port.Plan(p)
	kept := slices.Clone(plan)
	q, who := port.Due(p, plan)
	check(q, "Due")
	for i := range who {
		who[i] = -7
	}
	if !slices.Equal(plan, kept) {
		t.Fatalf("Due: %v", plan)
	}
	q, _ = port.Later(p)
	check(q, "Later")
	port.Good(p)
	port.Base(p)
	port.Ranked(p)
	check(api.Port{}, "a question")
}
