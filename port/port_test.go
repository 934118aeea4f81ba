package port_test

import (
	"math"
	"slices"
	"testing"

	"berthing/api"
	"berthing/port"
)

func ship(state, wide, long, class, since, queued int) api.Ship {
	return api.Ship{State: state, Wide: wide, Long: long, Class: class, Since: since, Queued: queued}
}

func kept(wide, from, to int) api.Kept {
	return api.Kept{Wide: wide, From: from, To: to}
}

func steps(pairs ...[2]int) []api.Step {
	var p []api.Step
	for _, c := range pairs {
		p = append(p, api.Step{At: c[0], Free: c[1]})
	}
	return p
}

// busy is a good port of all there may be: ships in each state, room that is kept, over, under way and to come, and a berth that is shut.
func busy() api.Port {
	return api.Port{
		Now: 50,
		Ships: []api.Ship{
			ship(api.Lies, 4, 30, 1, 40, 0),
			ship(api.Waits, 6, 10, 2, 0, 1),
			ship(api.Held, 2, 5, 0, 0, 2),
			ship(api.Gone, 16, 300, 3, 0, 3),
			ship(api.Waits, 5, 20, 0, 0, 5),
			ship(api.Lies, 3, 250, 1, 50, 7),
		},
		Kept: [api.MaxKept]api.Kept{kept(8, 60, 80), {}, kept(2, 45, 55), kept(16, 10, 20)},
		Shut: 1,
		Next: 9,
	}
}

// same is whether ports are alike; a list without elements may be nil or not.
func same(p, q api.Port) bool {
	return p.Now == q.Now && p.Kept == q.Kept && p.Shut == q.Shut && p.Next == q.Next && slices.Equal(p.Ships, q.Ships)
}

// but is a busy port with something else about it.
func but(f func(p *api.Port)) api.Port {
	p := busy()
	f(&p)
	return p
}

// filled is a port of so many ships that wait, alike but for their place in the queue.
func filled(n int) api.Port {
	var p api.Port
	for i := range n {
		p.Ships = append(p.Ships, ship(api.Waits, 1, 1, 0, 0, i))
	}
	p.Next = n
	return p
}

// P2.2
func TestNew(t *testing.T) {
	p := port.New()
	if !same(p, api.Port{}) || !port.Good(p) {
		t.Errorf("New: %v", p)
	}
}

// P2.1
func TestGoodShip(t *testing.T) {
	for _, c := range []struct {
		s   api.Ship
		now int
	}{
		{ship(api.Waits, 1, 1, 0, 0, 0), 0},
		{ship(api.Waits, 16, 300, 3, 0, math.MaxInt), 299},
		{ship(api.Held, 1, 1, 3, 0, 0), 7},
		{ship(api.Gone, 16, 300, 0, 0, 5), 7},
		{ship(api.Lies, 1, 1, 0, 7, 0), 7},
		{ship(api.Lies, 1, 1, 0, 0, 0), 0},
		{ship(api.Lies, 1, 8, 0, 0, 0), 7},
		{ship(api.Lies, 1, 300, 0, 0, 0), 299},
		{ship(api.Lies, 1, 293, 0, 7, 0), 7},
		{ship(api.Lies, 1, 1, 0, 299, 0), 299},
	} {
		if !port.GoodShip(c.s, c.now) {
			t.Errorf("refused: %v at %d", c.s, c.now)
		}
	}
	for _, c := range []struct {
		s   api.Ship
		now int
	}{
		{ship(0, 1, 1, 0, 0, 0), 0},
		{ship(5, 1, 1, 0, 0, 0), 0},
		{ship(-1, 1, 1, 0, 0, 0), 0},
		{ship(math.MinInt, 1, 1, 0, 0, 0), 0},
		{ship(math.MaxInt, 1, 1, 0, 0, 0), 0},
		{ship(api.Waits, 0, 1, 0, 0, 0), 0},
		{ship(api.Waits, -1, 1, 0, 0, 0), 0},
		{ship(api.Waits, 17, 1, 0, 0, 0), 0},
		{ship(api.Waits, 1, 0, 0, 0, 0), 0},
		{ship(api.Waits, 1, -1, 0, 0, 0), 0},
		{ship(api.Waits, 1, 301, 0, 0, 0), 0},
		{ship(api.Waits, 1, math.MaxInt, 0, 0, 0), 0},
		{ship(api.Waits, 1, 1, -1, 0, 0), 0},
		{ship(api.Waits, 1, 1, 4, 0, 0), 0},
		{ship(api.Waits, 1, 1, 0, 0, -1), 0},
		{ship(api.Waits, 1, 1, 0, 0, math.MinInt), 0},
		{ship(api.Waits, 1, 9, 0, 1, 0), 5},
		{ship(api.Held, 1, 9, 0, 1, 0), 5},
		{ship(api.Gone, 1, 9, 0, 1, 0), 5},
		{ship(api.Gone, 1, 9, 0, -1, 0), 5},
		{ship(api.Lies, 0, 1, 0, 0, 0), 0},
		{ship(api.Lies, 17, 1, 0, 0, 0), 0},
		{ship(api.Lies, 1, 0, 0, 0, 0), 0},
		{ship(api.Lies, 1, 301, 0, 0, 0), 0},
		{ship(api.Lies, 1, 1, 4, 0, 0), 0},
		{ship(api.Lies, 1, 1, 0, 0, -1), 0},
		{ship(api.Lies, 1, 10, 0, 8, 0), 7},
		{ship(api.Lies, 1, 10, 0, -1, 0), 7},
		{ship(api.Lies, 1, 7, 0, 0, 0), 7},
		{ship(api.Lies, 1, 6, 0, 0, 0), 7},
		{ship(api.Lies, 1, 294, 0, 7, 0), 7},
		{ship(api.Lies, 1, 300, 0, 1, 0), 7},
		{ship(api.Lies, 1, 1, 0, 300, 0), 300},
		{ship(api.Lies, 1, 1, 0, math.MaxInt, 0), math.MaxInt},
		{ship(api.Lies, 1, 300, 0, math.MaxInt, 0), math.MaxInt},
		{ship(api.Lies, 1, 300, 0, math.MinInt, 0), math.MinInt},
		{ship(api.Lies, 1, 300, 0, 0, 0), -1},
		{ship(api.Lies, 1, 300, 0, 0, 0), 300},
		{ship(api.Lies, 1, math.MinInt, 0, 0, 0), 0},
		{ship(api.Lies, 1, math.MaxInt, 0, 5, 0), 7},
	} {
		if port.GoodShip(c.s, c.now) {
			t.Errorf("taken: %v at %d", c.s, c.now)
		}
	}
}

// P2.2
func TestGood(t *testing.T) {
	for name, p := range map[string]api.Port{
		"busy":           busy(),
		"the last time":  {Now: 299},
		"all shut":       {Shut: 16},
		"full":           filled(api.MaxShips),
		"the last Next":  {Next: 1 << 20},
		"the last place": {Ships: []api.Ship{ship(api.Waits, 1, 1, 0, 0, 1<<20-1)}, Next: 1 << 20},
		"all kept":       {Kept: [api.MaxKept]api.Kept{kept(16, 0, 300)}},
		"kept, side by side": {Kept: [api.MaxKept]api.Kept{
			kept(16, 0, 1), kept(16, 1, 2), kept(15, 2, 300), kept(1, 299, 300)}},
	} {
		if !port.Good(p) {
			t.Errorf("refused: %s", name)
		}
	}
}

// badPorts are ports of which each breaks one rule.
func badPorts() map[string]api.Port {
	bad := map[string]api.Port{
		"Now below 0":   {Now: -1},
		"Now is End":    {Now: 300},
		"Now, greatest": {Now: math.MaxInt},
		"Now, least":    {Now: math.MinInt},
		"Shut below 0":  {Shut: -1},
		"Shut above":    {Shut: 17},
		"Next below 0":  {Next: -1},
		"Next above":    {Next: 1<<20 + 1},
		"a ship more":   filled(api.MaxShips + 1),
		"no room: shut": {Ships: []api.Ship{ship(api.Lies, 9, 5, 0, 0, 0)}, Shut: 8, Next: 1},
		"no room: kept": {Kept: [api.MaxKept]api.Kept{kept(9, 5, 8), kept(8, 7, 9)}},
		"no room: both": {Kept: [api.MaxKept]api.Kept{3: kept(9, 299, 300)}, Shut: 8},
	}
	for name, f := range map[string]func(p *api.Port){
		"a bad ship":         func(p *api.Port) { p.Ships[2].Wide = 0 },
		"a bad ship, last":   func(p *api.Port) { p.Ships[5].Class = 4 },
		"lies no longer":     func(p *api.Port) { p.Now = 70 },
		"queued at Next":     func(p *api.Port) { p.Next = 7 },
		"queued above Next":  func(p *api.Port) { p.Ships[0].Queued = 10 },
		"queued twice":       func(p *api.Port) { p.Ships[4].Queued = 0 },
		"queued twice, Gone": func(p *api.Port) { p.Ships[3].Queued = 7 },
		"kept, too wide":     func(p *api.Port) { p.Kept[3].Wide = 17 },
		"kept, below 0 wide": func(p *api.Port) { p.Kept[3].Wide = -1 },
		"kept, 0 wide":       func(p *api.Port) { p.Kept[3].Wide = 0 },
		"kept, 0 wide, From": func(p *api.Port) { p.Kept[1].From = 1 },
		"kept, 0 wide, To":   func(p *api.Port) { p.Kept[1].To = 1 },
		"kept, From below 0": func(p *api.Port) { p.Kept[3].From = -1 },
		"kept, From is To":   func(p *api.Port) { p.Kept[3].From = 20 },
		"kept, From above":   func(p *api.Port) { p.Kept[3].From = 21 },
		"kept, To above End": func(p *api.Port) { p.Kept[2].To = 301 },
		"kept, To, greatest": func(p *api.Port) { p.Kept[2].To = math.MaxInt },
		"one too wide":       func(p *api.Port) { p.Kept[0].Wide = 9 },
		"one too long":       func(p *api.Port) { p.Kept[2].To = 61 },
		"one berth too many": func(p *api.Port) { p.Shut = 2 },
	} {
		bad[name] = but(f)
	}
	return bad
}

// P2.2
func TestGoodRefuses(t *testing.T) {
	for name, p := range badPorts() {
		if port.Good(p) {
			t.Errorf("taken: %s", name)
		}
	}
}

// P2.3
func TestBase(t *testing.T) {
	lies := func(now int, s ...api.Ship) api.Port { return api.Port{Now: now, Ships: s, Next: 20} }
	for _, c := range []struct {
		name string
		p    api.Port
		want []api.Step
	}{
		{"new", port.New(), steps([2]int{0, 16})},
		{"shut, at all times", api.Port{Now: 9, Shut: 5}, steps([2]int{0, 11})},
		{"all shut", api.Port{Shut: 16}, steps([2]int{0, 0})},
		{"a ship, from Now on", lies(7, ship(api.Lies, 4, 10, 0, 2, 0)), steps([2]int{0, 16}, [2]int{7, 12}, [2]int{12, 16})},
		{"a ship up to End", lies(7, ship(api.Lies, 16, 298, 0, 2, 0)), steps([2]int{0, 16}, [2]int{7, 0})},
		{"the last time", lies(299, ship(api.Lies, 16, 300, 0, 0, 0)), steps([2]int{0, 16}, [2]int{299, 0})},
		{"no other ships", lies(7, ship(api.Waits, 4, 10, 0, 0, 0), ship(api.Held, 4, 10, 0, 0, 1), ship(api.Gone, 4, 10, 0, 0, 2)), steps([2]int{0, 16})},
		{"ships, one by one", lies(3, ship(api.Lies, 4, 6, 0, 0, 0), ship(api.Lies, 5, 6, 0, 3, 1)),
			steps([2]int{0, 16}, [2]int{3, 7}, [2]int{6, 11}, [2]int{9, 16})},
		{"kept", api.Port{Kept: [api.MaxKept]api.Kept{{}, kept(4, 5, 9), {}, kept(12, 8, 300)}},
			steps([2]int{0, 16}, [2]int{5, 12}, [2]int{8, 0}, [2]int{9, 4})},
		{"kept and under way: from Now on", api.Port{Now: 7, Kept: [api.MaxKept]api.Kept{kept(4, 5, 9)}}, steps([2]int{0, 16}, [2]int{7, 12}, [2]int{9, 16})},
		{"kept and over: nothing", api.Port{Now: 9, Kept: [api.MaxKept]api.Kept{kept(16, 5, 9), kept(16, 0, 9)}, Shut: 3}, steps([2]int{0, 13})},
		{"busy", busy(), steps([2]int{0, 15}, [2]int{50, 6}, [2]int{55, 8}, [2]int{60, 0}, [2]int{70, 4}, [2]int{80, 12})},
	} {
		b, ok := port.Base(c.p)
		if !ok || !slices.Equal(b, c.want) {
			t.Errorf("%s: %v %v, not %v", c.name, b, ok, c.want)
		}
	}
}

// P2.3
func TestBaseRefuses(t *testing.T) {
	for name, p := range badPorts() {
		if b, ok := port.Base(p); ok || len(b) != 0 {
			t.Errorf("%s: %v %v", name, b, ok)
		}
	}
}

// P2.4
func TestRanked(t *testing.T) {
	row := api.Port{Ships: []api.Ship{
		ship(api.Waits, 1, 1, 3, 0, 0),
		ship(api.Waits, 1, 1, 1, 0, 9),
		ship(api.Held, 1, 1, 0, 0, 1),
		ship(api.Waits, 1, 1, 1, 0, 2),
		ship(api.Lies, 1, 1, 0, 0, 3),
		ship(api.Waits, 1, 1, 0, 0, 8),
		ship(api.Gone, 1, 1, 0, 0, 4),
		ship(api.Waits, 1, 1, 1, 0, 5),
		ship(api.Waits, 1, 1, 0, 0, 7),
	}, Next: 10}
	for _, c := range []struct {
		name string
		p    api.Port
		want []int
	}{
		{"new", port.New(), nil},
		{"busy", busy(), []int{4, 1}},
		{"by class, then by place", row, []int{8, 5, 3, 7, 1, 0}},
		{"nobody waits", api.Port{Ships: row.Ships[4:5], Next: 4}, nil},
	} {
		if l := port.Ranked(c.p); !slices.Equal(l, c.want) {
			t.Errorf("%s: %v, not %v", c.name, l, c.want)
		}
	}
}

// P2.5
func TestPlan(t *testing.T) {
	waits := func(now int, l ...[3]int) api.Port {
		p := api.Port{Now: now, Next: len(l)}
		for i, c := range l {
			p.Ships = append(p.Ships, ship(api.Waits, c[0], c[1], c[2], 0, i))
		}
		return p
	}
	for _, c := range []struct {
		name string
		p    api.Port
		want []int
	}{
		{"new", port.New(), nil},
		{"busy: a lesser one slips in ahead", busy(), []int{-1, 50, -1, -1, 80, -1}},
		{"from Now", waits(7, [3]int{16, 9, 0}), []int{7}},
		{"one behind the other", waits(0, [3]int{9, 5, 0}, [3]int{9, 5, 0}, [3]int{9, 5, 0}), []int{0, 5, 10}},
		{"side by side", waits(0, [3]int{8, 5, 0}, [3]int{8, 5, 0}, [3]int{8, 5, 0}), []int{0, 0, 5}},
		{"the least class first", waits(0, [3]int{9, 5, 3}, [3]int{9, 6, 0}, [3]int{9, 7, 2}), []int{13, 0, 6}},
		{"all of time", waits(0, [3]int{1, 300, 0}), []int{0}},
		{"too late for so long", waits(1, [3]int{1, 300, 0}), []int{-1}},
		{"up to End", waits(1, [3]int{1, 299, 0}), []int{1}},
		{"who never comes in takes nothing", waits(0, [3]int{16, 299, 0}, [3]int{16, 2, 1}, [3]int{16, 1, 2}), []int{0, -1, 299}},
	} {
		if l := port.Plan(c.p); !slices.Equal(l, c.want) {
			t.Errorf("%s: %v, not %v", c.name, l, c.want)
		}
	}
}

// P2.4, P2.5: nothing is said of bad ports, but that a call ends.
func TestBadPortsEnd(t *testing.T) {
	for _, p := range badPorts() {
		port.Ranked(p)
		port.Plan(p)
	}
}

// P2.9
func TestDue(t *testing.T) {
	q, who := port.Due(busy(), []int{50, 50, 50, 50, 50, 50})
	want := busy()
	want.Ships[1].State, want.Ships[1].Since = api.Lies, 50
	want.Ships[4].State, want.Ships[4].Since = api.Lies, 50
	if !same(q, want) || !slices.Equal(who, []int{1, 4}) {
		t.Errorf("all at Now: %v %v", q, who)
	}
	q, who = port.Due(busy(), port.Plan(busy()))
	want.Ships[4] = busy().Ships[4]
	if !same(q, want) || !slices.Equal(who, []int{1}) || !port.Good(q) {
		t.Errorf("by its own plan: %v %v", q, who)
	}
}

// P2.9: plans that are too short, too long, or of another time.
func TestDueOfAnyPlan(t *testing.T) {
	for _, c := range []struct {
		plan, want []int
	}{
		{nil, nil},
		{[]int{}, nil},
		{[]int{50}, nil},
		{[]int{-1, 50}, []int{1}},
		{[]int{-1, 49, -1, -1, 51, -1}, nil},
		{[]int{-1, math.MinInt, -1, -1, math.MaxInt, -1}, nil},
		{[]int{-1, 51, -1, -1, 50}, []int{4}},
		{[]int{0, 50, 0, 0, 50, 0, 50, 50, 50}, []int{1, 4}},
	} {
		q, who := port.Due(busy(), c.plan)
		want := busy()
		for _, i := range c.want {
			want.Ships[i].State, want.Ships[i].Since = api.Lies, 50
		}
		if !slices.Equal(who, c.want) || !same(q, want) {
			t.Errorf("%v: %v %v", c.plan, q, who)
		}
	}
}

// P2.9 is said of bad ports, too.
func TestDueOfAnyPort(t *testing.T) {
	bad := badPorts()
	bad["who waits behind End"] = but(func(p *api.Port) { p.Now = 300 })
	for name, p := range bad {
		plan := slices.Repeat([]int{p.Now}, len(p.Ships))
		want := p
		want.Ships = slices.Clone(p.Ships)
		var all []int
		for i, s := range p.Ships {
			if s.State == api.Waits {
				want.Ships[i].State, want.Ships[i].Since = api.Lies, p.Now
				all = append(all, i)
			}
		}
		if q, who := port.Due(p, plan); !slices.Equal(who, all) || !same(q, want) {
			t.Errorf("%s: %v %v", name, q, who)
		}
		if q, who := port.Due(p, nil); len(who) != 0 || !same(q, p) {
			t.Errorf("%s, without a plan: %v %v", name, q, who)
		}
	}
}

// P2.10
func TestLater(t *testing.T) {
	row := func(now int) api.Port {
		return api.Port{Now: now, Ships: []api.Ship{
			ship(api.Lies, 1, 10, 0, 0, 0),
			ship(api.Lies, 2, 5, 1, 5, 1),
			ship(api.Lies, 3, 11, 2, 0, 2),
			ship(api.Lies, 4, 10, 3, 5, 3),
			ship(api.Waits, 5, 10, 0, 0, 4),
			ship(api.Held, 6, 10, 0, 0, 5),
			ship(api.Gone, 7, 10, 0, 0, 6),
		}, Kept: [api.MaxKept]api.Kept{kept(1, 3, 10), kept(1, 10, 11)}, Shut: 2, Next: 7}
	}
	q, e := port.Later(row(8))
	if e != api.OK || !same(q, row(9)) || !port.Good(q) {
		t.Errorf("nobody leaves: %v %d", q, e)
	}
	q, e = port.Later(row(9))
	want := row(10)
	want.Ships[0].State, want.Ships[0].Since = api.Gone, 0
	want.Ships[1].State, want.Ships[1].Since = api.Gone, 0
	if e != api.OK || !same(q, want) || !port.Good(q) {
		t.Errorf("two leave: %v %d", q, e)
	}
	q, e = port.Later(api.Port{Now: 298})
	if e != api.OK || !same(q, api.Port{Now: 299}) {
		t.Errorf("to the last time: %v %d", q, e)
	}
}

// P2.10
func TestLaterRefuses(t *testing.T) {
	last := api.Port{Now: 299, Ships: []api.Ship{ship(api.Lies, 1, 300, 0, 0, 0)}, Next: 1}
	if q, e := port.Later(last); e != api.ErrRange || !same(q, last) {
		t.Errorf("at the last time: %v %d", q, e)
	}
	bad := badPorts()
	bad["the last time, not good"] = api.Port{Now: 299, Shut: 17}
	for name, p := range bad {
		if q, e := port.Later(p); e != api.ErrForm || !same(q, p) {
			t.Errorf("%s: %v %d", name, q, e)
		}
	}
}
