package port_test

import (
	"slices"
	"testing"

	"berthing/api"
	"berthing/port"
)

// table is how many berths are free, time by time: the plainest form there is, that the package is held against.
type table [api.End]int

func tableOf(p api.Port) table {
	var m table
	for t := range m {
		m[t] = api.Room - p.Shut
		if t < p.Now {
			continue
		}
		for _, s := range p.Ships {
			if s.State == api.Lies && t < s.Since+s.Long {
				m[t] -= s.Wide
			}
		}
		for _, k := range p.Kept {
			if k.From <= t && t < k.To {
				m[t] -= k.Wide
			}
		}
	}
	return m
}

func (m table) profile() []api.Step {
	var p []api.Step
	for t, n := range m {
		if t == 0 || n != m[t-1] {
			p = append(p, api.Step{At: t, Free: n})
		}
	}
	return p
}

func (m table) fit(from, long, n int) int {
	for t := from; t+long <= api.End; t++ {
		if slices.Min(m[t:t+long]) >= n {
			return t
		}
	}
	return -1
}

// planOf goes through classes and places in the queue one by one, whoever may stand there.
func planOf(p api.Port) []int {
	m := tableOf(p)
	plan := make([]int, len(p.Ships))
	for i := range plan {
		plan[i] = -1
	}
	for class := range api.MaxClass + 1 {
		for queued := range p.Next {
			for i, s := range p.Ships {
				if s.State != api.Waits || s.Class != class || s.Queued != queued {
					continue
				}
				plan[i] = m.fit(p.Now, s.Long, s.Wide)
				if plan[i] < 0 {
					continue
				}
				for t := plan[i]; t < plan[i]+s.Long; t++ {
					m[t] -= s.Wide
				}
			}
		}
	}
	return plan
}

// numbers is a row of numbers that is the same at every run.
type numbers struct{ state uint64 }

func (r *numbers) below(n int) int {
	r.state = r.state*6364136223846793005 + 1442695040888963407
	return int(r.state>>33) % n
}

// order is one of the first eight kinds, most of them such as may be done.
func (r *numbers) order(p api.Port) api.Order {
	n := len(p.Ships) + 1
	from := p.Now - 1 + r.below(30)
	switch kind := 1 + r.below(8); kind {
	case api.Come:
		return order(kind, r.below(13), 1+r.below(40), r.below(4))
	case api.Change:
		return order(kind, r.below(n), 1+r.below(60))
	case api.Keep:
		return order(kind, r.below(9), from, from+r.below(30))
	case api.Shut:
		return order(kind, r.below(9))
	case api.Drop:
		return order(kind, r.below(api.MaxKept))
	default:
		return order(kind, r.below(n))
	}
}

// roomy is whether there is room for what a port would be.
func roomy(p api.Port) bool {
	m := tableOf(p)
	return slices.Min(m[:]) >= 0
}

// walk goes on with a port by orders and by time, and tells each move.
func walk(r *numbers, steps int, told func(p, q api.Port, o api.Order, n int, e api.Errno), later func(p, in, q api.Port, who []int)) {
	p := port.New()
	for range steps {
		if r.below(3) > 0 {
			o := r.order(p)
			q, n, e := port.Tell(p, o)
			told(p, q, o, n, e)
			p = q
			continue
		}
		in, who := port.Due(p, port.Plan(p))
		q, e := port.Later(in)
		later(p, in, q, who)
		p = q
		if e != api.OK || len(p.Ships) == api.MaxShips {
			p = port.New()
		}
	}
}

// P2.3 and P2.5, held against the plainest form, move by move; P2.6 to P2.8: what is told leaves a port good, and refused leaves it as it was.
func TestWalkAgainstTable(t *testing.T) {
	var r numbers
	seen := map[api.Errno]int{}
	moved := 0
	check := func(p api.Port) {
		b, ok := port.Base(p)
		if !ok || !slices.Equal(b, tableOf(p).profile()) {
			t.Fatalf("Base of %v: %v %v", p, b, ok)
		}
		if got, want := port.Plan(p), planOf(p); !slices.Equal(got, want) {
			t.Fatalf("Plan of %v: %v, not %v", p, got, want)
		}
	}
	told := func(p, q api.Port, o api.Order, n int, e api.Errno) {
		seen[e]++
		if !port.Good(q) || e != api.OK && (n != 0 || !same(p, q)) {
			t.Fatalf("%v, %v: %v %d %d", p, o, q, n, e)
		}
		check(q)
	}
	later := func(p, in, q api.Port, who []int) {
		moved += len(who)
		if !port.Good(in) || !port.Good(q) {
			t.Fatalf("%v: %v %v", p, in, q)
		}
		check(in)
		check(q)
	}
	walk(&r, 6000, told, later)
	for _, e := range []api.Errno{api.OK, api.ErrRange, api.ErrNone, api.ErrMove, api.ErrRoom} {
		if seen[e] < 30 {
			t.Errorf("%d was answered %d times only", e, seen[e])
		}
	}
	if moved < 100 {
		t.Errorf("%d ships came in only", moved)
	}
}

// P2.8: ErrRoom is answered where there is none, and nowhere else.
func TestRoomAgainstTable(t *testing.T) {
	r := numbers{state: 5}
	refused := 0
	told := func(p, q api.Port, o api.Order, n int, e api.Errno) {
		if e != api.OK && e != api.ErrRoom {
			return
		}
		would := p
		would.Ships = slices.Clone(p.Ships)
		switch o.Kind {
		case api.Change:
			would.Ships[o.A].Long = o.B
		case api.Keep:
			would.Kept[slices.Index(p.Kept[:], api.Kept{})] = kept(o.A, o.B, o.C)
		case api.Shut:
			would.Shut = o.A
		default:
			if e != api.OK {
				t.Fatalf("%v, %v: %d", p, o, e)
			}
			return
		}
		if roomy(would) != (e == api.OK) {
			t.Fatalf("%v, %v: %d", p, o, e)
		}
		if e != api.OK {
			refused++
		}
	}
	walk(&r, 6000, told, func(p, in, q api.Port, who []int) {})
	if refused < 30 {
		t.Errorf("%d were refused only", refused)
	}
}

// Whoever comes later moves nobody ahead; time alone moves nobody.
func TestWalkMovesNobody(t *testing.T) {
	r := numbers{state: 9}
	told := func(p, q api.Port, o api.Order, n int, e api.Errno) {
		if o.Kind != api.Come || e != api.OK {
			return
		}
		was, is := port.Plan(p), port.Plan(q)
		l := port.Ranked(q)
		for _, i := range l[:slices.Index(l, n)] {
			if was[i] != is[i] {
				t.Fatalf("%v, %v: %v, then %v", p, o, was, is)
			}
		}
	}
	later := func(p, in, q api.Port, who []int) {
		was, is := port.Plan(p), port.Plan(q)
		for _, i := range port.Ranked(q) {
			if was[i] != is[i] {
				t.Fatalf("%v: %v, then %v", p, was, is)
			}
		}
	}
	walk(&r, 6000, told, later)
}
