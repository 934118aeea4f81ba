package mend_test

import (
	"slices"
	"testing"

	"berthing/api"
	"berthing/mend"
	"berthing/port"
)

// numbers is a row of numbers that is the same at every run.
type numbers struct{ state uint64 }

func (r *numbers) below(n int) int {
	r.state = r.state*6364136223846793005 + 1442695040888963407
	return int(r.state>>33) % n
}

// order is one of the first eight kinds, most of them such as may be done.
func (r *numbers) order(p api.Port) api.Order {
	n := len(p.Ships) + 1
	from := p.Now + r.below(30)
	switch kind := 1 + r.below(8); kind {
	case api.Come:
		return order(kind, 1+r.below(16), 1+r.below(60), r.below(4))
	case api.Change:
		return order(kind, r.below(n), 1+r.below(60))
	case api.Keep:
		return order(kind, 1+r.below(12), from, from+1+r.below(40))
	case api.Shut:
		return order(kind, r.below(9))
	case api.Drop:
		return order(kind, r.below(api.MaxKept))
	default:
		return order(kind, r.below(n))
	}
}

// ship is any one that is good at some time, of the place in the queue that is given.
func (r *numbers) ship(now, queued int) api.Ship {
	s := api.Ship{State: 1 + r.below(4), Wide: 1 + r.below(16), Long: 1 + r.below(80), Class: r.below(4), Queued: queued}
	if r.below(2) == 0 {
		s.State = api.Waits
	}
	if s.State == api.Lies {
		s.Wide, s.Since = 1+r.below(3), max(0, now-r.below(s.Long))
		s.Long = min(s.Long, api.End-s.Since)
	}
	return s
}

// anyPort is a good port that comes out of no other one.
func (r *numbers) anyPort() api.Port {
	for {
		p := api.Port{Now: r.below(40), Shut: r.below(4)}
		if r.below(4) == 0 {
			p.Now = r.below(api.End)
		}
		// Some places in the queue are left out, and ships need not stand in its order.
		for n := range r.below(api.MaxShips + 1) {
			p.Next += 1 + r.below(2)
			p.Ships = slices.Insert(p.Ships, r.below(n+1), r.ship(p.Now, p.Next-1))
		}
		for i := range p.Kept {
			if from := r.below(api.End - 1); r.below(2) == 0 {
				p.Kept[i] = api.Kept{Wide: 1 + r.below(8), From: from, To: from + 1 + r.below(api.End-from)}
			}
		}
		if port.Good(p) {
			return p
		}
	}
}

// alter is a port in which one thing or another is not as it was, by no order.
func (r *numbers) alter(p api.Port) api.Port {
	for {
		q := p
		q.Ships = slices.Clone(p.Ships)
		if n := len(q.Ships); n > 0 {
			i, j := r.below(n), r.below(n)
			switch r.below(5) {
			case 0:
				q.Ships[i], q.Ships[j] = q.Ships[j], q.Ships[i]
			case 1:
				q.Ships[i].Queued, q.Ships[j].Queued = q.Ships[j].Queued, q.Ships[i].Queued
			case 2:
				q.Ships[i].Class = r.below(4)
			case 3:
				q.Ships[i].Wide = 1 + r.below(16)
			case 4:
				q.Ships = slices.Delete(q.Ships, i, i+1)
			}
		}
		if r.below(4) == 0 {
			q.Now = max(0, q.Now-5+r.below(11))
		}
		if port.Good(q) {
			return q
		}
	}
}

// step is a port behind an order, or one time on with or without those that are due.
func (r *numbers) step(p api.Port) (api.Port, bool) {
	if r.below(4) > 0 {
		q, _, e := port.Tell(p, r.order(p))
		return q, e == api.OK
	}
	if r.below(4) > 0 {
		p, _ = port.Due(p, port.Plan(p))
	}
	q, e := port.Later(p)
	return q, e == api.OK
}

func TestWalkStepByStep(t *testing.T) {
	for seed := range 300 {
		r := &numbers{state: uint64(seed)}
		p, plan := port.New(), []int(nil)
		for range 100 {
			q, ok := r.step(p)
			if !ok {
				continue
			}
			mends(t, p, q)
			// The plan that is mended is itself the one from which the next is.
			plan, _ = mend.Plan(p, q, plan)
			if want := port.Plan(q); !slices.Equal(plan, want) {
				t.Fatalf("%d: %+v: %v; wanted %v", seed, q, plan, want)
			}
			if mends(t, q, q) != 0 {
				t.Fatalf("%d: %+v: looked at", seed, q)
			}
			p = q
		}
	}
}

func TestWalkBySeveral(t *testing.T) {
	for seed := range 300 {
		r := &numbers{state: uint64(seed)}
		row := []api.Port{port.New()}
		for range 60 {
			if q, ok := r.step(row[len(row)-1]); ok {
				row = append(row, q)
			}
		}
		for range 60 {
			mends(t, row[r.below(len(row))], row[r.below(len(row))])
		}
	}
}

func TestAnyTwoPorts(t *testing.T) {
	r := &numbers{state: 3}
	for range 10000 {
		mends(t, r.anyPort(), r.anyPort())
	}
}

func TestAlteredPorts(t *testing.T) {
	r := &numbers{state: 4}
	for range 3000 {
		p := r.anyPort()
		q := p
		for range 3 {
			q = r.alter(q)
			mends(t, p, q)
			mends(t, q, p)
		}
	}
}

// Whoever comes last of all moves nobody, so that nobody but it is looked at; time alone moves nobody, so that nobody is.
func TestWalkLooksAtNobodyElse(t *testing.T) {
	r := &numbers{state: 5}
	for range 3000 {
		p := r.anyPort()
		if q, _, e := port.Tell(p, order(api.Come, 1+r.below(16), 1+r.below(60), api.MaxClass)); e == api.OK {
			if looked := mends(t, p, q); looked != 1 {
				t.Fatalf("%+v to %+v: %d", p, q, looked)
			}
		}
		in, _ := port.Due(p, port.Plan(p))
		if q, e := port.Later(in); e == api.OK {
			if looked := mends(t, p, in) + mends(t, in, q) + mends(t, p, q); looked != 0 {
				t.Fatalf("%+v to %+v: %d", p, q, looked)
			}
		}
	}
}
