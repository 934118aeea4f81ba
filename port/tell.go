package port

import (
	"slices"

	"berthing/api"
)

// Tell is a port behind an order of the first eight kinds; its answer.
func Tell(p api.Port, o api.Order) (api.Port, int, api.Errno) {
	if !Good(p) {
		return own(p), 0, api.ErrForm
	}
	q := own(p)
	n, e := obey(&q, o)
	if e == api.OK && !Good(q) {
		// All else was asked by now: what is amiss can only be the room.
		e = api.ErrRoom
	}
	if e != api.OK {
		return own(p), 0, e
	}
	return q, n, api.OK
}

// obey does to a port what an order says, and answers its number; whether there is room is not asked yet.
func obey(p *api.Port, o api.Order) (int, api.Errno) {
	switch o.Kind {
	case api.Come:
		return come(p, o.A, o.B, o.C)
	case api.Leave, api.Hold, api.Free, api.Change:
		return 0, move(p, o)
	case api.Keep:
		return keep(p, api.Kept{Wide: o.A, From: o.B, To: o.C})
	case api.Drop:
		return 0, drop(p, o.A)
	case api.Shut:
		return 0, shut(p, o.A)
	}
	return 0, api.ErrForm
}

// come sets one more ship behind the others; its number.
func come(p *api.Port, wide, long, class int) (int, api.Errno) {
	if !goodWide(wide) || !goodLong(long) || !goodClass(class) {
		return 0, api.ErrRange
	}
	if len(p.Ships) >= api.MaxShips || p.Next >= maxNext {
		return 0, api.ErrFull
	}
	s := api.Ship{State: api.Waits, Wide: wide, Long: long, Class: class, Queued: p.Next}
	p.Ships = append(p.Ships, s)
	p.Next++
	return len(p.Ships) - 1, api.OK
}

// move does what is to be done to a ship that there is already.
func move(p *api.Port, o api.Order) api.Errno {
	if !within(0, len(p.Ships)-1, o.A) {
		return api.ErrNone
	}
	s := &p.Ships[o.A]
	if s.State == api.Gone {
		return api.ErrMove
	}
	switch o.Kind {
	case api.Leave:
		depart(s)
	case api.Hold:
		return turn(s, api.Waits, api.Held)
	case api.Free:
		return turn(s, api.Held, api.Waits)
	case api.Change:
		return change(s, o.B, p.Now)
	}
	return api.OK
}

// turn brings a ship from one state to another one.
func turn(s *api.Ship, from, to int) api.Errno {
	if s.State != from {
		return api.ErrMove
	}
	s.State = to
	return api.OK
}

// change is another Long for a ship; of one that lies it must not be over by now.
func change(s *api.Ship, long, now int) api.Errno {
	if !goodLong(long) || s.State == api.Lies && !lasts(s.Since, long, now) {
		return api.ErrRange
	}
	s.Long = long
	return api.OK
}

// keep sets what is to be kept at the first place that is free; its number.
func keep(p *api.Port, k api.Kept) (int, api.Errno) {
	if !goodWide(k.Wide) || k.From < p.Now || !goodStay(k.From, k.To) {
		return 0, api.ErrRange
	}
	i := slices.Index(p.Kept[:], api.Kept{})
	if i < 0 {
		return 0, api.ErrFull
	}
	p.Kept[i] = k
	return i, api.OK
}

// drop keeps a place no longer.
func drop(p *api.Port, i int) api.Errno {
	if !within(0, api.MaxKept-1, i) || p.Kept[i] == (api.Kept{}) {
		return api.ErrNone
	}
	p.Kept[i] = api.Kept{}
	return api.OK
}

// shut is how many berths are shut, all in all.
func shut(p *api.Port, n int) api.Errno {
	if !within(0, api.Room, n) {
		return api.ErrRange
	}
	p.Shut = n
	return api.OK
}
