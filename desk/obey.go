package desk

import (
	"berthing/api"
	"berthing/mend"
	"berthing/port"
)

// never is what is told of who is not to come in.
const never = -1

// obey does what an order says, and answers its number; with an error that is 0, and nothing is done.
func (d *Desk) obey(o api.Order) (int, api.Errno) {
	switch o.Kind {
	case api.Wait:
		return 0, d.wait(o.A)
	case api.Begin:
		return 0, d.begin()
	case api.Commit:
		return 0, d.commit()
	case api.Undo:
		return 0, d.undo()
	case api.Guess:
		return d.guess(o)
	case api.Ask:
		return d.ask(o.A)
	}
	return d.order(o)
}

// order does one of the first eight kinds, which are the port's own.
func (d *Desk) order(o api.Order) (int, api.Errno) {
	p, n, e := port.Tell(d.port, o)
	if e != api.OK {
		return 0, e
	}
	d.become(p)
	d.admit()
	return n, api.OK
}

// wait goes on for so many times, one by one: at each of them ships may go, and others come in.
func (d *Desk) wait(times int) api.Errno {
	if times < 1 || d.port.Now+times >= api.End {
		return api.ErrRange
	}
	for range times {
		p, e := port.Later(d.port)
		if e != api.OK {
			return e
		}
		d.become(p)
		d.admit()
	}
	return api.OK
}

// begin keeps the port aside. What is kept is never written on: whatever is done later is done to another port.
func (d *Desk) begin() api.Errno {
	if d.aside != nil {
		return api.ErrNest
	}
	p := d.port
	d.aside = &p
	return api.OK
}

// commit ends what was begun, and leaves the port as it is.
func (d *Desk) commit() api.Errno {
	if d.aside == nil {
		return api.ErrNest
	}
	d.aside = nil
	return api.OK
}

// undo ends what was begun, and brings back the port that was kept aside.
func (d *Desk) undo() api.Errno {
	if d.aside == nil {
		return api.ErrNest
	}
	d.become(*d.aside)
	d.aside = nil
	return api.OK
}

// guess is when a ship would come in, if it came now.
func (d *Desk) guess(o api.Order) (int, api.Errno) {
	o.Kind = api.Come
	p, n, e := port.Tell(d.port, o)
	if e != api.OK {
		return 0, e
	}
	plan, _ := mend.Plan(d.port, p, d.plan)
	return plan[n], api.OK
}

// ask is when a ship is to come in, or has.
func (d *Desk) ask(i int) (int, api.Errno) {
	if i < 0 || i >= len(d.port.Ships) {
		return 0, api.ErrNone
	}
	switch s := d.port.Ships[i]; s.State {
	case api.Waits:
		return d.plan[i], api.OK
	case api.Lies:
		return s.Since, api.OK
	}
	return never, api.OK
}

// become is another port from now on, the plan mended for it.
func (d *Desk) become(p api.Port) {
	d.plan, _ = mend.Plan(d.port, p, d.plan)
	d.port = p
}

// admit lets in who is due.
func (d *Desk) admit() {
	p, _ := port.Due(d.port, d.plan)
	d.become(p)
}
