package desk_test

import (
	"slices"
	"testing"

	"berthing/api"
	"berthing/desk"
	"berthing/line"
	"berthing/port"
)

// model is a desk in its plainest form: it keeps no plan, but makes it from the beginning, each time.
type model struct {
	port  api.Port
	begun []api.Port
	told  int
}

func (m *model) tell(s string) api.Reply {
	if m.told++; m.told > api.MaxActs {
		return api.Reply{Code: api.ErrFull}
	}
	o, e := line.Parse(s)
	if e != api.OK {
		return api.Reply{Code: e}
	}
	switch o.Kind {
	case api.Wait:
		return m.wait(o.A)
	case api.Begin, api.Commit, api.Undo:
		return api.Reply{Code: m.nest(o.Kind)}
	case api.Guess:
		p, n, e := port.Tell(m.port, api.Order{Kind: api.Come, A: o.A, B: o.B, C: o.C})
		if e != api.OK {
			return api.Reply{Code: e}
		}
		return api.Reply{N: port.Plan(p)[n]}
	case api.Ask:
		return m.ask(o.A)
	}
	p, n, e := port.Tell(m.port, o)
	if e != api.OK {
		return api.Reply{Code: e}
	}
	m.port, _ = port.Due(p, port.Plan(p))
	return api.Reply{N: n}
}

func (m *model) wait(times int) api.Reply {
	if times < 1 || m.port.Now+times > api.End-1 {
		return api.Reply{Code: api.ErrRange}
	}
	for range times {
		p, _ := port.Later(m.port)
		m.port, _ = port.Due(p, port.Plan(p))
	}
	return api.Reply{}
}

func (m *model) nest(kind int) api.Errno {
	if (kind == api.Begin) != (len(m.begun) == 0) {
		return api.ErrNest
	}
	switch kind {
	case api.Begin:
		m.begun = []api.Port{m.port}
		return api.OK
	case api.Undo:
		m.port = m.begun[0]
	}
	m.begun = nil
	return api.OK
}

func (m *model) ask(i int) api.Reply {
	if i < 0 || i >= len(m.port.Ships) {
		return api.Reply{Code: api.ErrNone}
	}
	switch s := m.port.Ships[i]; s.State {
	case api.Waits:
		return api.Reply{N: port.Plan(m.port)[i]}
	case api.Lies:
		return api.Reply{N: s.Since}
	}
	return api.Reply{N: -1}
}

// numbers is a row of numbers that is the same at every run.
type numbers struct{ state uint64 }

func (r *numbers) below(n int) int {
	r.state = r.state*6364136223846793005 + 1442695040888963407
	return int(r.state>>33) % n
}

// line is one of any kind, most of them such as may be done.
func (r *numbers) line(p api.Port) string {
	if r.below(40) == 0 {
		return "come 1 1"
	}
	ship := r.below(len(p.Ships)+2) - 1
	from := p.Now - 1 + r.below(30)
	o := api.Order{Kind: 1 + r.below(api.Ask)}
	switch o.Kind {
	case api.Come, api.Guess:
		o.A, o.B, o.C = r.below(18), r.below(60), r.below(5)
	case api.Change:
		o.A, o.B = ship, r.below(60)
	case api.Keep:
		o.A, o.B, o.C = r.below(13), from, from+r.below(40)
	case api.Shut:
		o.A = r.below(9)
		if r.below(8) == 0 {
			o.A = r.below(api.Room+3) - 1
		}
	case api.Drop:
		o.A = r.below(api.MaxKept + 1)
	case api.Wait:
		o.A = r.below(6)
	case api.Begin, api.Commit, api.Undo:
	default:
		o.A = ship
	}
	s, _ := line.Print(o)
	return s
}

// P5.1 to P5.5: replies, ports and plans, line by line, held against the plainest form, beyond MaxActs; P5.6: the same lines once more.
func TestWalkAgainstModel(t *testing.T) {
	seen := map[[2]int]int{}
	for seed := range 200 {
		r := &numbers{state: uint64(seed)}
		d, m := desk.New(), &model{}
		var lines []string
		var replies []api.Reply
		for range api.MaxActs + 5 {
			s := r.line(m.port)
			got, want := d.Tell(s), m.tell(s)
			if got != want {
				t.Fatalf("%d: %q, %q: %+v; wanted %+v", seed, lines, s, got, want)
			}
			if p := d.Port(); !same(p, m.port) || !slices.Equal(d.Plan(), port.Plan(m.port)) {
				t.Fatalf("%d: %q, %q: %+v, %v; wanted %+v", seed, lines, s, p, d.Plan(), m.port)
			}
			if o, _ := line.Parse(s); m.told <= api.MaxActs {
				seen[[2]int{o.Kind, int(want.Code)}]++
			}
			lines, replies = append(lines, s), append(replies, want)
		}
		if l, e := desk.Run(lines[:api.MaxActs]); e != api.OK || !slices.Equal(l, replies[:api.MaxActs]) {
			t.Fatalf("%d: %q: %v, %d; wanted %v", seed, lines, l, e, replies)
		}
	}
	for kind, l := range errorsByKind() {
		for _, e := range l {
			if seen[[2]int{kind, int(e)}] == 0 {
				t.Errorf("kind %d was never answered with %d", kind, e)
			}
		}
	}
}

// errorsByKind is what each kind may be answered with, but for ErrFull of too many lines; 0 is what tells no order.
func errorsByKind() [api.Ask + 1][]api.Errno {
	return [api.Ask + 1][]api.Errno{
		0:          {api.ErrForm},
		api.Come:   {api.OK, api.ErrRange, api.ErrFull},
		api.Leave:  {api.OK, api.ErrNone, api.ErrMove},
		api.Hold:   {api.OK, api.ErrNone, api.ErrMove},
		api.Free:   {api.OK, api.ErrNone, api.ErrMove},
		api.Change: {api.OK, api.ErrNone, api.ErrMove, api.ErrRange, api.ErrRoom},
		api.Keep:   {api.OK, api.ErrRange, api.ErrFull, api.ErrRoom},
		api.Drop:   {api.OK, api.ErrNone},
		api.Shut:   {api.OK, api.ErrRange, api.ErrRoom},
		api.Wait:   {api.OK, api.ErrRange},
		api.Begin:  {api.OK, api.ErrNest},
		api.Commit: {api.OK, api.ErrNest},
		api.Undo:   {api.OK, api.ErrNest},
		api.Guess:  {api.OK, api.ErrRange, api.ErrFull},
		api.Ask:    {api.OK, api.ErrNone},
	}
}
