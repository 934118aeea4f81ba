package span_test

import (
	"slices"
	"testing"

	"berthing/api"
	"berthing/span"
)

// table is a profile told time by time: the plainest form there is, that the package is held against.
type table [api.End]int

func (m table) profile() []api.Step {
	var p []api.Step
	for t, n := range m {
		if t == 0 || n != m[t-1] {
			p = append(p, api.Step{At: t, Free: n})
		}
	}
	return p
}

func (m table) plus(from, to, n int) (table, bool) {
	was := m
	for t := from; t < to; t++ {
		m[t] += n
		if m[t] < 0 || m[t] > api.Room {
			return was, false
		}
	}
	return m, true
}

func (m table) fit(from, long, n int) int {
	for t := from; t+long <= api.End; t++ {
		if slices.Min(m[t:t+long]) >= n {
			return t
		}
	}
	return -1
}

// numbers is a row of numbers that is the same at every run.
type numbers struct{ state uint64 }

func (r *numbers) below(n int) int {
	r.state = r.state*6364136223846793005 + 1442695040888963407
	return int(r.state>>33) % n
}

// ordered is two times, the second one often the last that may be.
func (r *numbers) ordered() (int, int) {
	from := r.below(api.End + 1)
	to := from + r.below(api.End+1-from)
	if r.below(8) == 0 {
		to = api.End
	}
	return from, to
}

// P1.1, P1.2 and P1.3, held against the plainest form, step by step.
func TestChangesAgainstTable(t *testing.T) {
	var r numbers
	var m table
	m, _ = m.plus(0, api.End, api.Room)
	p := span.New()
	taken := 0
	for range 20000 {
		from, to := r.ordered()
		n := r.below(6)
		f, sign := span.Take, -1
		if r.below(2) == 0 {
			f, sign = span.Give, 1
		}
		q, ok := f(p, from, to, n)
		next, want := m.plus(from, to, sign*n)
		if ok != want || !slices.Equal(q, next.profile()) || !span.Good(q) {
			t.Fatalf("%v, %d %d %d: %v %v", p, from, to, sign*n, q, ok)
		}
		p, m = q, next
		if ok {
			taken++
		}
		at := r.below(api.End)
		if got := span.At(p, at); got != m[at] {
			t.Fatalf("%v at %d: %d", p, at, got)
		}
	}
	if taken < 1000 {
		t.Errorf("only %d changes were taken", taken)
	}
}

// P1.4, held against the plainest form.
func TestFitAgainstTable(t *testing.T) {
	var r numbers
	for range 300 {
		var m table
		m, _ = m.plus(0, api.End, api.Room/2)
		for range 20 {
			from, to := r.ordered()
			m, _ = m.plus(from, to, r.below(9)-4)
		}
		p := m.profile()
		for range 60 {
			from, long, n := r.below(api.End+2), 1+r.below(api.End), r.below(api.Room+2)
			if r.below(2) == 0 {
				long = 1 + long/10
			}
			if got, want := span.Fit(p, from, long, n), m.fit(from, long, n); got != want {
				t.Fatalf("%v, %d %d %d: %d, not %d", p, from, long, n, got, want)
			}
		}
	}
}
