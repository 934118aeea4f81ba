// Package span: see ../../shared/doc/01-span.md.
package span

import (
	"cmp"
	"slices"

	"berthing/api"
)

// New is a profile of which all is free.
func New() []api.Step {
	return []api.Step{{At: 0, Free: api.Room}}
}

// Good is whether steps are a profile: from 0 on, rising, each another one than the one ahead.
func Good(p []api.Step) bool {
	if len(p) == 0 || p[0].At != 0 {
		return false
	}
	for i, s := range p {
		if s.At >= api.End || !within(s.Free) {
			return false
		}
		if i > 0 && !follows(s, p[i-1]) {
			return false
		}
	}
	return true
}

// At is how many are free at a time; 0, if there is none such.
func At(p []api.Step, t int) int {
	if !Good(p) || t < 0 || t >= api.End {
		return 0
	}
	i, found := place(p, t)
	if !found {
		i--
	}
	return p[i].Free
}

// Take is a profile with so many fewer free, from one time on, up to ahead of another one; false: there are not so many.
func Take(p []api.Step, from, to, n int) ([]api.Step, bool) {
	return shift(p, from, to, n, -1)
}

// Give is a profile with so many more free.
func Give(p []api.Step, from, to, n int) ([]api.Step, bool) {
	return shift(p, from, to, n, 1)
}

// Fit is the first time, from one on, from which so many are free for so long; -1: there is none.
func Fit(p []api.Step, from, long, n int) int {
	if !Good(p) || from < 0 || long < 1 || long > api.End || n < 0 {
		return -1
	}
	start := from
	for i, s := range p {
		end := until(p, i)
		if end <= start {
			continue
		}
		if s.Free < n {
			start = end
			continue
		}
		if end-start >= long {
			return start
		}
	}
	return -1
}

// within is whether so many berths can be free.
func within(n int) bool {
	return n >= 0 && n <= api.Room
}

// follows is whether a step may stand right behind another one.
func follows(s, ahead api.Step) bool {
	return s.At > ahead.At && s.Free != ahead.Free
}

// place is where the step of a time stands, or would have to be set.
func place(p []api.Step, t int) (int, bool) {
	return slices.BinarySearchFunc(p, t, func(s api.Step, t int) int {
		return cmp.Compare(s.At, t)
	})
}

// until is the time ahead of which a step ends.
func until(p []api.Step, i int) int {
	if i+1 < len(p) {
		return p[i+1].At
	}
	return api.End
}

// shift is a profile with n more, or fewer, by the sign.
func shift(p []api.Step, from, to, n, sign int) ([]api.Step, bool) {
	if !Good(p) || !within(n) || from < 0 || from > to || to > api.End {
		return slices.Clone(p), false
	}
	// The caller's list and its spare room stay as they are: all is done to a copy.
	q := cut(cut(slices.Clone(p), from), to)
	first, _ := place(q, from)
	behind, _ := place(q, to)
	for i := first; i < behind; i++ {
		q[i].Free += sign * n
		if !within(q[i].Free) {
			return slices.Clone(p), false
		}
	}
	return join(q), true
}

// cut is steps of which one begins at a time, though it may be like the one ahead; at End none begins.
func cut(p []api.Step, t int) []api.Step {
	i, found := place(p, t)
	if found || t >= api.End {
		return p
	}
	return slices.Insert(p, i, api.Step{At: t, Free: p[i-1].Free})
}

// join is steps of which neighbours that are alike have become one.
func join(p []api.Step) []api.Step {
	return slices.CompactFunc(p, func(a, b api.Step) bool {
		return a.Free == b.Free
	})
}
