package mend

import (
	"cmp"
	"slices"

	"berthing/api"
)

// pair is a time, and how many more are free from it on, beside what the pairs ahead of it say.
type pair struct{ at, by int }

// drift collects, as pairs that rise, how far what is free in one port is from what is free in another one.
type drift struct{ pairs []pair }

// profile adds what is free in a profile, or less, by the sign. Ahead of now nobody comes in: nothing is free there.
func (d *drift) profile(p []api.Step, now, sign int) {
	free := 0
	for _, s := range p {
		d.put(max(s.At, now), sign*(s.Free-free))
		free = s.Free
	}
}

// stay adds the room that a stay takes, or less, by the sign; who never comes in takes none.
func (d *drift) stay(s stay, sign int) {
	if s.at == never {
		return
	}
	d.put(s.at, sign*s.ship.Wide)
	d.put(s.at+s.ship.Long, -sign*s.ship.Wide)
}

// put adds so many from a time on. A time has one pair at most: half of what begins at it must not be told.
func (d *drift) put(at, by int) {
	i, found := slices.BinarySearchFunc(d.pairs, at, func(p pair, at int) int {
		return cmp.Compare(p.at, at)
	})
	if !found {
		d.pairs = slices.Insert(d.pairs, i, pair{at: at})
	}
	d.pairs[i].by += by
}

// gains is whether at some time ahead of one more are free than were.
func (d *drift) gains(ahead int) bool {
	more := 0
	for _, p := range d.pairs {
		if p.at >= ahead {
			return false
		}
		more += p.by
		if more > 0 {
			return true
		}
	}
	return false
}
