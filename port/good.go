package port

import "berthing/api"

// maxNext is as far as the queue's numbers go.
const maxNext = 1 << 20

// sound is whether a port is good, but for whether there is room for all that takes some.
func sound(p api.Port) bool {
	return isTime(p.Now) &&
		within(0, api.Room, p.Shut) &&
		within(0, maxNext, p.Next) &&
		goodShips(p) &&
		goodKept(p.Kept[:]...)
}

// goodShips is whether the ships may be those of a port: not too many, each good, and each with a place of its own in the queue.
func goodShips(p api.Port) bool {
	if len(p.Ships) > api.MaxShips {
		return false
	}
	queued := map[int]int{}
	for _, s := range p.Ships {
		queued[s.Queued]++
		if !GoodShip(s, p.Now) || s.Queued >= p.Next || queued[s.Queued] > 1 {
			return false
		}
	}
	return true
}

// goodKept is whether each may be what is kept at a place, or is nothing.
func goodKept(l ...api.Kept) bool {
	for _, k := range l {
		if k != (api.Kept{}) && !(goodWide(k.Wide) && goodStay(k.From, k.To)) {
			return false
		}
	}
	return true
}

// goodStay is whether it is from a time to another one, and not from and to the same.
func goodStay(from, to int) bool {
	return from >= 0 && from < to && to <= api.End
}

// lasts is whether what is begun, for a good Long, ends above now, and at End at most.
func lasts(since, long, now int) bool {
	// Since may be any number, but not below 0: the two are added up only where the sum is known to be a small one.
	return since <= api.End-long && since+long > now
}

func isTime(t int) bool { return within(0, api.End-1, t) }

func goodWide(n int) bool { return within(1, api.Room, n) }

func goodLong(n int) bool { return within(1, api.End, n) }

func goodClass(n int) bool { return within(0, api.MaxClass, n) }

func within(low, high, n int) bool { return low <= n && n <= high }
