package span_test

import (
	"math"
	"slices"
	"testing"

	"berthing/api"
	"berthing/span"
)

// hill has steps at both ends of time, and of all and of no berths: at, free.
var hill = [][2]int{{0, 16}, {10, 4}, {20, 0}, {30, 4}, {299, 16}}

func hilly() []api.Step { return steps(hill) }

func steps(pairs [][2]int) []api.Step {
	var p []api.Step
	for _, c := range pairs {
		p = append(p, api.Step{At: c[0], Free: c[1]})
	}
	return p
}

// badProfiles are lists of steps, each of which breaks one rule of a profile.
func badProfiles() [][]api.Step {
	return [][]api.Step{
		nil,
		{},
		{{At: 1, Free: 16}},
		{{At: -1, Free: 16}},
		{{At: -1, Free: 16}, {At: 0, Free: 3}},
		{{At: math.MinInt, Free: 16}},
		{{At: 0, Free: -1}},
		{{At: 0, Free: 17}},
		{{At: 0, Free: math.MinInt}},
		{{At: 0, Free: math.MaxInt}},
		{{At: 0, Free: 1}, {At: 5, Free: 1}},
		{{At: 0, Free: 1}, {At: 5, Free: 2}, {At: 7, Free: 2}},
		{{At: 0, Free: 1}, {At: 0, Free: 2}},
		{{At: 0, Free: 1}, {At: 5, Free: 2}, {At: 5, Free: 3}},
		{{At: 0, Free: 1}, {At: 5, Free: 2}, {At: 4, Free: 3}},
		{{At: 0, Free: 1}, {At: 5, Free: 2}, {At: -5, Free: 3}},
		{{At: 0, Free: 1}, {At: 300, Free: 2}},
		{{At: 0, Free: 1}, {At: math.MaxInt, Free: 2}},
		{{At: 0, Free: 1}, {At: 5, Free: -1}},
		{{At: 0, Free: 1}, {At: 5, Free: 17}},
		{{At: 0, Free: 1}, {At: 5, Free: 2}, {At: 9, Free: 17}, {At: 12, Free: 2}},
	}
}

// P1.1
func TestNew(t *testing.T) {
	p := span.New()
	if !slices.Equal(p, []api.Step{{At: 0, Free: 16}}) || !span.Good(p) {
		t.Errorf("New: %v", p)
	}
	p[0].Free = 3
	if q := span.New(); q[0].Free != 16 {
		t.Errorf("New answers what a caller has changed: %v", q)
	}
}

// P1.1
func TestGood(t *testing.T) {
	for _, p := range [][]api.Step{
		{{At: 0, Free: 0}},
		{{At: 0, Free: 16}},
		{{At: 0, Free: 7}, {At: 1, Free: 8}, {At: 2, Free: 7}},
		{{At: 0, Free: 0}, {At: 299, Free: 16}},
		hilly(),
	} {
		if !span.Good(p) {
			t.Errorf("refused: %v", p)
		}
	}
	for _, p := range badProfiles() {
		if span.Good(p) {
			t.Errorf("taken: %v", p)
		}
	}
}

// P1.2
func TestAt(t *testing.T) {
	for _, c := range []struct{ at, want int }{
		{0, 16}, {9, 16}, {10, 4}, {11, 4}, {19, 4}, {20, 0}, {29, 0}, {30, 4}, {298, 4}, {299, 16},
		{-1, 0}, {300, 0}, {301, 0}, {math.MinInt, 0}, {math.MaxInt, 0},
	} {
		if n := span.At(hilly(), c.at); n != c.want {
			t.Errorf("At %d: %d, not %d", c.at, n, c.want)
		}
	}
}

// P1.2: nothing is said of lists that are no profiles, but that a call ends.
func TestAtOfBadEnds(t *testing.T) {
	for _, p := range badProfiles() {
		for _, at := range []int{math.MinInt, -1, 0, 5, 299, 300, math.MaxInt} {
			span.At(p, at)
		}
	}
}

// P1.3
func TestTake(t *testing.T) {
	for _, c := range []struct {
		name        string
		from, to, n int
		want        [][2]int
	}{
		{"all of a step", 0, 10, 5, [][2]int{{0, 11}, {10, 4}, {20, 0}, {30, 4}, {299, 16}}},
		{"within a step", 3, 7, 16, [][2]int{{0, 16}, {3, 0}, {7, 16}, {10, 4}, {20, 0}, {30, 4}, {299, 16}}},
		{"over a step", 8, 12, 1, [][2]int{{0, 16}, {8, 15}, {10, 3}, {12, 4}, {20, 0}, {30, 4}, {299, 16}}},
		{"like the next one then", 5, 10, 12, [][2]int{{0, 16}, {5, 4}, {20, 0}, {30, 4}, {299, 16}}},
		{"like both neighbours then", 10, 20, 4, [][2]int{{0, 16}, {10, 0}, {30, 4}, {299, 16}}},
		{"like the one ahead then", 30, 40, 4, [][2]int{{0, 16}, {10, 4}, {20, 0}, {40, 4}, {299, 16}}},
		{"up to End", 200, 300, 4, [][2]int{{0, 16}, {10, 4}, {20, 0}, {30, 4}, {200, 0}, {299, 12}}},
		{"the last time", 299, 300, 12, [][2]int{{0, 16}, {10, 4}, {20, 0}, {30, 4}}},
		{"the first time", 0, 1, 1, [][2]int{{0, 15}, {1, 16}, {10, 4}, {20, 0}, {30, 4}, {299, 16}}},
		{"no berths", 5, 25, 0, hill},
		{"no berths, ever", 0, 300, 0, hill},
		{"at no time", 25, 25, 16, hill},
		{"at no time, at 0", 0, 0, 16, hill},
		{"at no time, at End", 300, 300, 16, hill},
	} {
		q, ok := span.Take(hilly(), c.from, c.to, c.n)
		if !ok || !slices.Equal(q, steps(c.want)) {
			t.Errorf("%s: %v %v, not %v", c.name, q, ok, c.want)
		}
	}
}

// P1.3
func TestGive(t *testing.T) {
	for _, c := range []struct {
		name        string
		from, to, n int
		want        [][2]int
	}{
		{"all of a step", 10, 20, 12, [][2]int{{0, 16}, {20, 0}, {30, 4}, {299, 16}}},
		{"within a step", 22, 25, 16, [][2]int{{0, 16}, {10, 4}, {20, 0}, {22, 16}, {25, 0}, {30, 4}, {299, 16}}},
		{"like both neighbours then", 20, 30, 4, [][2]int{{0, 16}, {10, 4}, {299, 16}}},
		{"up to the last step", 30, 299, 12, [][2]int{{0, 16}, {10, 4}, {20, 0}, {30, 16}}},
		{"no berths, ever", 0, 300, 0, hill},
		{"at no time", 5, 5, 16, hill},
		{"at no time, at End", 300, 300, 16, hill},
	} {
		q, ok := span.Give(hilly(), c.from, c.to, c.n)
		if !ok || !slices.Equal(q, steps(c.want)) {
			t.Errorf("%s: %v %v, not %v", c.name, q, ok, c.want)
		}
	}
	q, ok := span.Give([]api.Step{{At: 0, Free: 0}}, 0, 300, 16)
	if !ok || !slices.Equal(q, span.New()) {
		t.Errorf("all given back: %v %v", q, ok)
	}
}

type change func(p []api.Step, from, to, n int) ([]api.Step, bool)

func refuses(t *testing.T, name string, f change, p []api.Step, from, to, n int) {
	t.Helper()
	q, ok := f(p, from, to, n)
	if ok || !slices.Equal(q, p) {
		t.Errorf("%s %v, %d %d %d: %v %v", name, p, from, to, n, q, ok)
	}
}

// P1.3: wrong numbers, that neither of the two takes.
func TestChangeRefusesNumbers(t *testing.T) {
	half := []api.Step{{At: 0, Free: 8}, {At: 9, Free: 7}}
	for _, c := range [][3]int{
		{5, 6, -1}, {5, 6, 17}, {5, 6, math.MinInt}, {5, 6, math.MaxInt}, {5, 5, -1}, {5, 5, 17},
		{-1, 6, 1}, {-1, -1, 1}, {-1, 6, 0}, {math.MinInt, 6, 1}, {math.MinInt, math.MaxInt, 0},
		{6, 5, 1}, {6, 5, 0}, {1, 0, 1}, {300, 299, 0}, {6, -1, 0}, {6, math.MinInt, 0},
		{5, 301, 1}, {5, 301, 0}, {301, 301, 0}, {0, math.MaxInt, 0}, {math.MaxInt, math.MaxInt, 0},
	} {
		refuses(t, "Take", span.Take, half, c[0], c[1], c[2])
		refuses(t, "Give", span.Give, half, c[0], c[1], c[2])
	}
}

// P1.3: at one of the times is too little, or too much.
func TestChangeRefusesRoom(t *testing.T) {
	for _, c := range [][3]int{
		{0, 11, 5}, {10, 11, 5}, {19, 21, 1}, {20, 21, 1}, {29, 30, 1}, {0, 300, 1}, {15, 25, 4}, {298, 299, 5}, {298, 300, 5},
	} {
		refuses(t, "Take", span.Take, hilly(), c[0], c[1], c[2])
	}
	for _, c := range [][3]int{
		{0, 1, 1}, {9, 10, 1}, {9, 11, 1}, {10, 11, 13}, {298, 300, 1}, {299, 300, 1}, {0, 300, 1}, {20, 31, 13},
	} {
		refuses(t, "Give", span.Give, hilly(), c[0], c[1], c[2])
	}
}

// P1.3: what is no profile, though the change itself would do.
func TestChangeRefusesBad(t *testing.T) {
	for _, p := range badProfiles() {
		for _, c := range [][3]int{{0, 1, 0}, {0, 1, 1}, {4, 4, 0}, {0, 300, 0}, {300, 300, 0}} {
			refuses(t, "Take", span.Take, p, c[0], c[1], c[2])
			refuses(t, "Give", span.Give, p, c[0], c[1], c[2])
		}
	}
}

// P1.3: a list that is handed in is not changed, its spare room neither, whether the change is taken or not; and the answer is the caller's to write on.
func TestChangeLeavesTheListAlone(t *testing.T) {
	spare := api.Step{At: 77, Free: 77}
	whole := append(hilly(), spare, spare, spare)
	was := slices.Clone(whole)
	p := whole[:5]
	for _, c := range [][3]int{{3, 7, 2}, {10, 20, 4}, {20, 30, 4}, {0, 300, 1}, {15, 25, 4}, {5, 6, 0}, {300, 300, 1}, {6, 5, 1}} {
		for _, f := range []change{span.Take, span.Give} {
			q, _ := f(p, c[0], c[1], c[2])
			for i := range q {
				q[i] = api.Step{}
			}
			if !slices.Equal(whole, was) {
				t.Fatalf("%v: %v", c, whole)
			}
		}
	}
}

// P1.4
func TestFit(t *testing.T) {
	for _, c := range []struct{ from, long, n, want int }{
		{0, 1, 1, 0}, {0, 10, 16, 0}, {0, 11, 16, -1}, {0, 11, 4, 0}, {0, 20, 4, 0}, {0, 21, 4, 30},
		{1, 20, 4, 30}, {1, 19, 4, 1}, {5, 5, 5, 5}, {6, 5, 5, -1}, {6, 1, 5, 6}, {10, 1, 5, 299}, {10, 2, 5, -1},
		{15, 5, 1, 15}, {15, 6, 1, 30}, {20, 1, 1, 30}, {29, 270, 4, 30}, {29, 271, 4, -1}, {30, 270, 4, 30}, {31, 270, 4, -1},
		{298, 1, 16, 299}, {299, 1, 16, 299}, {299, 2, 0, -1},
		{0, 300, 0, 0}, {1, 300, 0, -1}, {1, 299, 0, 1}, {25, 1, 0, 25},
		{0, 1, 17, -1}, {0, 1, math.MaxInt, -1}, {300, 1, 0, -1}, {301, 1, 0, -1}, {math.MaxInt, 300, 0, -1},
		{-1, 1, 0, -1}, {-2, 1, 0, -1}, {-300, 300, 0, -1}, {-5, 3, 16, -1}, {math.MinInt, 1, 0, -1},
		{0, 0, 0, -1}, {0, -1, 0, -1}, {0, 301, 0, -1}, {0, math.MinInt, 0, -1}, {0, math.MaxInt, 0, -1},
		{0, 1, -1, -1}, {0, 1, math.MinInt, -1},
	} {
		if n := span.Fit(hilly(), c.from, c.long, c.n); n != c.want {
			t.Errorf("%v: %d", c, n)
		}
	}
}

// P1.4
func TestFitRefusesBad(t *testing.T) {
	for _, p := range badProfiles() {
		if n := span.Fit(p, 0, 1, 0); n != -1 {
			t.Errorf("%v: %d", p, n)
		}
	}
}
