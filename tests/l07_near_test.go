package tests

import (
	"math"
	"math/rand"
	"slices"
	"testing"

	"loop.example/g00681/impl"
)

// near lists State, Last and Wants.
func near(state, last, wants int) impl.Near {
	return impl.Near{State: state, Last: last, Wants: wants}
}

// ev lists Kind, Now and N, which may be left out.
func ev(kind, now int, n ...int) impl.NearEvent {
	e := impl.NearEvent{Kind: kind, Now: now}
	if len(n) > 0 {
		e.N = n[0]
	}
	return e
}

// What follows depends on more than Kind and State.
const (
	byN     = 5
	byWants = 6
	byClock = 7
)

// nextStates has a row for each Kind and a column for each State.
var nextStates = [6][5]int{
	{1, 1, 1, 1, 1},
	{2, 2, 2, 3, 4},
	{0, 1, byN, 3, 4},
	{0, 1, 2, byWants, 4},
	{0, byClock, byClock, byClock, byClock},
	{0, 0, 0, 0, 0},
}

// stepped is the model of StepNear.
func stepped(n impl.Near, e impl.NearEvent) (impl.Near, int) {
	valid := n.Last >= 0 && n.Last <= 1000000 &&
		slices.Contains([][2]int{{0, 0}, {1, 0}, {2, 0}, {4, 0}, {3, min(max(n.Wants, 1), 10)}}, [2]int{n.State, n.Wants})
	if !valid || e.Kind < 0 || e.Kind > 5 || e.Now < n.Last || e.Now > 1000000 {
		return n, 0
	}
	next := n
	next.State = nextStates[e.Kind][n.State]
	switch {
	case next.State == byN && e.N > 0 && e.N <= 10:
		next.State, next.Wants = 3, e.N
	case next.State == byN && e.N == 0:
		next.State = 4
	case next.State == byN:
		next.State = 2
	case next.State == byWants:
		next.State, next.Wants = 3, n.Wants-1
		if n.Wants == 1 {
			next.State = 4
		}
	case next.State == byClock && e.Now >= n.Last+4:
		next.State = 0
	case next.State == byClock:
		next.State = n.State
	}
	if next.State != 3 {
		next.Wants = 0
	}
	if e.Kind <= 1 {
		next.Last = e.Now
	}
	if next.State != n.State {
		return next, 1
	}
	return next, 0
}

// goodNears have the Last in common.
func goodNears(last int) []impl.Near {
	nears := []impl.Near{near(0, last, 0), near(1, last, 0), near(2, last, 0), near(4, last, 0)}
	for wants := 1; wants <= 10; wants++ {
		nears = append(nears, near(3, last, wants))
	}
	return nears
}

// badNears are wrong in one field.
func badNears() []impl.Near {
	var bad []impl.Near
	for _, n := range goodNears(7) {
		for _, state := range []int{-1, -2, 5, 6, 7, 255, 256, 259, math.MinInt, math.MaxInt} {
			bad = append(bad, near(state, n.Last, n.Wants))
		}
		for _, last := range []int{-1, -2, -4, 1000001, 1000002, 1000004, math.MinInt, math.MaxInt, math.MaxInt - 3} {
			bad = append(bad, near(n.State, last, n.Wants))
		}
	}
	for _, state := range []int{0, 1, 2, 4} {
		for _, wants := range []int{-1, 1, 2, 9, 10, 11, math.MinInt, math.MaxInt} {
			bad = append(bad, near(state, 7, wants))
		}
	}
	for _, wants := range []int{-1, 0, -2, 11, 12, math.MinInt, math.MaxInt} {
		bad = append(bad, near(3, 7, wants))
	}
	return bad
}

// lasts are the numbers of Last that matter.
func lasts() []int {
	return []int{0, 1, 4, 500, 999995, 999996, 999997, 999999, 1000000}
}

func allKinds() []int {
	return []int{-1, 0, 1, 2, 3, 4, 5, 6, 7, -6, 256, 260, math.MinInt, math.MaxInt}
}

// nows are the times that matter for an adjacency.
func nows(last int) []int {
	return []int{last - 1, last, last + 1, last + 3, last + 4, last + 5, last + 100, 0, 999999, 1000000,
		-1, 1000001, 1000004, math.MinInt, math.MaxInt}
}

func TestNearConstants(t *testing.T) {
	states := []int{impl.NearDown, impl.NearHeard, impl.NearBoth, impl.NearAsks, impl.NearFull}
	if !slices.Equal(states, []int{0, 1, 2, 3, 4}) || impl.DeadAfter != 4 || impl.MaxTime != 1000000 {
		t.Errorf("the constants are %v, %d, %d", states, impl.DeadAfter, impl.MaxTime)
	}
}

func TestNearOk(t *testing.T) {
	for _, last := range lasts() {
		for _, n := range goodNears(last) {
			if !impl.NearOk(n) {
				t.Errorf("NearOk(%v) is false", n)
			}
		}
	}
	for _, n := range badNears() {
		if impl.NearOk(n) {
			t.Errorf("NearOk(%v) is true", n)
		}
	}
}

func TestNearOkOfEveryState(t *testing.T) {
	for state := -2; state <= 6; state++ {
		for _, last := range []int{-1, 0, impl.MaxTime, impl.MaxTime + 1} {
			for _, wants := range []int{-1, 0, 1, impl.MaxNodes, impl.MaxNodes + 1} {
				inRange := state >= 0 && state <= 4 && (last == 0 || last == impl.MaxTime)
				want := inRange && wants == 0
				if state == impl.NearAsks {
					want = inRange && (wants == 1 || wants == impl.MaxNodes)
				}
				if n := near(state, last, wants); impl.NearOk(n) != want {
					t.Errorf("NearOk(%v) is not %v", n, want)
				}
			}
		}
	}
}

func checkStep(t *testing.T, n impl.Near, e impl.NearEvent, want impl.Near, result int) {
	t.Helper()
	if got, changed := impl.StepNear(n, e); got != want || changed != result {
		t.Errorf("StepNear(%v, %v) is %v, %d and not %v, %d", n, e, got, changed, want, result)
	}
}

type stepCase struct {
	n      impl.Near
	e      impl.NearEvent
	want   impl.Near
	result int
}

func checkSteps(t *testing.T, cases []stepCase) {
	t.Helper()
	for _, c := range cases {
		checkStep(t, c.n, c.e, c.want, c.result)
	}
}

func TestStepNearGreeted(t *testing.T) {
	checkSteps(t, []stepCase{
		{near(0, 3, 0), ev(0, 5), near(1, 5, 0), 1},
		{near(1, 3, 0), ev(0, 5), near(1, 5, 0), 0},
		{near(2, 3, 0), ev(0, 5), near(1, 5, 0), 1},
		{near(3, 3, 1), ev(0, 5), near(1, 5, 0), 1},
		{near(3, 3, 10), ev(0, 5), near(1, 5, 0), 1},
		{near(4, 3, 0), ev(0, 5), near(1, 5, 0), 1},
		{near(4, 3, 0), ev(0, 5, 10), near(1, 5, 0), 1},
		{near(3, 3, 2), ev(0, 3), near(1, 3, 0), 1},
		{near(4, 3, 0), ev(0, 500), near(1, 500, 0), 1},
		{near(0, 0, 0), ev(0, 0), near(1, 0, 0), 1},
		{near(1, 0, 0), ev(0, impl.MaxTime), near(1, impl.MaxTime, 0), 0},
		{near(2, impl.MaxTime, 0), ev(0, impl.MaxTime), near(1, impl.MaxTime, 0), 1},
	})
}

func TestStepNearListed(t *testing.T) {
	checkSteps(t, []stepCase{
		{near(0, 3, 0), ev(1, 5), near(2, 5, 0), 1},
		{near(1, 3, 0), ev(1, 5), near(2, 5, 0), 1},
		{near(2, 3, 0), ev(1, 5), near(2, 5, 0), 0},
		{near(3, 3, 1), ev(1, 5), near(3, 5, 1), 0},
		{near(3, 3, 10), ev(1, 5), near(3, 5, 10), 0},
		{near(4, 3, 0), ev(1, 5), near(4, 5, 0), 0},
		{near(1, 3, 0), ev(1, 5, 7), near(2, 5, 0), 1},
		{near(0, 3, 0), ev(1, 3), near(2, 3, 0), 1},
		{near(4, 3, 0), ev(1, 500), near(4, 500, 0), 0},
		{near(3, 0, 4), ev(1, impl.MaxTime), near(3, impl.MaxTime, 4), 0},
	})
}

func TestStepNearDescribed(t *testing.T) {
	checkSteps(t, []stepCase{
		{near(2, 3, 0), ev(2, 5, 0), near(4, 3, 0), 1},
		{near(2, 3, 0), ev(2, 5, 1), near(3, 3, 1), 1},
		{near(2, 3, 0), ev(2, 5, 9), near(3, 3, 9), 1},
		{near(2, 3, 0), ev(2, 5, impl.MaxNodes), near(3, 3, 10), 1},
		{near(2, 3, 0), ev(2, impl.MaxTime, 2), near(3, 3, 2), 1},
	})
	for _, lacking := range []int{-1, -2, -10, 11, 12, 256, 257, math.MinInt, math.MaxInt} {
		checkStep(t, near(2, 3, 0), ev(2, 5, lacking), near(2, 3, 0), 0)
	}
	for _, n := range goodNears(3) {
		for lacking := -1; lacking <= 11 && n.State != impl.NearBoth; lacking++ {
			checkStep(t, n, ev(2, 5, lacking), n, 0)
		}
	}
}

func TestStepNearArrived(t *testing.T) {
	for wants := 2; wants <= 10; wants++ {
		checkStep(t, near(3, 3, wants), ev(3, 5), near(3, 3, wants-1), 0)
		checkStep(t, near(3, 3, wants), ev(3, 5, wants), near(3, 3, wants-1), 0)
	}
	checkStep(t, near(3, 3, 1), ev(3, 5), near(4, 3, 0), 1)
	checkStep(t, near(3, 3, 1), ev(3, impl.MaxTime, 5), near(4, 3, 0), 1)
	for _, n := range goodNears(3) {
		if n.State != impl.NearAsks {
			checkStep(t, n, ev(3, 5), n, 0)
		}
	}
}

func TestStepNearUntilNothingIsMissing(t *testing.T) {
	for lacking := range 11 {
		n, result := impl.StepNear(near(2, 3, 0), ev(2, 3, lacking))
		for i := range lacking {
			if want := near(3, 3, lacking-i); n != want || result == 1 && i > 0 {
				t.Errorf("after %d of %d advertisements it is %v with %d", i, lacking, n, result)
			}
			n, result = impl.StepNear(n, ev(3, 3))
		}
		if n != near(4, 3, 0) || result != 1 {
			t.Errorf("after %d advertisements it is %v with %d", lacking, n, result)
		}
		checkStep(t, n, ev(3, 3), near(4, 3, 0), 0)
	}
}

func TestStepNearOnTheClock(t *testing.T) {
	for _, last := range []int{0, 3, 999996} {
		for _, n := range goodNears(last) {
			result := min(n.State, 1)
			checkStep(t, n, ev(4, last), n, 0)
			checkStep(t, n, ev(4, last+1), n, 0)
			checkStep(t, n, ev(4, last+3), n, 0)
			checkStep(t, n, ev(4, last+4), near(0, last, 0), result)
			checkStep(t, n, ev(4, impl.MaxTime), near(0, last, 0), result)
		}
	}
	for _, n := range goodNears(999997) {
		checkStep(t, n, ev(4, impl.MaxTime), n, 0)
		checkStep(t, n, ev(4, impl.MaxTime+1), n, 0)
	}
}

func TestStepNearWithoutTheLink(t *testing.T) {
	for _, n := range goodNears(3) {
		for _, now := range []int{3, 4, 7, 100, impl.MaxTime} {
			checkStep(t, n, ev(5, now), near(0, 3, 0), min(n.State, 1))
		}
	}
}

func TestStepNear(t *testing.T) {
	for _, last := range lasts() {
		for _, n := range goodNears(last) {
			for _, kind := range allKinds() {
				for _, now := range nows(last) {
					for _, lacking := range []int{0, 1, 2, 9, 10, 11, -1, math.MinInt, math.MaxInt} {
						e := ev(kind, now, lacking)
						want, result := stepped(n, e)
						checkStep(t, n, e, want, result)
						if got, _ := impl.StepNear(n, e); !impl.NearOk(got) {
							t.Errorf("StepNear(%v, %v) is %v, which is invalid", n, e, got)
						}
					}
				}
			}
		}
	}
}

func TestStepNearDoesNotProcess(t *testing.T) {
	for _, last := range lasts() {
		for _, n := range goodNears(last) {
			for _, kind := range []int{-1, -2, 6, 7, 256, 261, math.MinInt, math.MaxInt} {
				checkStep(t, n, ev(kind, last), n, 0)
				checkStep(t, n, ev(kind, impl.MaxTime), n, 0)
			}
			for kind := range 6 {
				for _, now := range []int{last - 1, -1, math.MinInt, impl.MaxTime + 1, impl.MaxTime + 4, math.MaxInt} {
					checkStep(t, n, ev(kind, now), n, 0)
				}
			}
		}
	}
	for _, n := range badNears() {
		for _, kind := range allKinds() {
			for _, now := range append(nows(n.Last), 7, 11, 100) {
				checkStep(t, n, ev(kind, now), n, 0)
				checkStep(t, n, ev(kind, now, 1), n, 0)
			}
		}
	}
}

// played is the model of PlayNear, Changes and FullTimes.
func played(events []impl.NearEvent) (n impl.Near, results []int, changes int, full []int) {
	for i, e := range events {
		next, result := stepped(n, e)
		results = append(results, result)
		changes += result
		if next.State == 4 && n.State != 4 {
			full = append(full, i)
		}
		n = next
	}
	return n, results, changes, full
}

func checkPlay(t *testing.T, events []impl.NearEvent) {
	t.Helper()
	wantN, wantResults, wantChanges, wantFull := played(events)
	if n, results := impl.PlayNear(events); n != wantN || !slices.Equal(results, wantResults) {
		t.Fatalf("PlayNear(%v) is %v, %v and not %v, %v", events, n, results, wantN, wantResults)
	}
	if got := impl.Changes(events); got != wantChanges {
		t.Fatalf("Changes(%v) is %d and not %d", events, got, wantChanges)
	}
	if got := impl.FullTimes(events); !slices.Equal(got, wantFull) {
		t.Fatalf("FullTimes(%v) is %v and not %v", events, got, wantFull)
	}
}

type playCase struct {
	why     string
	events  []impl.NearEvent
	n       impl.Near
	results []int
	full    []int
}

func playCases() []playCase {
	return []playCase{
		{"nothing", nil, near(0, 0, 0), nil, nil},
		{"an empty list", []impl.NearEvent{}, near(0, 0, 0), nil, nil},
		{"a greeting", []impl.NearEvent{ev(0, 9)}, near(1, 9, 0), []int{1}, nil},
		{"a greeting that lists", []impl.NearEvent{ev(1, 9)}, near(2, 9, 0), []int{1}, nil},
		{"a clock alone", []impl.NearEvent{ev(4, 9)}, near(0, 0, 0), []int{0}, nil},
		{"an event that is not processed", []impl.NearEvent{ev(6, 9)}, near(0, 0, 0), []int{0}, nil},
		{"an event before the beginning", []impl.NearEvent{ev(1, -1)}, near(0, 0, 0), []int{0}, nil},
		{"up with requests", []impl.NearEvent{ev(0, 1), ev(1, 2), ev(2, 2, 2), ev(3, 3), ev(3, 3)},
			near(4, 2, 0), []int{1, 1, 1, 0, 1}, []int{4}},
		{"up without requests", []impl.NearEvent{ev(1, 2), ev(2, 2)}, near(4, 2, 0), []int{1, 1}, []int{1}},
		{"a description too early", []impl.NearEvent{ev(2, 1), ev(0, 1), ev(2, 1), ev(1, 1), ev(2, 1)},
			near(4, 1, 0), []int{0, 1, 0, 1, 1}, []int{4}},
		{"full and down by the clock", []impl.NearEvent{ev(1, 2), ev(2, 2), ev(4, 5), ev(4, 6)},
			near(0, 2, 0), []int{1, 1, 0, 1}, []int{1}},
		{"full and cut", []impl.NearEvent{ev(1, 2), ev(2, 2), ev(5, 2), ev(2, 2)},
			near(0, 2, 0), []int{1, 1, 1, 0}, []int{1}},
		{"kept up by greetings", []impl.NearEvent{ev(1, 2), ev(2, 2), ev(1, 5), ev(4, 8), ev(1, 8), ev(4, 11)},
			near(4, 8, 0), []int{1, 1, 0, 0, 0, 0}, []int{1}},
		{"full several times", []impl.NearEvent{ev(1, 0), ev(2, 0), ev(0, 0), ev(1, 0), ev(2, 0), ev(5, 0), ev(1, 0), ev(2, 0, 1), ev(3, 0)},
			near(4, 0, 0), []int{1, 1, 1, 1, 1, 1, 1, 1, 1}, []int{1, 4, 8}},
		{"events that leave it full", []impl.NearEvent{ev(1, 1), ev(2, 1), ev(1, 2), ev(2, 2), ev(2, 2, 3), ev(3, 2), ev(4, 2), ev(9, 2), ev(5, 1)},
			near(4, 2, 0), []int{1, 1, 0, 0, 0, 0, 0, 0, 0}, []int{1}},
		{"back in time", []impl.NearEvent{ev(1, 5), ev(2, 4), ev(2, 5), ev(5, 4), ev(4, 100), ev(1, 6), ev(2, 1000001), ev(2, 1000000)},
			near(4, 6, 0), []int{1, 0, 1, 0, 1, 1, 0, 1}, []int{2, 7}},
		{"greetings that do not list while it asks", []impl.NearEvent{ev(1, 1), ev(2, 1, 10), ev(3, 1), ev(0, 2), ev(3, 2), ev(1, 3), ev(2, 3, 1)},
			near(3, 3, 1), []int{1, 1, 0, 1, 0, 1, 1}, nil},
		{"until the end of time", []impl.NearEvent{ev(1, 999996), ev(4, 999999), ev(2, 1000000), ev(4, 1000000)},
			near(0, 999996, 0), []int{1, 0, 1, 1}, []int{2}},
	}
}

func TestPlayNearCases(t *testing.T) {
	for _, c := range playCases() {
		changes := 0
		for _, result := range c.results {
			changes += result
		}
		if n, results := impl.PlayNear(c.events); n != c.n || !slices.Equal(results, c.results) {
			t.Errorf("%s: PlayNear(%v) is %v, %v and not %v, %v", c.why, c.events, n, results, c.n, c.results)
		}
		if got := impl.Changes(c.events); got != changes {
			t.Errorf("%s: Changes(%v) is %d and not %d", c.why, c.events, got, changes)
		}
		if got := impl.FullTimes(c.events); !slices.Equal(got, c.full) {
			t.Errorf("%s: FullTimes(%v) is %v and not %v", c.why, c.events, got, c.full)
		}
		checkPlay(t, c.events)
	}
}

func TestPlayNearOfManyEvents(t *testing.T) {
	round := []impl.NearEvent{ev(1, 8), ev(2, 8), ev(5, 8)}
	long := slices.Repeat(round, 100)
	var ends []int
	for i := range 100 {
		ends = append(ends, 3*i+1)
	}
	checkPlay(t, long)
	n, results := impl.PlayNear(long)
	if n != near(0, 8, 0) || !slices.Equal(results, slices.Repeat([]int{1}, 300)) {
		t.Errorf("PlayNear of 300 events is %v, %v", n, results)
	}
	if impl.Changes(long) != 300 || !slices.Equal(impl.FullTimes(long), ends) {
		t.Errorf("of 300 events: %d changes, full after %v", impl.Changes(long), impl.FullTimes(long))
	}
	for _, more := range [][]impl.NearEvent{
		append(slices.Clone(long), ev(1, 8)),
		append(slices.Clone(long), ev(7, -1)),
		slices.Repeat(round, 101),
		make([]impl.NearEvent, 301),
		make([]impl.NearEvent, 100000),
	} {
		if n, results := impl.PlayNear(more); n != near(0, 0, 0) || len(results) != 0 {
			t.Errorf("PlayNear of %d events is %v, %v", len(more), n, results)
		}
		if impl.Changes(more) != -1 || len(impl.FullTimes(more)) != 0 {
			t.Errorf("of %d events: %d changes, full after %v", len(more), impl.Changes(more), impl.FullTimes(more))
		}
	}
}

func TestEventsThatAreNotProcessed(t *testing.T) {
	wrong := []impl.NearEvent{ev(-1, 9), ev(6, 9), ev(1, -1), ev(0, 1000001), ev(5, math.MinInt), ev(4, math.MaxInt)}
	for _, c := range playCases() {
		for i := range len(c.events) + 1 {
			checkPlay(t, slices.Insert(slices.Clone(c.events), i, wrong...))
			n, results := impl.PlayNear(slices.Insert(slices.Clone(c.events), i, wrong...))
			if n != c.n || !slices.Equal(results, slices.Insert(slices.Clone(c.results), i, 0, 0, 0, 0, 0, 0)) {
				t.Errorf("%s: with other events at %d, PlayNear is %v, %v", c.why, i, n, results)
			}
		}
	}
	if n, results := impl.PlayNear(slices.Repeat(wrong, 50)); n != near(0, 0, 0) || !slices.Equal(results, make([]int, 300)) {
		t.Errorf("PlayNear of 300 events that are not processed is %v, %v", n, results)
	}
}

// randomEvents advance slowly, so that adjacencies live for some time, and some of them are not
// processed.
func randomEvents(random *rand.Rand, n int) []impl.NearEvent {
	kinds := []int{0, 1, 1, 1, 1, 2, 2, 3, 3, 3, 3, 4, 4, 5, 6, -1}
	slow := 2 + random.Intn(4)
	now := random.Intn(3)
	var events []impl.NearEvent
	for range n {
		switch random.Intn(slow) {
		case 0:
			now += random.Intn(4)
		case 1:
			now -= random.Intn(2)
		}
		events = append(events, ev(kinds[random.Intn(len(kinds))], now, random.Intn(6)-1))
	}
	return events
}

func TestPlayNear(t *testing.T) {
	random := rand.New(rand.NewSource(66))
	for i := range 3000 {
		checkPlay(t, randomEvents(random, i%301))
	}
}

func TestEveryShortPlay(t *testing.T) {
	few := []impl.NearEvent{ev(0, 1), ev(0, 4), ev(1, 1), ev(1, 4), ev(2, 4), ev(2, 4, 1), ev(3, 5), ev(4, 5), ev(5, 5)}
	for _, a := range few {
		for _, b := range few {
			for _, c := range few {
				for _, d := range few {
					checkPlay(t, []impl.NearEvent{a, b, c, d})
				}
			}
		}
	}
}

// checkWayUp looks back from the event after which the adjacency became full to the last time at which
// it was down.
func checkWayUp(t *testing.T, events []impl.NearEvent, nears []impl.Near, at int) {
	t.Helper()
	listed, described := false, false
	for i := at; i >= 0 && nears[i].State != impl.NearDown; i-- {
		listed = listed || described && events[i].Kind == 1
		described = described || events[i].Kind == 2 && events[i].N >= 0
	}
	if !listed || !described {
		t.Fatalf("%v make an adjacency full at %d without a greeting that lists and a description after it", events, at)
	}
}

func TestFullNeedsGreetingAndDescription(t *testing.T) {
	random := rand.New(rand.NewSource(67))
	count := 0
	for range 3000 {
		events := randomEvents(random, 60)
		var nears []impl.Near
		for i := range events {
			n, _ := impl.PlayNear(events[:i+1])
			nears = append(nears, n)
		}
		for _, at := range impl.FullTimes(events) {
			checkWayUp(t, events, nears, at)
			count++
		}
	}
	if count < 1000 {
		t.Errorf("only %d adjacencies became full", count)
	}
}

func TestNoFullAdjacencyWithoutThem(t *testing.T) {
	random := rand.New(rand.NewSource(68))
	for _, kind := range []int{1, 2} {
		for range 1000 {
			events := randomEvents(random, 300)
			rest := slices.DeleteFunc(slices.Clone(events), func(e impl.NearEvent) bool { return e.Kind == kind })
			if got := impl.FullTimes(rest); len(got) != 0 {
				t.Fatalf("without events of Kind %d, FullTimes(%v) is %v", kind, rest, got)
			}
		}
	}
}

func TestSilentNeighborIsDown(t *testing.T) {
	random := rand.New(rand.NewSource(69))
	downs, others := 0, 0
	for range 3000 {
		events := randomEvents(random, random.Intn(100))
		n, _ := impl.PlayNear(events)
		for silence := range 10 {
			now := n.Last + silence
			quiet := []impl.NearEvent{ev(2, now, 3), ev(3, now), ev(4, now)}
			last, _ := impl.PlayNear(append(slices.Clone(events), quiet...))
			if last.State != impl.NearDown && silence >= impl.DeadAfter {
				t.Fatalf("%v without a greeting for %d after %v", last, silence, events)
			}
			if last.State == impl.NearDown && n.State != impl.NearDown && silence < impl.DeadAfter {
				t.Fatalf("%v, although there was a greeting %d before, after %v", last, silence, events)
			}
			if n.State == impl.NearDown {
				downs++
			} else {
				others++
			}
		}
	}
	if downs < 1000 || others < 1000 {
		t.Errorf("%d were down and %d were not", downs, others)
	}
}

// firstDeath tries each time from Last on.
func firstDeath(n impl.Near) int {
	for now := n.Last; now <= min(n.Last+20, impl.MaxTime); now++ {
		if _, result := impl.StepNear(n, ev(4, now)); result == 1 {
			return now
		}
	}
	return -1
}

func TestDeadAt(t *testing.T) {
	for _, last := range append(lasts(), 2, 3, 999992, 999994, 999998) {
		for _, n := range goodNears(last) {
			want := last + 4
			if n.State == impl.NearDown || last > 999996 {
				want = -1
			}
			if got := impl.DeadAt(n); got != want || got != firstDeath(n) {
				t.Errorf("DeadAt(%v) is %d and not %d, and the first time is %d", n, got, want, firstDeath(n))
			}
			if want != -1 {
				checkStep(t, n, ev(4, want-1), n, 0)
				checkStep(t, n, ev(4, want), near(0, last, 0), 1)
			}
		}
	}
	for _, n := range badNears() {
		if got := impl.DeadAt(n); got != -1 {
			t.Errorf("DeadAt(%v) is %d", n, got)
		}
	}
}

// playLists are the results of chapter 7 that are slices.
func playLists(events []impl.NearEvent) [][]int {
	_, a := impl.PlayNear(events)
	_, b := impl.PlayNear(events)
	impl.Changes(events)
	return [][]int{a, b, impl.FullTimes(events), impl.FullTimes(events)}
}

func TestPlaysAreNewMemory(t *testing.T) {
	random := rand.New(rand.NewSource(70))
	var list [][]impl.NearEvent
	for _, c := range playCases() {
		list = append(list, c.events)
	}
	for _, n := range []int{1, 50, 299, 300, 301} {
		list = append(list, randomEvents(random, n))
	}
	for _, events := range list {
		// The events lie in the middle of an array, so that a write beside them shows too.
		array := slices.Repeat([]impl.NearEvent{ev(77, 77, 77)}, len(events)+6)
		copy(array[2:], events)
		whole := slices.Clone(array)
		lists := playLists(array[2 : 2+len(events)])
		if !slices.Equal(array, whole) {
			t.Fatalf("the argument %v was changed", events)
		}
		for i, results := range lists {
			fill(results, -7-i)
		}
		for i, results := range lists {
			if !filled(results, -7-i) {
				t.Fatalf("results for %v share memory with each other", events)
			}
		}
		if !equalLists(playLists(array[2:2+len(events)]), playLists(events)) {
			t.Fatalf("results for %v depend on what was done with earlier ones", events)
		}
	}
}
