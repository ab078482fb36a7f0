package tests

import (
	"math"
	"math/big"
	"math/rand"
	"runtime"
	"slices"
	"sync"
	"testing"

	"loop.example/g00681/impl"
)

const (
	// wrap is the Value that a counter of 32 bits never reaches.
	wrap = 1 << 32
	// lastSecond is the greatest Time.
	lastSecond = 1000000000
)

// reading lists Time, Up and Value.
func reading(time, up, value int) impl.Sample {
	return impl.Sample{Time: time, Up: up, Value: value}
}

// steady lists the Time and the Value of each sample of a device that runs since the time 0.
func steady(numbers ...int) []impl.Sample {
	var s []impl.Sample
	for i := 0; i < len(numbers); i += 2 {
		s = append(s, reading(numbers[i], numbers[i], numbers[i+1]))
	}
	return s
}

// ticking has a sample at each time from 0 on, at each of which the Value is greater by that much.
func ticking(samples, by int) []impl.Sample {
	var s []impl.Sample
	for i := range samples {
		s = append(s, reading(i, i, i*by%wrap))
	}
	return s
}

// sharedSeries is the one of the given test: it wraps once and restarts once.
func sharedSeries() []impl.Sample {
	return []impl.Sample{reading(10, 10, 4294967290), reading(20, 20, 4), reading(40, 5, 7)}
}

// rebooted looks at when the device started, where the program looks at how long ago that was.
func rebooted(a, b impl.Sample) bool {
	return b.Time-b.Up > a.Time || b.Up < a.Up
}

// gained is the model of Delta. It subtracts as the counter itself does, with 32 bits.
func gained(a, b impl.Sample) int {
	if rebooted(a, b) {
		return b.Value
	}
	return int(uint32(b.Value) - uint32(a.Value))
}

// sums returns the total of a series and the number of restarts.
func sums(s []impl.Sample) (total, restarts int) {
	for i := len(s) - 1; i > 0; i-- {
		total += gained(s[i-1], s[i])
		if rebooted(s[i-1], s[i]) {
			restarts++
		}
	}
	return total, restarts
}

func rated(s []impl.Sample, from, to int) int {
	s = slices.DeleteFunc(slices.Clone(s), func(x impl.Sample) bool { return x.Time < from || x.Time > to })
	if len(s) < 2 {
		return 0
	}
	total, _ := sums(s)
	rate := big.NewInt(int64(total))
	rate.Mul(rate, big.NewInt(1000))
	return int(rate.Quo(rate, big.NewInt(int64(s[len(s)-1].Time-s[0].Time))).Int64())
}

// thinned looks for the next sample to take, where the program asks of each one whether it is taken.
func thinned(s []impl.Sample, every int) []impl.Sample {
	var taken []impl.Sample
	for at := 0; len(s) > 0; {
		taken = append(taken, s[at])
		next := slices.IndexFunc(s, func(x impl.Sample) bool { return x.Time >= s[at].Time+every })
		switch {
		case at == len(s)-1:
			return taken
		case next == -1:
			return append(taken, s[len(s)-1])
		}
		at = next
	}
	return taken
}

func gapsIn(s []impl.Sample, most int) []int {
	var gaps []int
	for i := range s {
		if i > 0 && s[i].Time-s[i-1].Time > most {
			gaps = append(gaps, i)
		}
	}
	return gaps
}

func busiest(s []impl.Sample) int {
	found, best := -1, big.NewRat(-1, 1)
	for i := 1; i < len(s); i++ {
		rate := big.NewRat(int64(gained(s[i-1], s[i])), int64(s[i].Time-s[i-1].Time))
		if rate.Cmp(best) > 0 {
			found, best = i, rate
		}
	}
	return found
}

// someTimes are the Times of the series, those beside them and those far away from them.
func someTimes(s []impl.Sample) []int {
	times := []int{math.MinInt, -1, 0, lastSecond, lastSecond + 1, math.MaxInt}
	for i := 0; i < len(s); i += 1 + len(s)/5 {
		times = append(times, s[i].Time-1, s[i].Time, s[i].Time+1)
	}
	return times
}

// someSpans are the times between samples of the series, and those beside them.
func someSpans(s []impl.Sample) []int {
	spans := []int{1, 2, lastSecond - 1, lastSecond}
	for i := 1; i < len(s); i += 1 + len(s)/10 {
		for _, span := range []int{s[i].Time - s[i-1].Time, s[i].Time - s[0].Time} {
			spans = append(spans, span-1, span, span+1)
		}
	}
	return spans
}

func checkThin(t *testing.T, s []impl.Sample, every int, want []impl.Sample) {
	t.Helper()
	if got, ok := impl.Thin(s, every); !ok || !slices.Equal(got, want) {
		t.Fatalf("Thin(%v, %d) is %v, %v and not %v", s, every, got, ok, want)
	}
}

func checkNotThin(t *testing.T, s []impl.Sample, every int) {
	t.Helper()
	if got, ok := impl.Thin(s, every); ok || len(got) != 0 {
		t.Fatalf("Thin(%v, %d) is %v, %v", s, every, got, ok)
	}
}

func checkRate(t *testing.T, s []impl.Sample, from, to, want int) {
	t.Helper()
	if got := impl.RateOf(s, from, to); got != want {
		t.Fatalf("RateOf(%v, %d, %d) is %d and not %d", s, from, to, got, want)
	}
}

func checkGaps(t *testing.T, s []impl.Sample, most int, want []int) {
	t.Helper()
	if got := impl.Gaps(s, most); !slices.Equal(got, want) {
		t.Fatalf("Gaps(%v, %d) is %v and not %v", s, most, got, want)
	}
}

func checkSums(t *testing.T, s []impl.Sample, total, restarts int) {
	t.Helper()
	if got := impl.TotalOf(s); got != total {
		t.Fatalf("TotalOf(%v) is %d and not %d", s, got, total)
	}
	if got := impl.Restarts(s); got != restarts {
		t.Fatalf("Restarts(%v) is %d and not %d", s, got, restarts)
	}
}

func checkDelta(t *testing.T, a, b impl.Sample, want int) {
	t.Helper()
	if got := impl.Delta(a, b); got != want {
		t.Fatalf("Delta(%v, %v) is %d and not %d", a, b, got, want)
	}
}

// checkSeries holds all functions against the model.
func checkSeries(t *testing.T, s []impl.Sample) {
	t.Helper()
	if !impl.SeriesOk(s) {
		t.Fatalf("%v is no series", s)
	}
	total, restarts := sums(s)
	checkSums(t, s, total, restarts)
	if got, want := impl.Busiest(s), busiest(s); got != want {
		t.Fatalf("Busiest(%v) is %d and not %d", s, got, want)
	}
	for i := 1; i < len(s); i++ {
		checkDelta(t, s[i-1], s[i], gained(s[i-1], s[i]))
		checkDelta(t, s[i/2], s[i], gained(s[i/2], s[i]))
		checkDelta(t, s[i], s[i-1], -1)
		checkDelta(t, s[i], s[i], -1)
	}
	for _, from := range someTimes(s) {
		for _, to := range someTimes(s) {
			checkRate(t, s, from, to, rated(s, from, to))
		}
	}
	for _, span := range someSpans(s) {
		checkGaps(t, s, span, gapsIn(s, span))
		if span > 0 && span <= lastSecond {
			checkThin(t, s, span, thinned(s, span))
		} else {
			checkNotThin(t, s, span)
		}
	}
}

type badSeries struct {
	why string
	s   []impl.Sample
}

func badSamples() []badSeries {
	return []badSeries{
		{"a Time just below", []impl.Sample{reading(-1, 0, 5)}},
		{"a Time just below, and as much Up", []impl.Sample{reading(-1, -1, 5)}},
		{"a Time just above", []impl.Sample{reading(lastSecond+1, 5, 5)}},
		{"a Time just above, and as much Up", []impl.Sample{reading(lastSecond+1, lastSecond+1, 5)}},
		{"a Time far below", []impl.Sample{reading(math.MinInt, math.MinInt, 5)}},
		{"a Time far above", []impl.Sample{reading(math.MaxInt, 5, 5)}},
		{"an Up just below", []impl.Sample{reading(150, -1, 5)}},
		{"an Up just above", []impl.Sample{reading(150, 151, 5)}},
		{"an Up just above, at the time 0", []impl.Sample{reading(0, 1, 5)}},
		{"an Up just above, at the greatest Time", []impl.Sample{reading(lastSecond, lastSecond+1, 5)}},
		{"an Up far below", []impl.Sample{reading(150, math.MinInt, 5)}},
		{"an Up far above", []impl.Sample{reading(150, math.MaxInt, 5)}},
		{"a Value just below", []impl.Sample{reading(150, 150, -1)}},
		{"a Value just above", []impl.Sample{reading(150, 150, wrap)}},
		{"a Value just above, of a device that has just started", []impl.Sample{reading(150, 0, wrap)}},
		{"a Value far below", []impl.Sample{reading(150, 150, math.MinInt)}},
		{"a Value far above", []impl.Sample{reading(150, 150, math.MaxInt)}},
	}
}

// badLists have each bad sample alone and among good ones, in the order of their Times, and good
// samples of which there are too many or the order is wrong.
func badLists() []badSeries {
	var lists []badSeries
	for _, bad := range badSamples() {
		x := bad.s[0]
		lists = append(lists, bad, badSeries{bad.why + ", twice", []impl.Sample{x, x}})
		for _, good := range [][]impl.Sample{steady(100, 1), steady(200, 2), steady(100, 1, 200, 2), steady(0, 1, 100, 1, 200, 2, 300, 9)} {
			s := append(slices.Clone(good), x)
			slices.SortStableFunc(s, func(a, b impl.Sample) int { return big.NewInt(int64(a.Time)).Cmp(big.NewInt(int64(b.Time))) })
			lists = append(lists, badSeries{bad.why + ", among others", s})
		}
	}
	return append(lists, []badSeries{
		{"equal samples", steady(10, 5, 10, 5)},
		{"equal Times", steady(10, 5, 10, 6)},
		{"equal Times, at 0", steady(0, 5, 0, 6)},
		{"equal Times, at the end of time", steady(lastSecond, 5, lastSecond, 6)},
		{"a Time that falls", steady(10, 5, 9, 6)},
		{"a Time that falls to 0", steady(lastSecond, 5, 0, 6)},
		{"equal Times, the first two", steady(10, 5, 10, 6, 20, 7, 30, 8)},
		{"equal Times, the middle two", steady(10, 5, 20, 6, 20, 7, 30, 8)},
		{"equal Times, the last two", steady(10, 5, 20, 6, 30, 7, 30, 8)},
		{"a Time that falls, first", steady(20, 5, 10, 6, 30, 7, 40, 8)},
		{"a Time that falls, in the middle", steady(10, 5, 30, 6, 20, 7, 40, 8)},
		{"a Time that falls, last", steady(10, 5, 20, 6, 30, 7, 29, 8)},
		{"a Time that returns", steady(10, 5, 20, 6, 10, 5)},
		{"Times that all fall", steady(40, 5, 30, 6, 20, 7, 10, 8)},
		{"one sample more than allowed", ticking(121, 3)},
		{"many more than allowed", ticking(100000, 3)},
		{"one sample more than allowed, all of them bad", make([]impl.Sample, 121)},
	}...)
}

func TestWhatIsNoSeries(t *testing.T) {
	for _, bad := range badLists() {
		s := bad.s
		if impl.SeriesOk(s) {
			t.Errorf("%s: %v is a series", bad.why, s)
		}
		checkSums(t, s, -1, -1)
		if got := impl.Busiest(s); got != -1 {
			t.Errorf("%s: Busiest(%v) is %d", bad.why, s, got)
		}
		// None of the samples may be within, or only some of them, or only good ones.
		for _, from := range []int{math.MinInt, 0, 100, 150, 400, math.MaxInt} {
			for _, to := range []int{math.MinInt, -1, 0, 100, 200, 300, lastSecond, math.MaxInt} {
				checkRate(t, s, from, to, -1)
			}
		}
		for _, every := range []int{1, 5, lastSecond, 0, -1, lastSecond + 1} {
			checkNotThin(t, s, every)
		}
		for _, most := range []int{math.MinInt, -1, 0, 1, 5, math.MaxInt} {
			checkGaps(t, s, most, nil)
		}
		if len(s) == 2 {
			checkDelta(t, s[0], s[1], -1)
		}
	}
}

func TestDeltaOfNoPair(t *testing.T) {
	for _, bad := range badSamples() {
		for _, good := range []impl.Sample{reading(0, 0, 5), reading(100, 50, 5), reading(200, 0, 5), reading(lastSecond, 0, wrap-1)} {
			checkDelta(t, bad.s[0], good, -1)
			checkDelta(t, good, bad.s[0], -1)
		}
		for _, other := range badSamples() {
			checkDelta(t, bad.s[0], other.s[0], -1)
		}
	}
}

func TestSeriesAtTheirBounds(t *testing.T) {
	for _, s := range [][]impl.Sample{
		nil,
		{},
		{reading(0, 0, 0)},
		{reading(0, 0, wrap-1)},
		{reading(lastSecond, 0, 0)},
		{reading(lastSecond, lastSecond, 0)},
		{reading(lastSecond, lastSecond, wrap-1)},
		{reading(150, 0, 5)},
		{reading(150, 150, 5)},
		{reading(0, 0, 0), reading(1, 0, 0)},
		{reading(0, 0, 0), reading(1, 1, wrap-1), reading(2, 2, 0)},
		{reading(0, 0, 0), reading(lastSecond, lastSecond, wrap-1)},
		{reading(lastSecond-1, 0, 0), reading(lastSecond, 0, wrap-1)},
		ticking(119, 7),
		ticking(120, 7),
		ticking(120, wrap-1),
	} {
		checkSeries(t, s)
	}
}

func TestSeriesOfNoneAndOne(t *testing.T) {
	for _, s := range [][]impl.Sample{nil, {}, steady(0, 0), steady(7, wrap-1), {reading(9, 0, 5)}, {reading(lastSecond, 3, 5)}} {
		if !impl.SeriesOk(s) || impl.Busiest(s) != -1 {
			t.Errorf("SeriesOk(%v) is %v, and Busiest is %d", s, impl.SeriesOk(s), impl.Busiest(s))
		}
		checkSums(t, s, 0, 0)
		for _, n := range []int{math.MinInt, -1, 0, 1, 7, 9, lastSecond, math.MaxInt} {
			checkRate(t, s, n, lastSecond, 0)
			checkRate(t, s, 0, n, 0)
			checkGaps(t, s, n, nil)
		}
		for _, every := range []int{1, 7, lastSecond} {
			checkThin(t, s, every, s)
		}
		for _, every := range []int{math.MinInt, -1, 0, lastSecond + 1, math.MaxInt} {
			checkNotThin(t, s, every)
		}
	}
}

func TestDeltaCases(t *testing.T) {
	cases := []struct {
		why  string
		a, b impl.Sample
		want int
	}{
		{"equal values", reading(10, 10, 5), reading(20, 20, 5), 0},
		{"equal values 0", reading(10, 10, 0), reading(20, 20, 0), 0},
		{"equal values Wrap-1", reading(10, 10, wrap-1), reading(20, 20, wrap-1), 0},
		{"one more", reading(10, 10, 5), reading(20, 20, 6), 1},
		{"as much as there is", reading(10, 10, 0), reading(20, 20, wrap-1), wrap - 1},
		{"beyond 31 bits", reading(10, 10, 5), reading(20, 20, 3000000000), 2999999995},
		{"wraps to 0", reading(10, 10, wrap-1), reading(20, 20, 0), 1},
		{"wraps to 1", reading(10, 10, wrap-1), reading(20, 20, 1), 2},
		{"wraps to just below the old value", reading(10, 10, 5), reading(20, 20, 4), wrap - 1},
		{"wraps to just below the old value, 0", reading(10, 10, 1), reading(20, 20, 0), wrap - 1},
		{"wraps to just below the old value, Wrap-1", reading(10, 10, wrap-1), reading(20, 20, wrap-2), wrap - 1},
		{"wraps from the middle", reading(10, 10, 1<<31), reading(20, 20, 0), 1 << 31},
		{"Up is 0", reading(10, 10, 100), reading(20, 0, 7), 7},
		{"Up is 0, from Up 0", reading(10, 0, 100), reading(20, 0, 7), 7},
		{"Up is 0, a second later", reading(10, 0, 100), reading(11, 0, 7), 7},
		{"Up is 0, and a greater value", reading(10, 10, 7), reading(20, 0, 100), 100},
		{"Up is 0, and an equal value", reading(10, 10, 100), reading(20, 0, 100), 100},
		{"Up is 0, and the value 0", reading(10, 10, 100), reading(20, 0, 0), 0},
		{"Up is 0, and the value Wrap-1", reading(10, 10, wrap-1), reading(20, 0, wrap-1), wrap - 1},
		{"Up is just below the time between", reading(10, 0, 100), reading(20, 9, 7), 7},
		{"Up is just below the time between, and a greater value", reading(10, 0, 7), reading(20, 9, 100), 100},
		{"Up is the time between", reading(10, 0, 100), reading(20, 10, 107), 7},
		{"Up is the time between, and a smaller value", reading(10, 0, 100), reading(20, 10, 7), wrap - 93},
		{"Up is just above the time between", reading(10, 0, 100), reading(20, 11, 107), 7},
		{"Up is the time between and just below a.Up", reading(10, 8, 100), reading(17, 7, 107), 107},
		{"Up is just below the time between and just above a.Up", reading(10, 8, 100), reading(20, 9, 107), 107},
		{"Up is just below a.Up", reading(100, 50, 100), reading(110, 49, 107), 107},
		{"Up is just below a.Up, and a smaller value", reading(100, 50, 100), reading(110, 49, 7), 7},
		{"Up is a.Up", reading(100, 50, 100), reading(110, 50, 107), 7},
		{"Up is a.Up, and a smaller value", reading(100, 50, 100), reading(110, 50, 7), wrap - 93},
		{"Up is a.Up and the time between", reading(10, 10, 100), reading(20, 10, 107), 7},
		{"all bounds", reading(0, 0, wrap-1), reading(lastSecond, lastSecond, 0), 1},
		{"all bounds, just started", reading(0, 0, wrap-1), reading(lastSecond, lastSecond-1, wrap-1), wrap - 1},
		{"no pair, at equal Times", reading(10, 10, 5), reading(10, 10, 6), -1},
		{"no pair, at falling Times", reading(20, 20, 5), reading(10, 10, 6), -1},
		{"no pair, at falling Times by one", reading(20, 20, 5), reading(19, 19, 6), -1},
		{"no pair, just started", reading(10, 10, 5), reading(10, 0, 6), -1},
	}
	for _, c := range cases {
		if got := impl.Delta(c.a, c.b); got != c.want {
			t.Errorf("%s: Delta(%v, %v) is %d and not %d", c.why, c.a, c.b, got, c.want)
		}
		if c.want != -1 {
			checkSums(t, []impl.Sample{c.a, c.b}, c.want, map[bool]int{true: 1}[rebooted(c.a, c.b)])
		}
	}
}

func TestSumsCases(t *testing.T) {
	cases := []struct {
		why             string
		s               []impl.Sample
		total, restarts int
	}{
		{"no pair restarts", steady(0, 5, 10, 8, 11, 8, 30, 100), 95, 0},
		{"no pair restarts, of a device that started later", []impl.Sample{reading(100, 0, 5), reading(110, 10, 8), reading(120, 20, 9)}, 4, 0},
		{"the last pair restarts", sharedSeries(), 17, 1},
		{"the first pair restarts", []impl.Sample{reading(10, 10, 9), reading(20, 3, 4), reading(40, 23, 7)}, 7, 1},
		{"some pairs restart", []impl.Sample{reading(10, 10, 9), reading(20, 3, 4), reading(40, 23, 7), reading(50, 1, 2), reading(60, 11, 2), reading(70, 0, 0)}, 9, 3},
		{"all pairs restart, at once", []impl.Sample{reading(10, 10, 9), reading(20, 0, 4), reading(40, 0, 7), reading(50, 0, 1)}, 12, 3},
		{"all pairs restart, as Up falls", []impl.Sample{reading(1000, 900, 9), reading(1010, 800, 8), reading(1020, 700, 7), reading(1030, 699, 6)}, 21, 3},
		{"all pairs restart, as Up is too little", []impl.Sample{reading(10, 0, 9), reading(20, 9, 10), reading(40, 19, 11), reading(90, 49, 13)}, 34, 3},
		{"the first sample does not restart", []impl.Sample{reading(10, 0, 9), reading(20, 10, 10)}, 1, 0},
		{"one wrap", steady(0, wrap-1, 10, 0), 1, 0},
		{"two wraps", steady(0, wrap-5, 10, 5, 20, 4), 10 + wrap - 1, 0},
		{"as many wraps as there are pairs", ticking(120, wrap-1), 119 * (wrap - 1), 0},
		{"a wrap and then a restart", []impl.Sample{reading(10, 10, wrap-6), reading(20, 20, 4), reading(40, 5, 7)}, 17, 1},
		{"a restart and then a wrap", []impl.Sample{reading(10, 10, 50), reading(20, 5, wrap-6), reading(40, 25, 4)}, wrap - 6 + 10, 1},
		{"wraps and restarts in turn", []impl.Sample{reading(10, 10, 5), reading(20, 20, 4), reading(30, 0, 3), reading(40, 10, 2), reading(50, 9, 1), reading(60, 19, 0)},
			3*(wrap-1) + 3 + 1, 2},
		{"Values that fall, at a restart and without one", []impl.Sample{reading(10, 10, 9), reading(20, 9, 8), reading(30, 19, 7)}, 8 + wrap - 1, 1},
		{"nothing is counted", steady(0, 5, 10, 5, 20, 5), 0, 0},
		{"nothing is counted but what follows a restart", []impl.Sample{reading(10, 10, 5), reading(20, 0, 5), reading(30, 10, 5)}, 5, 1},
	}
	for _, c := range cases {
		total, restarts := impl.TotalOf(c.s), impl.Restarts(c.s)
		if total != c.total || restarts != c.restarts {
			t.Errorf("%s: of %v, the total is %d and not %d, with %d and not %d restarts", c.why, c.s, total, c.total, restarts, c.restarts)
		}
		checkSeries(t, c.s)
	}
}

func TestRateOfCases(t *testing.T) {
	s := sharedSeries()
	cases := []struct {
		why      string
		s        []impl.Sample
		from, to int
		want     int
	}{
		{"all samples, with a remainder", s, 0, 100, 566},
		{"at the Times of the first and the last", s, 10, 40, 566},
		{"as far as numbers go", s, math.MinInt, math.MaxInt, 566},
		{"from the Time of a sample", s, 20, 100, 350},
		{"from just after the Time of a sample", s, 11, 100, 350},
		{"from just after the Time of the one before the last", s, 21, 100, 0},
		{"from between samples", s, 15, 100, 350},
		{"to the Time of a sample", s, 0, 20, 1000},
		{"to just before the Time of a sample", s, 0, 39, 1000},
		{"to just before the Time of the second", s, 0, 19, 0},
		{"to between samples", s, 10, 30, 1000},
		{"from and to between samples", s, 15, 30, 0},
		{"from and to between the same samples", s, 11, 19, 0},
		{"over a restart alone", s, 20, 40, 350},
		{"one sample", s, 20, 20, 0},
		{"the first sample", s, 0, 10, 0},
		{"the last sample", s, 40, 100, 0},
		{"before all samples", s, -5, 9, 0},
		{"after all samples", s, 41, 100, 0},
		{"from after to", s, 40, 10, 0},
		{"from after to, by one", s, 21, 20, 0},
		{"from after to, far away", s, math.MaxInt, math.MinInt, 0},
		{"no samples", nil, 0, 100, 0},
		{"without a remainder", steady(0, 0, 5, 10), 0, 5, 2000},
		{"a third", steady(0, 0, 3, 1), 0, 3, 333},
		{"two thirds", steady(0, 0, 3, 2), 0, 3, 666},
		{"just below one", steady(0, 0, 1001, 1), 0, 1001, 0},
		{"exactly one", steady(0, 0, 1000, 1), 0, 1000, 1},
		{"nothing is counted", steady(0, 5, 3, 5), 0, 3, 0},
		{"the sum is divided, and not each increase", steady(0, 0, 3, 1, 6, 2, 9, 3), 0, 9, 333},
		{"the time from the first to the last and not to", steady(5, 0, 10, 10), 0, 1000, 2000},
		{"over a wrap", steady(0, wrap-1, 4, 2), 0, 4, 750},
		{"the greatest rate", ticking(120, wrap-1), 0, 119, 1000 * (wrap - 1)},
		{"the longest time", steady(0, 0, lastSecond, wrap-1), 0, lastSecond, 4294},
		{"the greatest Time", steady(lastSecond-1, 0, lastSecond, 7), lastSecond - 1, lastSecond, 7000},
		{"the time 0", steady(0, 0, 1, 7), 0, 1, 7000},
		{"a restart at the first sample does not count", []impl.Sample{reading(10, 10, 5), reading(20, 0, 100), reading(30, 10, 101)}, 20, 30, 100},
	}
	for _, c := range cases {
		if got := impl.RateOf(c.s, c.from, c.to); got != c.want {
			t.Errorf("%s: RateOf(%v, %d, %d) is %d and not %d", c.why, c.s, c.from, c.to, got, c.want)
		}
		checkSeries(t, c.s)
	}
}

func TestThinCases(t *testing.T) {
	// The Values tell the samples apart.
	s := steady(0, 1, 10, 2, 20, 3, 25, 4, 40, 5)
	last := steady(lastSecond-3, 1, lastSecond-1, 2, lastSecond, 3)
	cases := []struct {
		why   string
		s     []impl.Sample
		every int
		want  []impl.Sample
	}{
		{"every 1 takes all", s, 1, s},
		{"less than any time between", s, 4, s},
		{"the shortest time between", s, 5, s},
		{"the shortest time between and one more", s, 6, steady(0, 1, 10, 2, 20, 3, 40, 5)},
		{"the time between exactly", s, 10, steady(0, 1, 10, 2, 20, 3, 40, 5)},
		{"the time between and one more", s, 11, steady(0, 1, 20, 3, 40, 5)},
		{"the time over two, and the last one is the last one taken", s, 20, steady(0, 1, 20, 3, 40, 5)},
		{"the time over two and one more", s, 21, steady(0, 1, 25, 4, 40, 5)},
		{"the time over three and one more", s, 26, steady(0, 1, 40, 5)},
		{"the whole time", s, 40, steady(0, 1, 40, 5)},
		{"the whole time and one more", s, 41, steady(0, 1, 40, 5)},
		{"as long as allowed", s, lastSecond, steady(0, 1, 40, 5)},
		{"the last one soon after the last one taken", steady(0, 1, 10, 2, 11, 3), 10, steady(0, 1, 10, 2, 11, 3)},
		{"the last one, just too soon after the first", steady(0, 1, 9, 2), 10, steady(0, 1, 9, 2)},
		{"two samples", steady(0, 1, 10, 2), 10, steady(0, 1, 10, 2)},
		{"two samples that differ in Time alone", steady(0, 1, 10, 1), 20, steady(0, 1, 10, 1)},
		{"samples that differ in Time alone", steady(0, 1, 10, 1, 20, 1, 30, 1), 20, steady(0, 1, 20, 1, 30, 1)},
		{"samples that look like the last one", []impl.Sample{reading(5, 5, 1), reading(6, 5, 1), reading(7, 5, 1), reading(8, 5, 1)}, 3, []impl.Sample{reading(5, 5, 1), reading(8, 5, 1)}},
		{"from the first one and not from 0", steady(7, 1, 10, 2, 16, 3, 17, 4, 18, 5), 10, steady(7, 1, 17, 4, 18, 5)},
		{"the longest time between", steady(0, 1, 1, 2, lastSecond, 3), lastSecond, steady(0, 1, lastSecond, 3)},
		{"one less than the longest time between", steady(0, 1, lastSecond-1, 2, lastSecond, 3), lastSecond - 1, steady(0, 1, lastSecond-1, 2, lastSecond, 3)},
		{"the longest time between, and one sample just before", steady(0, 1, lastSecond-1, 2, lastSecond, 3), lastSecond, steady(0, 1, lastSecond, 3)},
		{"at the end of time", last, 2, last},
		{"over a restart", sharedSeries(), 25, []impl.Sample{reading(10, 10, 4294967290), reading(40, 5, 7)}},
		{"as many samples as allowed", ticking(120, 3), 1, ticking(120, 3)},
		{"a sample each second, every third", ticking(10, 3), 3, steady(0, 0, 3, 9, 6, 18, 9, 27)},
		{"a sample each second, every fourth", ticking(10, 3), 4, steady(0, 0, 4, 12, 8, 24, 9, 27)},
	}
	for _, c := range cases {
		if got, ok := impl.Thin(c.s, c.every); !ok || !slices.Equal(got, c.want) {
			t.Errorf("%s: Thin(%v, %d) is %v, %v and not %v", c.why, c.s, c.every, got, ok, c.want)
		}
		for _, every := range []int{math.MinInt, -lastSecond, -1, 0, lastSecond + 1, math.MaxInt} {
			checkNotThin(t, c.s, every)
		}
		checkSeries(t, c.s)
	}
}

func TestGapsCases(t *testing.T) {
	s := steady(0, 1, 10, 2, 20, 3, 25, 4, 40, 5)
	cases := []struct {
		why  string
		s    []impl.Sample
		most int
		want []int
	}{
		{"the longest time between", s, 15, nil},
		{"one less than the longest time between", s, 14, []int{4}},
		{"another time between", s, 10, []int{4}},
		{"one less than another time between", s, 9, []int{1, 2, 4}},
		{"the shortest time between", s, 5, []int{1, 2, 4}},
		{"one less than the shortest time between", s, 4, []int{1, 2, 3, 4}},
		{"zero", s, 0, []int{1, 2, 3, 4}},
		{"just below zero", s, -1, []int{1, 2, 3, 4}},
		{"as low as numbers go", s, math.MinInt, []int{1, 2, 3, 4}},
		{"as high as numbers go", s, math.MaxInt, nil},
		{"one second, one allowed", steady(3, 0, 4, 0), 1, nil},
		{"one second, none allowed", steady(3, 0, 4, 0), 0, []int{1}},
		{"the longest time", steady(0, 0, lastSecond, 0), lastSecond, nil},
		{"one less than the longest time", steady(0, 0, lastSecond, 0), lastSecond - 1, []int{1}},
		{"a restart is no gap", sharedSeries(), 20, nil},
		{"a gap at a restart", sharedSeries(), 19, []int{2}},
		{"no time before the first", steady(lastSecond-1, 0, lastSecond, 0), 5, nil},
	}
	for _, c := range cases {
		if got := impl.Gaps(c.s, c.most); !slices.Equal(got, c.want) {
			t.Errorf("%s: Gaps(%v, %d) is %v and not %v", c.why, c.s, c.most, got, c.want)
		}
		checkSeries(t, c.s)
	}
	for _, most := range []int{0, -1, math.MinInt} {
		if got := impl.Gaps(ticking(120, 3), most); len(got) != 119 || got[0] != 1 || got[118] != 119 {
			t.Errorf("Gaps of 120 samples with %d is %v", most, got)
		}
	}
}

func TestBusiestCases(t *testing.T) {
	// Two increases, the times of which are long, with rates that are closer to each other than floating
	// numbers tell: 4294967295·453001873 exceeds 3891256466·499999999 by 1.
	more, moreTime, less, lessTime := 4294967295, 499999999, 3891256466, 453001873
	if float64(more)/float64(moreTime) != float64(less)/float64(lessTime) || more*lessTime != less*moreTime+1 {
		t.Error("the rates are not as close as they could be")
	}
	cases := []struct {
		why  string
		s    []impl.Sample
		want int
	}{
		{"the given one", sharedSeries(), 1},
		{"two samples", steady(0, 5, 10, 8), 1},
		{"two samples, and nothing is counted", steady(0, 5, 10, 5), 1},
		{"the first", steady(0, 0, 10, 30, 20, 50, 30, 60), 1},
		{"in the middle", steady(0, 0, 10, 10, 20, 40, 30, 60), 2},
		{"the last", steady(0, 0, 10, 10, 20, 30, 30, 60), 3},
		{"not the greatest increase", steady(0, 0, 10, 20, 30, 55), 1},
		{"not the shortest time", steady(0, 0, 10, 20, 11, 21), 1},
		{"a tie", steady(0, 0, 10, 20, 20, 40), 1},
		{"a tie over other times", steady(0, 0, 10, 20, 13, 26, 113, 226), 1},
		{"a tie over other times, the longest first", steady(0, 0, 100, 200, 103, 206, 113, 226), 1},
		{"a tie of the second and the last", steady(0, 0, 10, 10, 20, 40, 30, 50, 40, 80), 2},
		{"a tie of rates that are no whole numbers", steady(0, 0, 3, 1, 9, 3, 12, 4), 1},
		{"a tie of all", ticking(120, 3), 1},
		{"a tie of increases near Wrap", ticking(120, wrap-1), 1},
		{"all increases are 0", steady(0, 5, 10, 5, 11, 5, 50, 5), 1},
		{"all increases but the last are 0", steady(0, 5, 10, 5, 11, 5, lastSecond, 6), 3},
		{"by less than a whole number, later", steady(0, 0, 10, 21, 20, 43), 2},
		{"by less than a whole number, earlier", steady(0, 0, 10, 22, 20, 43), 1},
		{"below one, later", steady(0, 0, 100, 1, 199, 2), 2},
		{"below one, earlier", steady(0, 0, 99, 1, 199, 2), 1},
		{"by less than a thousandth", steady(0, 0, 100000, 1, 199999, 2), 2},
		{"over a wrap", steady(0, 0, 10, wrap-5, 11, wrap-5, 12, 3), 1},
		{"the wrap is the busiest", steady(0, 0, 10, 9, 11, 8), 2},
		{"over a restart", []impl.Sample{reading(10, 10, 4), reading(20, 20, 10), reading(30, 1, 7)}, 2},
		{"a restart is not a wrap", []impl.Sample{reading(10, 10, 4), reading(20, 20, 10), reading(30, 1, 5)}, 1},
		{"long times, the later one by the least", steady(0, 0, lessTime, less, lessTime+moreTime, less+more-wrap), 2},
		{"long times, the earlier one by the least", steady(0, 0, moreTime, more, lessTime+moreTime, less+more-wrap), 1},
		{"the longest time, against the least increase above its rate", steady(0, 0, lastSecond-1, wrap-1, lastSecond, 4), 2},
		{"the longest time, against the greatest increase below its rate", steady(0, 0, lastSecond-1, wrap-1, lastSecond, 3), 1},
		{"the longest time, after the greatest increase below its rate", steady(0, 0, 1, 4, lastSecond, 3), 2},
		{"the longest time, after the greatest increase", steady(0, 0, 1, wrap-1, lastSecond, wrap-2), 1},
		{"the longest time, before the greatest increase", steady(0, 0, lastSecond-1, wrap-1, lastSecond, wrap-2), 2},
		{"half the time each, and a tie", steady(0, 0, lastSecond/2, wrap-1, lastSecond, wrap-2), 1},
		{"half the time each, the later one by one", steady(0, 0, lastSecond/2, wrap-2, lastSecond, wrap-3), 2},
		{"one sample", steady(5, 5), -1},
		{"one sample of a device that has just started", []impl.Sample{reading(5, 0, 5)}, -1},
		{"no sample", nil, -1},
	}
	for _, c := range cases {
		if got := impl.Busiest(c.s); got != c.want {
			t.Errorf("%s: Busiest(%v) is %d and not %d", c.why, c.s, got, c.want)
		}
		checkSeries(t, c.s)
	}
}

// sometimes picks one of the numbers.
func sometimes(random *rand.Rand, numbers ...int) int {
	return numbers[random.Intn(len(numbers))]
}

// randomTimes are so many Times that rise, by little or by much.
func randomTimes(random *rand.Rand, samples int) []int {
	time := sometimes(random, 0, 1, 5000, 10000000)
	most := sometimes(random, 1, 2, 10, 1000, 8000000)
	var times []int
	for range samples {
		times = append(times, time)
		time += 1 + random.Intn(most)
	}
	return times
}

// randomSeries is any series: what it says about restarts need not be consistent.
func randomSeries(random *rand.Rand) []impl.Sample {
	most := sometimes(random, 1, 3, 100, wrap/20, wrap)
	fewUps := sometimes(random, 1, 2, 10)
	var s []impl.Sample
	value := random.Intn(wrap)
	for _, time := range randomTimes(random, sometimes(random, 2, 3, 5, 10, 30, 119, 120)) {
		x := reading(time, time, value)
		if random.Intn(fewUps) == 0 {
			x.Up = min(time, sometimes(random, 0, 1, time/2, time-1, time, random.Intn(time+1)))
			x.Up = max(x.Up, 0)
		}
		if len(s) > 0 && random.Intn(4) == 0 {
			// As much as the time between, or as the device has been up before, or one less or more.
			before := s[len(s)-1]
			x.Up = min(time, max(0, sometimes(random, time-before.Time, before.Up)+random.Intn(3)-1))
		}
		s = append(s, x)
		value = (value + random.Intn(most)) % wrap
	}
	return s
}

func TestSeriesByTheModel(t *testing.T) {
	random := rand.New(rand.NewSource(120))
	none, some, all, wraps, later := 0, 0, 0, 0, 0
	for range 800 {
		s := randomSeries(random)
		checkSeries(t, s)
		switch impl.Restarts(s) {
		case 0:
			none++
		case len(s) - 1:
			all++
		default:
			some++
		}
		for i := 1; i < len(s); i++ {
			if !rebooted(s[i-1], s[i]) && s[i].Value < s[i-1].Value {
				wraps++
			}
		}
		later += min(1, impl.Busiest(s)-1)
	}
	if none < 50 || some < 50 || all < 50 || wraps < 50 || later < 50 {
		t.Errorf("too few: %d series without restarts, %d with some, %d with restarts alone, %d wraps, %d not the busiest at first", none, some, all, wraps, later)
	}
}

// counting is a device without restarts that is read at the times, and counts less than most in between.
// The counts are what it has counted by then, by a counter that does not wrap.
func counting(random *rand.Rand, times []int, most int) (s []impl.Sample, counts []int) {
	// It has been started at the time 0, or at another time before the first reading.
	start := sometimes(random, 0, 0, times[0]/2, times[0])
	count := random.Intn(wrap)
	for _, time := range times {
		s = append(s, reading(time, time-start, count%wrap))
		counts = append(counts, count)
		count += random.Intn(most)
	}
	return s, counts
}

// greatestCount is the most that was counted between two of the remaining samples that follow each other.
func greatestCount(s, remaining []impl.Sample, counts []int) int {
	most, before := 0, counts[0]
	for i, x := range s {
		if slices.Contains(remaining, x) {
			most, before = max(most, counts[i]-before), counts[i]
		}
	}
	return most
}

// TestThinningKeepsTheTotal is the first part of promise 12. Where Wrap or more was counted between
// remaining samples, the total loses multiples of Wrap.
func TestThinningKeepsTheTotal(t *testing.T) {
	random := rand.New(rand.NewSource(121))
	kept, keptOverWraps, lost := 0, 0, 0
	for i := range 5000 {
		times := randomTimes(random, sometimes(random, 1, 2, 3, 10, 40, 120))
		most := sometimes(random, 2, 1000, wrap/100, wrap/10, wrap/2, wrap)
		s, counts := counting(random, times, most)
		total := counts[len(counts)-1] - counts[0]
		checkSums(t, s, total, 0)
		longest := 1 + times[len(times)-1] - times[0]
		every := []int{1, 1 + random.Intn(longest), 1 + random.Intn(longest)/10, longest}[i%4]
		remaining, ok := impl.Thin(s, every)
		if !ok || !impl.SeriesOk(remaining) || remaining[0] != s[0] || remaining[len(remaining)-1] != s[len(s)-1] {
			t.Fatalf("Thin(%v, %d) is %v, %v", s, every, remaining, ok)
		}
		got := impl.TotalOf(remaining)
		switch fits := greatestCount(s, remaining, counts) < wrap; {
		case fits && got != total:
			t.Fatalf("of %v the total is %d, and after Thin with %d it is %d", s, total, every, got)
		case fits && len(remaining) < len(s):
			kept++
			keptOverWraps += min(1, (counts[0]%wrap+total)/wrap)
		case !fits && (got >= total || (total-got)%wrap != 0):
			t.Fatalf("of %v the total is %d, and after Thin with %d it is %d, which does not come from lost wraps", s, total, every, got)
		case !fits:
			lost++
		}
		if impl.Restarts(remaining) != 0 {
			t.Fatalf("%v has no restarts, and after Thin with %d it has %d", s, every, impl.Restarts(remaining))
		}
	}
	if kept < 500 || keptOverWraps < 200 || lost < 200 {
		t.Errorf("only %d totals are kept, %d of them over wraps, and %d are lost", kept, keptOverWraps, lost)
	}
}

func TestThinningAtTheWrap(t *testing.T) {
	for _, first := range []int{0, 1, 5, 1 << 31, wrap - 1} {
		for _, c := range []struct{ counted, kept int }{{wrap - 1, wrap - 1}, {wrap, 0}, {wrap + 1, 1}, {2*wrap - 2, wrap - 2}} {
			s := steady(0, first, 10, (first+c.counted/2)%wrap, 20, (first+c.counted)%wrap)
			checkSums(t, s, c.counted, 0)
			checkThin(t, s, 10, s)
			checkThin(t, s, 20, []impl.Sample{s[0], s[2]})
			checkSums(t, []impl.Sample{s[0], s[2]}, c.kept, 0)
		}
	}
}

// restarting is a device that is started anew before some of the readings, after the reading before. It
// counts from 0 then, and what it counted since the reading before is lost. The gains are what is counted
// before each reading, and still known then.
func restarting(random *rand.Rand, times []int, chance int) (s []impl.Sample, gains []int, starts int) {
	start, value := random.Intn(times[0]+1), random.Intn(wrap)
	for i, time := range times {
		gain := sometimes(random, 0, 1, wrap-1, random.Intn(wrap), random.Intn(1000))
		switch {
		case i == 0:
			gain = 0
		case random.Intn(100) < chance:
			starts++
			start = sometimes(random, time, times[i-1]+1, times[i-1]+1+random.Intn(time-times[i-1]))
			value = 0
		}
		value = (value + gain) % wrap
		s = append(s, reading(time, time-start, value))
		gains = append(gains, gain)
	}
	return s, gains, starts
}

// TestRestartsCountWhatFollowed is the second part of promise 12.
func TestRestartsCountWhatFollowed(t *testing.T) {
	random := rand.New(rand.NewSource(122))
	all := 0
	for i := range 1000 {
		times := randomTimes(random, sometimes(random, 1, 2, 3, 10, 40, 120))
		s, gains, starts := restarting(random, times, []int{0, 5, 50, 100}[i%4])
		total := 0
		for k := 1; k < len(s); k++ {
			checkDelta(t, s[k-1], s[k], gains[k])
			total += gains[k]
		}
		checkSums(t, s, total, starts)
		all += starts
	}
	if all < 1000 {
		t.Errorf("only %d restarts", all)
	}
}

// countResults are the results of all functions of chapter 12, refused calls among them.
type countResults struct {
	lists   [][]int
	samples [][]impl.Sample
}

func countResultsOf(s []impl.Sample) countResults {
	var r countResults
	numbers := []int{impl.Restarts(s), impl.TotalOf(s), impl.Busiest(s)}
	for i := range min(len(s), 5) {
		numbers = append(numbers, impl.Delta(s[0], s[i]), impl.Delta(s[i], s[len(s)-1]), impl.RateOf(s, s[0].Time, s[i].Time), impl.RateOf(s, i, 20+i))
	}
	if impl.SeriesOk(s) {
		numbers = append(numbers, 1)
	}
	for _, n := range []int{-1, 0, 1, 1, 2, 10, 10, 1000, lastSecond, lastSecond + 1} {
		taken, _ := impl.Thin(s, n)
		r.samples = append(r.samples, taken)
		r.lists = append(r.lists, impl.Gaps(s, n))
	}
	r.lists = append(r.lists, numbers)
	return r
}

func (r countResults) equal(q countResults) bool {
	return equalLists(r.lists, q.lists) && slices.EqualFunc(r.samples, q.samples, slices.Equal[[]impl.Sample])
}

// ownMemory overwrites every slice with a value of its own, and reports whether each still holds its
// value afterwards.
func (r countResults) ownMemory() bool {
	for i, list := range r.samples {
		fill(list, reading(-20-i, i, i))
	}
	for i, list := range r.samples {
		if !filled(list, reading(-20-i, i, i)) {
			return false
		}
	}
	return graphResults{lists: r.lists}.ownMemory()
}

// someSeries are some of all that this file knows, with what is not a series.
func someSeries(seed int64, n int) [][]impl.Sample {
	random := rand.New(rand.NewSource(seed))
	lists := [][]impl.Sample{nil, {}, steady(7, 7), sharedSeries(), ticking(120, 3), ticking(121, 3)}
	for range n {
		lists = append(lists, randomSeries(random))
	}
	for _, bad := range badLists() {
		if len(bad.s) < 200 {
			lists = append(lists, bad.s)
		}
	}
	return lists
}

func TestCountsAreNewMemory(t *testing.T) {
	for _, s := range someSeries(123, 40) {
		array, list := padded(s, reading(88, 8, 8))
		whole := slices.Clone(array)
		results := countResultsOf(list)
		if !slices.Equal(array, whole) {
			t.Fatalf("the argument %v was changed", s)
		}
		if !results.ownMemory() {
			t.Fatalf("results for %v share memory with each other", s)
		}
		if !slices.Equal(array, whole) {
			t.Fatalf("a result shares memory with the argument %v", s)
		}
		if !countResultsOf(list).equal(countResultsOf(slices.Clone(s))) {
			t.Fatalf("results for %v depend on what was done with earlier ones", s)
		}
	}
}

// TestCountsKeepNothing: what was found out about one series is not used for another one, even if it
// lies in the same memory.
func TestCountsKeepNothing(t *testing.T) {
	lists := someSeries(124, 40)
	var first []countResults
	for _, s := range lists {
		first = append(first, countResultsOf(s))
	}
	memory := make([]impl.Sample, 200)
	for i := len(lists) - 1; i >= 0; i-- {
		s := memory[:copy(memory, lists[i])]
		if again := countResultsOf(s); !again.equal(first[i]) {
			t.Fatalf("the results for %v are %v and then %v", s, first[i], again)
		}
	}
}

func TestCountsOfAnyNumbers(t *testing.T) {
	numbers := []int{math.MinInt, math.MinInt + 1, -wrap, -1, 0, 1, 10, lastSecond, lastSecond + 1, wrap - 1, wrap, math.MaxInt - 1, math.MaxInt}
	random := rand.New(rand.NewSource(125))
	for range 3000 {
		var s []impl.Sample
		for range 1 + random.Intn(4) {
			s = append(s, reading(sometimes(random, numbers...), sometimes(random, numbers...), sometimes(random, numbers...)))
		}
		n, m := sometimes(random, numbers...), sometimes(random, numbers...)
		if impl.SeriesOk(s) {
			checkSeries(t, s)
			continue
		}
		checkSums(t, s, -1, -1)
		checkRate(t, s, n, m, -1)
		checkNotThin(t, s, n)
		checkGaps(t, s, n, nil)
		countResultsOf(s)
	}
}

// TestSchedulesDoNotMatterForCounts makes the same calls many times, many of them at once, with few
// processors and with many. Among the series are such of which all pairs are the busiest.
func TestSchedulesDoNotMatterForCounts(t *testing.T) {
	defer runtime.GOMAXPROCS(runtime.GOMAXPROCS(0))
	lists := append(someSeries(126, 12), ticking(120, wrap-1), ticking(120, 0), ticking(60, 1))
	for i, s := range lists {
		runtime.GOMAXPROCS([]int{1, 2, 8}[i%3])
		want := countResultsOf(s)
		var callers sync.WaitGroup
		for range 8 {
			callers.Add(1)
			go func() {
				defer callers.Done()
				for range 4 {
					if !countResultsOf(s).equal(want) {
						t.Errorf("the same calls for %v have other results", s)
					}
				}
			}()
		}
		callers.Wait()
	}
}

func TestCountersLeaveNoGoroutine(t *testing.T) {
	before := runtime.NumGoroutine()
	for _, s := range someSeries(127, 40) {
		countResultsOf(s)
	}
	checkGoroutines(t, before)
}
