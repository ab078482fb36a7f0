package tests

import (
	"math"
	"math/rand"
	"runtime"
	"slices"
	"sync"
	"testing"

	"loop.example/g00681/impl"
)

const (
	// longestWait is the greatest For and the greatest Quiet.
	longestWait = 1000
	// endOfTime is the greatest time of an alarm.
	endOfTime = 1000000
)

// rule lists Above, Below, For and Quiet.
func rule(above, below, lasts, quiet int) impl.Rule {
	return impl.Rule{Above: above, Below: below, For: lasts, Quiet: quiet}
}

// alarm lists State, Since and Told.
func alarm(state, since, told int) impl.Alarm {
	return impl.Alarm{State: state, Since: since, Told: told}
}

func within(n, least, greatest int) bool {
	return least <= n && n <= greatest
}

// isRule is the model of RuleOk.
func isRule(r impl.Rule) bool {
	return within(r.Above, r.Below, mostValue) && within(r.Below, 0, mostValue) &&
		within(r.For, 0, longestWait) && within(r.Quiet, 0, longestWait)
}

// isAlarm is the model of AlarmOk.
func isAlarm(a impl.Alarm) bool {
	return within(a.State, 0, 2) && within(a.Since, 0, endOfTime) && within(a.Told, -1, endOfTime)
}

// isProcessed reports whether a step with these arguments may change anything.
func isProcessed(r impl.Rule, a impl.Alarm, now, v int) bool {
	return isRule(r) && isAlarm(a) && within(now, a.Since, endOfTime) && now >= a.Told && within(v, 0, mostValue)
}

// alarmed is the model of StepAlarm, one condition after the other as the specification lists them.
func alarmed(r impl.Rule, a impl.Alarm, now, v int) (impl.Alarm, int) {
	if !isProcessed(r, a, now, v) {
		return a, 0
	}
	before, said := a, 0
	if a.State == 0 && v > r.Above {
		a.State, a.Since = 1, now
	}
	fires := false
	if a.State == 1 {
		if v <= r.Above {
			a.State, a.Since = 0, now
		} else if now-a.Since >= r.For {
			a.State, a.Since, fires = 2, now, true
		}
	}
	if fires && (a.Told == -1 || now-a.Told >= r.Quiet) {
		a.Told, said = now, 1
	}
	if before.State == 2 && v <= r.Below {
		a.State, a.Since = 0, now
		if before.Since == before.Told {
			said = 2
		}
	}
	return a, said
}

// watched is what a rule makes of a list of values.
type watched struct {
	a     impl.Alarm
	said  []int
	spans []int
	first int
}

// problem is a span of a list in which the alarm fires.
type problem struct {
	from, to int
	ended    bool
}

// problemsIn looks for each beginning and then for its end, without steps and states. It is the model of
// WrongSpans, for valid rules.
func problemsIn(r impl.Rule, values []int) []problem {
	var list []problem
	at := 0
	for at < len(values) {
		from := beginningIn(r, values, at)
		if from == len(values) {
			break
		}
		to := from + 1
		for to < len(values) && !(within(values[to], 0, r.Below)) {
			to++
		}
		list = append(list, problem{from, to, to < len(values)})
		at = to + 1
	}
	return list
}

// beginningIn returns the first time, from at on, of a value that has For values before it, none of them
// small, where the first of these is great, or the number of values. A value that is none is neither.
func beginningIn(r impl.Rule, values []int, at int) int {
	great := func(i int) bool { return within(values[i], r.Above+1, mostValue) }
	small := func(i int) bool { return within(values[i], 0, r.Above) }
	for start := at; start < len(values); start++ {
		if !great(start) {
			continue
		}
		for i := start; i < len(values) && !small(i); i++ {
			if i-start >= r.For && great(i) {
				return i
			}
		}
	}
	return len(values)
}

// watch is the model of PlayAlarm, WrongSpans and FirstWrong, for lists that are not too long.
func watch(r impl.Rule, values []int) watched {
	w := watched{a: alarm(0, 0, -1), said: make([]int, len(values)), first: -1}
	for now, v := range values {
		w.a, _ = alarmed(r, w.a, now, v)
	}
	if !isRule(r) {
		return w
	}
	told := math.MinInt / 2
	for _, p := range problemsIn(r, values) {
		w.spans = append(w.spans, p.from, p.to)
		if p.from-told < r.Quiet {
			continue
		}
		told = p.from
		w.said[p.from] = 1
		if p.ended {
			w.said[p.to] = 2
		}
	}
	w.first = slices.Index(w.said, 1)
	return w
}

func checkRule(t *testing.T, r impl.Rule, want bool) {
	t.Helper()
	if got := impl.RuleOk(r); got != want {
		t.Fatalf("RuleOk(%v) is %v", r, got)
	}
}

func checkAlarm(t *testing.T, a impl.Alarm, want bool) {
	t.Helper()
	if got := impl.AlarmOk(a); got != want {
		t.Fatalf("AlarmOk(%v) is %v", a, got)
	}
}

func checkAlarmStep(t *testing.T, r impl.Rule, a impl.Alarm, now, v int, want impl.Alarm, wantSaid int) {
	t.Helper()
	if got, said := impl.StepAlarm(r, a, now, v); got != want || said != wantSaid {
		t.Fatalf("StepAlarm(%v, %v, %d, %d) is %v, %d and not %v, %d", r, a, now, v, got, said, want, wantSaid)
	}
}

// someWhats are the notifications, and numbers that are none.
func someWhats() []int {
	return []int{0, 1, 2, -1, 3, 4, 256, 257, 258, math.MinInt, math.MaxInt}
}

func checkWatched(t *testing.T, r impl.Rule, values []int, want watched) {
	t.Helper()
	if a, said := impl.PlayAlarm(r, values); a != want.a || !slices.Equal(said, want.said) {
		t.Fatalf("PlayAlarm(%v, %v) is %v, %v and not %v, %v", r, values, a, said, want.a, want.said)
	}
	if got := impl.WrongSpans(r, values); !slices.Equal(got, want.spans) {
		t.Fatalf("WrongSpans(%v, %v) is %v and not %v", r, values, got, want.spans)
	}
	if got := impl.FirstWrong(r, values); got != want.first {
		t.Fatalf("FirstWrong(%v, %v) is %d and not %d", r, values, got, want.first)
	}
	for _, what := range someWhats() {
		count := 0
		for _, said := range want.said {
			count += one(said == what)
		}
		if got := impl.CountSaid(r, values, what); got != count {
			t.Fatalf("CountSaid(%v, %v, %d) is %d and not %d", r, values, what, got, count)
		}
	}
}

func TestAlarmConstants(t *testing.T) {
	if said := []int{impl.SayNothing, impl.SayWrong, impl.SayOver}; !slices.Equal(said, []int{0, 1, 2}) {
		t.Errorf("the notifications are %v", said)
	}
}

func TestRuleOk(t *testing.T) {
	for _, r := range []impl.Rule{
		{}, rule(1, 0, 0, 0), rule(1, 1, 0, 0), rule(5, 5, 1, 1), rule(5, 4, 1, 1),
		rule(mostValue, 0, 0, 0), rule(mostValue, mostValue, 0, 0), rule(mostValue, mostValue, longestWait, longestWait),
		rule(0, 0, longestWait, 0), rule(0, 0, 0, longestWait), rule(0, 0, longestWait-1, longestWait-1), rule(0, 0, 1, 1000),
	} {
		checkRule(t, r, true)
	}
	for _, r := range []impl.Rule{
		rule(5, 6, 0, 0), rule(0, 1, 0, 0), rule(mostValue-1, mostValue, 0, 0), rule(0, mostValue, 0, 0),
		rule(-1, 0, 0, 0), rule(-1, -1, 0, 0), rule(0, -1, 0, 0), rule(5, -1, 0, 0), rule(5, math.MinInt, 0, 0),
		rule(mostValue+1, 0, 0, 0), rule(mostValue+1, mostValue, 0, 0), rule(mostValue+1, mostValue+1, 0, 0),
		rule(mostValue, mostValue+1, 0, 0), rule(math.MaxInt, 0, 0, 0), rule(math.MinInt, math.MaxInt, 0, 0),
		rule(5, 4, -1, 0), rule(5, 4, 0, -1), rule(5, 4, -1, -1), rule(5, 4, longestWait+1, 0), rule(5, 4, 0, longestWait+1),
		rule(5, 4, math.MinInt, 0), rule(5, 4, 0, math.MinInt), rule(5, 4, math.MaxInt, 0), rule(5, 4, 0, math.MaxInt),
		rule(5, 4, mostValue, 0), rule(5, 4, 0, mostValue),
	} {
		checkRule(t, r, false)
	}
}

// levelNumbers, waitNumbers and timeNumbers are those at the limits of the fields, and such as wrap.
func levelNumbers() []int {
	return []int{0, mostValue, -1, mostValue + 1, 1, 5, 6, 1000, 1001, mostValue - 1, 1 << 32, math.MinInt, math.MaxInt}
}

func waitNumbers() []int {
	return []int{0, longestWait, -1, longestWait + 1, 1, longestWait - 1, mostValue, 1 << 32, math.MinInt, math.MaxInt}
}

func timeNumbers() []int {
	return []int{0, endOfTime, -1, endOfTime + 1, -2, 1, 1000, endOfTime - 1, 1 << 32, math.MinInt, math.MinInt + 1, math.MaxInt}
}

func TestRulesOfAnyNumbers(t *testing.T) {
	for _, above := range levelNumbers() {
		for _, below := range levelNumbers() {
			for _, lasts := range waitNumbers() {
				for _, quiet := range waitNumbers() {
					r := rule(above, below, lasts, quiet)
					checkRule(t, r, isRule(r))
				}
			}
		}
	}
}

func TestAlarmOk(t *testing.T) {
	for _, a := range []impl.Alarm{
		{}, alarm(0, 0, -1), alarm(1, 0, -1), alarm(2, 0, -1), alarm(2, 5, 5), alarm(2, 5, 4), alarm(2, 5, 6),
		alarm(0, endOfTime, -1), alarm(1, endOfTime, 0), alarm(2, endOfTime, endOfTime), alarm(0, 0, endOfTime),
		alarm(1, 3, endOfTime), alarm(2, endOfTime-1, endOfTime-1),
	} {
		checkAlarm(t, a, true)
	}
	for _, a := range []impl.Alarm{
		alarm(-1, 0, -1), alarm(3, 0, -1), alarm(4, 0, 0), alarm(256, 0, 0), alarm(math.MinInt, 0, 0), alarm(math.MaxInt, 0, 0),
		alarm(0, -1, -1), alarm(1, -1, 0), alarm(2, -1, -1), alarm(0, endOfTime+1, 0), alarm(2, endOfTime+1, endOfTime),
		alarm(0, math.MinInt, 0), alarm(0, math.MaxInt, 0),
		alarm(0, 0, -2), alarm(1, 0, -2), alarm(2, 0, -3), alarm(0, 0, endOfTime+1), alarm(2, endOfTime, endOfTime+1),
		alarm(0, 0, math.MinInt), alarm(0, 0, math.MaxInt), alarm(2, -1, -2), alarm(3, -1, -2),
	} {
		checkAlarm(t, a, false)
	}
}

func TestAlarmsOfAnyNumbers(t *testing.T) {
	for _, state := range []int{-1, 0, 1, 2, 3, -2, 4, 255, 256, 258, 1 << 32, math.MinInt, math.MaxInt} {
		for _, since := range timeNumbers() {
			for _, told := range timeNumbers() {
				a := alarm(state, since, told)
				checkAlarm(t, a, isAlarm(a))
			}
		}
	}
}

type alarmStep struct {
	why    string
	r      impl.Rule
	a      impl.Alarm
	now, v int
	want   impl.Alarm
	said   int
}

func checkAlarmSteps(t *testing.T, cases []alarmStep) {
	t.Helper()
	for _, c := range cases {
		if got, said := impl.StepAlarm(c.r, c.a, c.now, c.v); got != c.want || said != c.said {
			t.Errorf("%s: StepAlarm(%v, %v, %d, %d) is %v, %d and not %v, %d", c.why, c.r, c.a, c.now, c.v, got, said, c.want, c.said)
		}
		if want, said := alarmed(c.r, c.a, c.now, c.v); want != c.want || said != c.said {
			t.Errorf("%s: the model of StepAlarm(%v, %v, %d, %d) is %v, %d", c.why, c.r, c.a, c.now, c.v, want, said)
		}
	}
}

func TestStepsOfNormalAlarms(t *testing.T) {
	r, at := rule(100, 50, 3, 10), rule(100, 50, 0, 10)
	checkAlarmSteps(t, []alarmStep{
		{"Above itself", r, alarm(0, 5, -1), 20, 100, alarm(0, 5, -1), 0},
		{"one more", r, alarm(0, 5, -1), 20, 101, alarm(1, 20, -1), 0},
		{"one less", r, alarm(0, 5, -1), 20, 99, alarm(0, 5, -1), 0},
		{"Below", r, alarm(0, 5, 5), 20, 50, alarm(0, 5, 5), 0},
		{"less than Below where Since is Told", r, alarm(0, 5, 5), 20, 49, alarm(0, 5, 5), 0},
		{"nothing", r, alarm(0, 5, 3), 20, 0, alarm(0, 5, 3), 0},
		{"the greatest value", r, alarm(0, 5, 3), 20, mostValue, alarm(1, 20, 3), 0},
		{"at once", r, alarm(0, 5, -1), 5, 101, alarm(1, 5, -1), 0},
		{"long after", r, alarm(0, 5, 4), endOfTime, 101, alarm(1, endOfTime, 4), 0},
		{"For 1", rule(100, 50, 1, 0), alarm(0, 5, -1), 20, 101, alarm(1, 20, -1), 0},
		{"the longest For", rule(100, 50, longestWait, 0), alarm(0, 5, -1), 5000, 101, alarm(1, 5000, -1), 0},
		{"For 0, Above itself", at, alarm(0, 5, -1), 20, 100, alarm(0, 5, -1), 0},
		{"For 0, one more", at, alarm(0, 5, -1), 20, 101, alarm(2, 20, 20), 1},
		{"For 0, at once", at, alarm(0, 5, -1), 5, 101, alarm(2, 5, 5), 1},
		{"For 0, at time 0", at, alarm(0, 0, -1), 0, 101, alarm(2, 0, 0), 1},
		{"For 0, at the end of time", at, alarm(0, 0, -1), endOfTime, 101, alarm(2, endOfTime, endOfTime), 1},
		{"For 0, in the quiet period", at, alarm(0, 5, 11), 20, 101, alarm(2, 20, 11), 0},
		{"For 0, after the quiet period", at, alarm(0, 5, 10), 20, 101, alarm(2, 20, 20), 1},
		{"For 0, just told, Quiet 0", rule(100, 50, 0, 0), alarm(0, 20, 20), 20, 101, alarm(2, 20, 20), 1},
		{"Above is the greatest value", rule(mostValue, 0, 0, 0), alarm(0, 5, -1), 20, mostValue, alarm(0, 5, -1), 0},
		{"Above 0", rule(0, 0, 0, 0), alarm(0, 5, -1), 20, 1, alarm(2, 20, 20), 1},
		{"Above 0 itself", rule(0, 0, 0, 0), alarm(0, 5, -1), 20, 0, alarm(0, 5, -1), 0},
	})
}

func TestStepsOfPendingAlarms(t *testing.T) {
	r, at := rule(100, 50, 7, 0), rule(100, 50, 0, 0)
	checkAlarmSteps(t, []alarmStep{
		{"Above itself", r, alarm(1, 20, -1), 22, 100, alarm(0, 22, -1), 0},
		{"Above itself, after For", r, alarm(1, 20, -1), 30, 100, alarm(0, 30, -1), 0},
		{"Above itself, at once", r, alarm(1, 20, -1), 20, 100, alarm(0, 20, -1), 0},
		{"between Below and Above", r, alarm(1, 20, 4), 22, 70, alarm(0, 22, 4), 0},
		{"Below", r, alarm(1, 20, 4), 22, 50, alarm(0, 22, 4), 0},
		{"nothing where Since is Told", r, alarm(1, 20, 20), 22, 0, alarm(0, 22, 20), 0},
		{"one less than For", r, alarm(1, 20, -1), 26, 101, alarm(1, 20, -1), 0},
		{"For", r, alarm(1, 20, -1), 27, 101, alarm(2, 27, 27), 1},
		{"one more than For", r, alarm(1, 20, -1), 28, 101, alarm(2, 28, 28), 1},
		{"long after", r, alarm(1, 20, 5), endOfTime, 101, alarm(2, endOfTime, endOfTime), 1},
		{"at once", r, alarm(1, 20, -1), 20, mostValue, alarm(1, 20, -1), 0},
		{"For 0 at once", at, alarm(1, 20, -1), 20, 101, alarm(2, 20, 20), 1},
		{"For 0 later", at, alarm(1, 20, -1), 21, 101, alarm(2, 21, 21), 1},
		{"For 0, Above itself", at, alarm(1, 20, -1), 21, 100, alarm(0, 21, -1), 0},
		{"one less than the longest For", rule(9, 9, longestWait, 0), alarm(1, 20, -1), 1019, 10, alarm(1, 20, -1), 0},
		{"the longest For", rule(9, 9, longestWait, 0), alarm(1, 20, -1), 1020, 10, alarm(2, 1020, 1020), 1},
	})
}

func TestStepsInQuietPeriods(t *testing.T) {
	r, longest := rule(100, 50, 7, 30), rule(100, 50, 0, longestWait)
	checkAlarmSteps(t, []alarmStep{
		{"never told", r, alarm(1, 20, -1), 27, 101, alarm(2, 27, 27), 1},
		{"never told, at time 0", longest, alarm(1, 0, -1), 0, 101, alarm(2, 0, 0), 1},
		{"never told, before Quiet has passed", longest, alarm(0, 0, -1), 998, 101, alarm(2, 998, 998), 1},
		{"one less than Quiet", r, alarm(1, 20, 10), 39, 101, alarm(2, 39, 10), 0},
		{"Quiet", r, alarm(1, 20, 10), 40, 101, alarm(2, 40, 40), 1},
		{"one more than Quiet", r, alarm(1, 20, 10), 41, 101, alarm(2, 41, 41), 1},
		{"told at 0, one less than Quiet", longest, alarm(0, 0, 0), 999, 101, alarm(2, 999, 0), 0},
		{"told at 0, Quiet", longest, alarm(0, 0, 0), 1000, 101, alarm(2, 1000, 1000), 1},
		{"told just now", r, alarm(1, 20, 40), 40, 101, alarm(2, 40, 40), 0},
		{"told just now, Quiet 1", rule(100, 50, 7, 1), alarm(1, 20, 40), 40, 101, alarm(2, 40, 40), 0},
		{"told before, Quiet 1", rule(100, 50, 7, 1), alarm(1, 20, 39), 40, 101, alarm(2, 40, 40), 1},
		{"told just now, Quiet 0", rule(100, 50, 7, 0), alarm(1, 20, 40), 40, 101, alarm(2, 40, 40), 1},
		{"told after Since", r, alarm(1, 20, 21), 50, 101, alarm(2, 50, 21), 0},
		{"pending in it", r, alarm(0, 20, 20), 25, 101, alarm(1, 25, 20), 0},
		{"normal in it", r, alarm(1, 20, 20), 25, 100, alarm(0, 25, 20), 0},
		{"firing goes on in it", r, alarm(2, 20, 15), 25, 101, alarm(2, 20, 15), 0},
		{"firing goes on after it", r, alarm(2, 20, 15), 500, 101, alarm(2, 20, 15), 0},
	})
}

func TestStepsOfFiringAlarms(t *testing.T) {
	r, same := rule(100, 50, 0, 0), rule(100, 100, 0, 0)
	checkAlarmSteps(t, []alarmStep{
		{"one more than Below", r, alarm(2, 20, 20), 25, 51, alarm(2, 20, 20), 0},
		{"Below", r, alarm(2, 20, 20), 25, 50, alarm(0, 25, 20), 2},
		{"one less than Below", r, alarm(2, 20, 20), 25, 49, alarm(0, 25, 20), 2},
		{"nothing", r, alarm(2, 20, 20), 25, 0, alarm(0, 25, 20), 2},
		{"at once", r, alarm(2, 20, 20), 20, 50, alarm(0, 20, 20), 2},
		{"at the end of time", r, alarm(2, 20, 20), endOfTime, 50, alarm(0, endOfTime, 20), 2},
		{"since time 0", r, alarm(2, 0, 0), 1, 50, alarm(0, 1, 0), 2},
		{"told before", r, alarm(2, 20, 19), 25, 50, alarm(0, 25, 19), 0},
		{"told after", r, alarm(2, 20, 21), 25, 50, alarm(0, 25, 21), 0},
		{"told now", r, alarm(2, 20, 25), 25, 50, alarm(0, 25, 25), 0},
		{"never told", r, alarm(2, 20, -1), 25, 50, alarm(0, 25, -1), 0},
		{"never told since time 0", r, alarm(2, 0, -1), 1, 50, alarm(0, 1, -1), 0},
		{"told before and one more than Below", r, alarm(2, 20, 19), 25, 51, alarm(2, 20, 19), 0},
		{"Above itself", r, alarm(2, 20, 20), 25, 100, alarm(2, 20, 20), 0},
		{"above", r, alarm(2, 20, 20), 25, 101, alarm(2, 20, 20), 0},
		{"above, never told", r, alarm(2, 20, -1), 25, 101, alarm(2, 20, -1), 0},
		{"the greatest value", rule(100, 50, 9, 9), alarm(2, 20, 20), 500, mostValue, alarm(2, 20, 20), 0},
		{"For and Quiet do not matter", rule(100, 50, longestWait, longestWait), alarm(2, 20, 20), 21, 50, alarm(0, 21, 20), 2},
		{"Below is Above, one more", same, alarm(2, 20, 20), 25, 101, alarm(2, 20, 20), 0},
		{"Below is Above", same, alarm(2, 20, 20), 25, 100, alarm(0, 25, 20), 2},
		{"Below is Above, one less", same, alarm(2, 20, 20), 25, 99, alarm(0, 25, 20), 2},
		{"Below is Above, told before", same, alarm(2, 20, 3), 25, 100, alarm(0, 25, 3), 0},
		{"Below is 0, one more", rule(100, 0, 0, 0), alarm(2, 20, 20), 25, 1, alarm(2, 20, 20), 0},
		{"Below is 0", rule(100, 0, 0, 0), alarm(2, 20, 20), 25, 0, alarm(0, 25, 20), 2},
		{"Below is the greatest value", rule(mostValue, mostValue, 0, 0), alarm(2, 20, 20), 25, mostValue, alarm(0, 25, 20), 2},
	})
}

// TestStepsAtOneTime makes all steps at the time 9: the second problem is in the quiet period of the
// first, but since Told is its Since too, its end is sent as the text asks.
func TestStepsAtOneTime(t *testing.T) {
	r, a := rule(100, 50, 0, 1), alarm(0, 3, -1)
	checkAlarmSteps(t, []alarmStep{
		{"the first problem", r, a, 9, 101, alarm(2, 9, 9), 1},
		{"its end", r, alarm(2, 9, 9), 9, 50, alarm(0, 9, 9), 2},
		{"the second problem", r, alarm(0, 9, 9), 9, 101, alarm(2, 9, 9), 0},
		{"its end", r, alarm(2, 9, 9), 9, 50, alarm(0, 9, 9), 2},
	})
}

// checkAlarmRefused expects that nothing of it changes the alarm.
func checkAlarmRefused(t *testing.T, r impl.Rule, a impl.Alarm, now int, values ...int) {
	t.Helper()
	for _, v := range values {
		checkAlarmStep(t, r, a, now, v, a, impl.SayNothing)
	}
}

// livelyAlarms are alarms of which some value changes each at any time that is not too early, with
// livelyRule.
func livelyAlarms() []impl.Alarm {
	return []impl.Alarm{alarm(0, 20, 20), alarm(0, 20, -1), alarm(1, 20, 20), alarm(1, 20, -1), alarm(2, 20, 20), alarm(2, 20, -1)}
}

func livelyRule() impl.Rule {
	return rule(100, 100, 0, 0)
}

func TestStepsOfInvalidRules(t *testing.T) {
	bad := []impl.Rule{
		rule(100, 101, 0, 0), rule(-1, -1, 0, 0), rule(100, -1, 0, 0), rule(mostValue+1, 100, 0, 0), rule(mostValue+1, mostValue+1, 0, 0),
		rule(100, 100, -1, 0), rule(100, 100, longestWait+1, 0), rule(100, 100, 0, -1), rule(100, 100, 0, longestWait+1),
		rule(math.MinInt, math.MinInt, 0, 0), rule(math.MaxInt, 0, 0, 0), rule(100, 100, math.MinInt, math.MinInt),
	}
	for _, r := range bad {
		for _, a := range append(livelyAlarms(), alarm(0, 0, -1), alarm(2, 0, 0), alarm(5, 5, 5)) {
			for _, now := range []int{0, 20, 21, 3000, endOfTime} {
				checkAlarmRefused(t, r, a, now, 0, 99, 100, 101, mostValue, -1, mostValue+1)
			}
		}
	}
}

func TestStepsOfInvalidAlarms(t *testing.T) {
	bad := []impl.Alarm{
		alarm(-1, 20, 20), alarm(3, 20, 20), alarm(4, 20, 20), alarm(math.MinInt, 20, 20), alarm(math.MaxInt, 20, 20), alarm(258, 20, 20),
		alarm(0, -1, -1), alarm(1, -1, -1), alarm(2, -1, -1), alarm(0, endOfTime+1, -1), alarm(1, endOfTime+1, 5), alarm(2, endOfTime+1, endOfTime+1),
		alarm(0, 20, -2), alarm(1, 20, -2), alarm(2, 20, -2), alarm(0, 20, endOfTime+1), alarm(2, 20, endOfTime+1),
		alarm(0, math.MinInt, 5), alarm(1, math.MinInt, math.MinInt), alarm(2, 5, math.MinInt), alarm(2, 5, math.MaxInt),
	}
	for _, a := range bad {
		for _, now := range []int{-1, 0, 20, 21, endOfTime, endOfTime + 1, math.MaxInt} {
			checkAlarmRefused(t, livelyRule(), a, now, 0, 99, 100, 101, mostValue)
		}
	}
}

// TestStepsAtWrongTimes also tries the first and the last time that is not wrong.
func TestStepsAtWrongTimes(t *testing.T) {
	r := livelyRule()
	for _, a := range livelyAlarms() {
		for _, now := range []int{19, 0, -1, -2, endOfTime + 1, endOfTime + 20, math.MinInt, math.MaxInt} {
			checkAlarmRefused(t, r, a, now, 0, 99, 100, 101, mostValue)
		}
		for _, now := range []int{20, 21, endOfTime - 1, endOfTime} {
			v := 101 - a.State/2
			if got, _ := impl.StepAlarm(r, a, now, v); got == a {
				t.Errorf("StepAlarm(%v, %v, %d, %d) refuses it", r, a, now, v)
			}
		}
	}
	for state := range 3 {
		v := 101 - state/2
		for _, told := range []int{21, 500, endOfTime} {
			a := alarm(state, 20, told)
			checkAlarmRefused(t, r, a, told-1, 0, 99, 100, 101, mostValue)
			checkAlarmRefused(t, r, a, 20, 0, 99, 100, 101, mostValue)
			if got, _ := impl.StepAlarm(r, a, told, v); got == a {
				t.Errorf("StepAlarm(%v, %v, %d, %d) refuses it", r, a, told, v)
			}
		}
		checkAlarmRefused(t, r, alarm(state, 0, -1), -1, 0, 99, 100, 101, mostValue)
		checkAlarmRefused(t, r, alarm(state, endOfTime, -1), endOfTime-1, 0, 99, 100, 101, mostValue)
		checkAlarmRefused(t, r, alarm(state, endOfTime, -1), endOfTime+1, 0, 99, 100, 101, mostValue)
	}
}

func TestStepsOfNoValues(t *testing.T) {
	for _, a := range livelyAlarms() {
		for _, now := range []int{20, 21, endOfTime} {
			checkAlarmRefused(t, livelyRule(), a, now, noValues()...)
			for _, v := range []int{0, mostValue} {
				want, said := alarmed(livelyRule(), a, now, v)
				checkAlarmStep(t, livelyRule(), a, now, v, want, said)
			}
		}
	}
	checkAlarmStep(t, livelyRule(), alarm(2, 20, 20), 21, 0, alarm(0, 21, 20), 2)
	checkAlarmStep(t, livelyRule(), alarm(0, 20, 20), 21, mostValue, alarm(2, 21, 21), 1)
}

// someRules are combinations of levels with small, great and wrong waits.
func someRules() []impl.Rule {
	var list []impl.Rule
	levels := [][2]int{{0, 0}, {10, 10}, {10, 5}, {10, 0}, {mostValue, mostValue}, {mostValue - 1, 0}, {5, 6}, {-1, -1}, {mostValue + 1, 3}}
	for _, level := range levels {
		for _, lasts := range []int{0, 1, 3, longestWait, longestWait + 1} {
			for _, quiet := range []int{0, 1, 4, longestWait, -1} {
				list = append(list, rule(level[0], level[1], lasts, quiet))
			}
		}
	}
	return list
}

// sinces and tolds are times such that the differences to each other and to the waits matter.
func sinces() []int {
	return []int{0, 1, 3, 2000, endOfTime - 1, endOfTime}
}

func tolds(since int) []int {
	return []int{-1, 0, since, since - 1, since + 1, since - 4, since - longestWait, -2}
}

func timesFor(a impl.Alarm) []int {
	return []int{a.Since - 1, a.Since, a.Since + 1, a.Since + 2, a.Since + 3, a.Since + 4, a.Since + longestWait - 1, a.Since + longestWait,
		a.Told - 1, a.Told + 1, a.Told + 4, endOfTime, endOfTime + 1}
}

func valuesFor(r impl.Rule) []int {
	return []int{r.Above, r.Above + 1, r.Above - 1, r.Below, r.Below + 1, r.Below - 1, 0, mostValue}
}

func TestStepAlarm(t *testing.T) {
	said := [3]int{}
	for _, r := range someRules() {
		for _, since := range sinces() {
			for _, told := range tolds(since) {
				for state := -1; state <= 3; state++ {
					a := alarm(state, since, told)
					for _, now := range timesFor(a) {
						for _, v := range valuesFor(r) {
							want, wantSaid := alarmed(r, a, now, v)
							checkAlarmStep(t, r, a, now, v, want, wantSaid)
							said[wantSaid]++
						}
					}
				}
			}
		}
	}
	if min(said[0], said[1], said[2]) < 5000 {
		t.Errorf("the notifications were sent %v times", said)
	}
}

// TestStepsKeepAlarmsValid goes on with the results of many steps at times that advance by any number.
func TestStepsKeepAlarmsValid(t *testing.T) {
	random := rand.New(rand.NewSource(160))
	for range 2000 {
		r, a, now := randomRule(random), alarm(0, 0, -1), 0
		for range 50 {
			v := sometimes(random, append(valuesFor(r), random.Intn(mostValue+1))...)
			want, wantSaid := alarmed(r, a, now, v)
			checkAlarmStep(t, r, a, now, v, want, wantSaid)
			checkAlarm(t, want, true)
			a = want
			now += sometimes(random, 0, 0, 1, 1, 2, 5, r.For, r.Quiet, random.Intn(30000))
		}
	}
}

type watchCase struct {
	why    string
	r      impl.Rule
	values []int
	want   watched
}

// watchCases list what the rules make of short lists of values, worked out by hand.
func watchCases() []watchCase {
	at, slow, quiet := rule(10, 5, 0, 0), rule(10, 5, 2, 0), rule(10, 5, 0, 4)
	return []watchCase{
		{"no values", at, nil, watched{alarm(0, 0, -1), nil, nil, -1}},
		{"an empty list", slow, []int{}, watched{alarm(0, 0, -1), nil, nil, -1}},
		{"one small value", at, []int{3}, watched{alarm(0, 0, -1), []int{0}, nil, -1}},
		{"one value of Above", at, []int{10}, watched{alarm(0, 0, -1), []int{0}, nil, -1}},
		{"one great value", at, []int{11}, watched{alarm(2, 0, 0), []int{1}, []int{0, 1}, 0}},
		{"one great value, For 2", slow, []int{11}, watched{alarm(1, 0, -1), []int{0}, nil, -1}},
		{"small values", at, []int{0, 5, 6, 10, 9}, watched{alarm(0, 0, -1), []int{0, 0, 0, 0, 0}, nil, -1}},
		{"great values, For 2", slow, []int{11, 12, 13, 14}, watched{alarm(2, 2, 2), []int{0, 0, 1, 0}, []int{2, 4}, 2}},
		{"a great value at the end", at, []int{1, 1, 11}, watched{alarm(2, 2, 2), []int{0, 0, 1}, []int{2, 3}, 2}},
		{"too short, For 2", slow, []int{11, 12, 10, 11, 12, 0}, watched{alarm(0, 5, -1), []int{0, 0, 0, 0, 0, 0}, nil, -1}},
		{"pending at the end", slow, []int{1, 11, 12}, watched{alarm(1, 1, -1), []int{0, 0, 0}, nil, -1}},
		{"pending after a value of Above", slow, []int{11, 10, 11, 11, 11}, watched{alarm(2, 4, 4), []int{0, 0, 0, 0, 1}, []int{4, 5}, 4}},
		{"a problem from the beginning", at, []int{11, 5}, watched{alarm(0, 1, 0), []int{1, 2}, []int{0, 1}, 0}},
		{"a problem in between", at, []int{0, 11, 6, 10, 12, 5, 6}, watched{alarm(0, 5, 1), []int{0, 1, 0, 0, 0, 2, 0}, []int{1, 5}, 1}},
		{"two problems", at, []int{11, 0, 11, 0}, watched{alarm(0, 3, 2), []int{1, 2, 1, 2}, []int{0, 1, 2, 3}, 0}},
		{"two problems, the last goes on", at, []int{11, 0, 11, 6}, watched{alarm(2, 2, 2), []int{1, 2, 1, 0}, []int{0, 1, 2, 4}, 0}},
		{"Below is Above", rule(10, 10, 0, 0), []int{11, 10, 11, 11, 10}, watched{alarm(0, 4, 2), []int{1, 2, 1, 0, 2}, []int{0, 1, 2, 4}, 0}},
		{"one in the quiet period", quiet, []int{11, 0, 0, 11, 11, 0, 11, 0}, watched{alarm(0, 7, 6), []int{1, 2, 0, 0, 0, 0, 1, 2}, []int{0, 1, 3, 5, 6, 7}, 0}},
		{"just after the quiet period", quiet, []int{11, 0, 0, 0, 11, 0}, watched{alarm(0, 5, 4), []int{1, 2, 0, 0, 1, 2}, []int{0, 1, 4, 5}, 0}},
		{"just before its end", quiet, []int{11, 0, 0, 11, 0, 0}, watched{alarm(0, 4, 0), []int{1, 2, 0, 0, 0, 0}, []int{0, 1, 3, 4}, 0}},
		{"several in the quiet period", rule(10, 5, 0, 9), []int{11, 0, 11, 0, 11, 0, 11, 0, 11, 0, 11, 0}, watched{alarm(0, 11, 10), []int{1, 2, 0, 0, 0, 0, 0, 0, 0, 0, 1, 2}, []int{0, 1, 2, 3, 4, 5, 6, 7, 8, 9, 10, 11}, 0}},
		{"hushed until the end", quiet, []int{0, 11, 0, 11}, watched{alarm(2, 3, 1), []int{0, 1, 2, 0}, []int{1, 2, 3, 4}, 1}},
		{"hushed although it goes on", quiet, []int{11, 0, 11, 11, 11, 11, 11, 0}, watched{alarm(0, 7, 0), []int{1, 2, 0, 0, 0, 0, 0, 0}, []int{0, 1, 2, 7}, 0}},
		{"no value in between", slow, []int{11, -1, 11, mostValue + 1, 0}, watched{alarm(0, 4, 2), []int{0, 0, 1, 0, 2}, []int{2, 4}, 2}},
		{"no value where it would fire", slow, []int{11, 11, -1, 11}, watched{alarm(2, 3, 3), []int{0, 0, 0, 1}, []int{3, 4}, 3}},
		{"no value where it would end", at, []int{11, -5, 0}, watched{alarm(0, 2, 0), []int{1, 0, 2}, []int{0, 2}, 0}},
		{"only such as are no values", at, []int{-1, mostValue + 1, math.MinInt, math.MaxInt}, watched{alarm(0, 0, -1), []int{0, 0, 0, 0}, nil, -1}},
		{"an invalid rule", rule(5, 6, 0, 0), []int{11, 0, 11}, watched{alarm(0, 0, -1), []int{0, 0, 0}, nil, -1}},
		{"an invalid rule and no values", rule(5, 6, 0, 0), nil, watched{alarm(0, 0, -1), nil, nil, -1}},
		{"an invalid For", rule(5, 5, -1, 0), []int{11}, watched{alarm(0, 0, -1), []int{0}, nil, -1}},
		{"an invalid Quiet", rule(5, 5, 0, longestWait+1), []int{11, 0}, watched{alarm(0, 0, -1), []int{0, 0}, nil, -1}},
		{"above every value", rule(mostValue, 0, 0, 0), []int{mostValue, mostValue}, watched{alarm(0, 0, -1), []int{0, 0}, nil, -1}},
	}
}

func TestWatchCases(t *testing.T) {
	for _, c := range watchCases() {
		if got := watch(c.r, c.values); got.a != c.want.a || !slices.Equal(got.said, c.want.said) || !slices.Equal(got.spans, c.want.spans) || got.first != c.want.first {
			t.Errorf("%s: the model of %v, %v is %v", c.why, c.r, c.values, got)
		}
		checkWatched(t, c.r, c.values, c.want)
	}
}

func TestWatchingManyValues(t *testing.T) {
	at := rule(10, 5, 0, 0)
	pairs := slices.Repeat([]int{11, 5}, 150)
	spans := make([]int, 300)
	for i := range spans {
		spans[i] = i
	}
	checkWatched(t, at, pairs, watched{alarm(0, 299, 298), slices.Repeat([]int{1, 2}, 150), spans, 0})
	great := slices.Repeat([]int{11}, 300)
	checkWatched(t, at, great, watched{alarm(2, 0, 0), append([]int{1}, make([]int, 299)...), []int{0, 300}, 0})
	last := append(make([]int, 299), 1)
	checkWatched(t, rule(10, 5, 299, longestWait), great, watched{alarm(2, 299, 299), last, []int{299, 300}, 299})
	checkWatched(t, rule(10, 5, 300, 0), great, watched{alarm(1, 0, -1), make([]int, 300), nil, -1})
	checkWatched(t, rule(10, 5, longestWait, 0), great, watched{alarm(1, 0, -1), make([]int, 300), nil, -1})
	checkWatched(t, rule(10, 5, 0, longestWait), pairs, watched{alarm(0, 299, 0), append([]int{1, 2}, make([]int, 298)...), spans, 0})
	checkWatched(t, rule(5, 6, 0, 0), pairs, watched{alarm(0, 0, -1), make([]int, 300), nil, -1})
	checkWatched(t, at, slices.Repeat([]int{-1}, 300), watched{alarm(0, 0, -1), make([]int, 300), nil, -1})
}

func TestWatchingTooManyValues(t *testing.T) {
	pairs := slices.Repeat([]int{11, 5}, 150)
	for _, values := range [][]int{
		append(slices.Clone(pairs), 11), append([]int{11}, pairs...), append(slices.Clone(pairs), -1),
		slices.Repeat([]int{11}, 301), make([]int, 301), make([]int, 600), slices.Repeat(pairs, 300), slices.Repeat([]int{-1}, 301),
	} {
		for _, r := range []impl.Rule{rule(10, 5, 0, 0), rule(10, 5, 3, 3), {}, rule(5, 6, 0, 0), rule(10, 5, -1, 0)} {
			if a, said := impl.PlayAlarm(r, values); a != (impl.Alarm{}) || len(said) != 0 {
				t.Errorf("PlayAlarm(%v) of %d values is %v, %v", r, len(values), a, said)
			}
			if spans := impl.WrongSpans(r, values); len(spans) != 0 {
				t.Errorf("WrongSpans(%v) of %d values is %v", r, len(values), spans)
			}
			if first := impl.FirstWrong(r, values); first != -1 {
				t.Errorf("FirstWrong(%v) of %d values is %d", r, len(values), first)
			}
			for _, what := range someWhats() {
				if count := impl.CountSaid(r, values, what); count != -1 {
					t.Errorf("CountSaid(%v, %d) of %d values is %d", r, what, len(values), count)
				}
			}
		}
	}
}

func TestCountSaid(t *testing.T) {
	r := rule(10, 5, 0, 4)
	values := []int{11, 0, 0, 11, 11, 0, 11, 0, 11}
	for what, want := range map[int]int{impl.SayNothing: 5, impl.SayWrong: 2, impl.SayOver: 2, -1: 0, 3: 0, 4: 0, math.MinInt: 0, math.MaxInt: 0} {
		if got := impl.CountSaid(r, values, what); got != want {
			t.Errorf("CountSaid of %d is %d and not %d", what, got, want)
		}
	}
	for what, want := range map[int]int{impl.SayNothing: 9, impl.SayWrong: 0, impl.SayOver: 0, 3: 0} {
		if got := impl.CountSaid(rule(5, 6, 0, 0), values, what); got != want {
			t.Errorf("CountSaid of %d with an invalid rule is %d and not %d", what, got, want)
		}
	}
	if got := impl.CountSaid(r, nil, impl.SayNothing); got != 0 {
		t.Errorf("CountSaid of no values is %d", got)
	}
}

// TestEveryShortWatch tries all lists of a few values.
func TestEveryShortWatch(t *testing.T) {
	few := []int{0, 1, 2, 3, -1}
	for _, r := range []impl.Rule{
		rule(2, 1, 0, 0), rule(2, 1, 1, 0), rule(2, 2, 1, 3), rule(2, 0, 0, 3), rule(1, 1, 0, 2), rule(2, 1, 2, 4), rule(0, 0, 0, 1), rule(1, 0, 1, 5),
		rule(3, 1, 0, 0), rule(1, 2, 0, 0),
	} {
		for length := range 7 {
			values := make([]int, length)
			for number := range power(len(few), length) {
				for i := range values {
					values[i] = few[number%len(few)]
					number /= len(few)
				}
				checkWatched(t, r, values, watch(r, values))
			}
		}
	}
}

func power(n, times int) int {
	product := 1
	for range times {
		product *= n
	}
	return product
}

// randomRule is valid, mostly with small levels and short waits.
func randomRule(random *rand.Rand) impl.Rule {
	most := sometimes(random, 2, 10, 100, mostValue)
	a, b := random.Intn(most+1), random.Intn(most+1)
	if random.Intn(4) == 0 {
		b = a
	}
	wait := func() int {
		return sometimes(random, 0, 0, 1, 2, 3, random.Intn(10), random.Intn(50), random.Intn(longestWait+1), longestWait)
	}
	return rule(max(a, b), min(a, b), wait(), wait())
}

// randomReadings stay on one side of the levels for some time, and reach the levels themselves.
func randomReadings(random *rand.Rand, r impl.Rule, n int) []int {
	stay := 1 + random.Intn(12)
	strange := random.Intn(3) == 0
	side := 0
	var values []int
	for range n {
		if random.Intn(stay) == 0 {
			side = random.Intn(3)
		}
		v := sometimes(random, r.Above+1, r.Above+2, mostValue)
		switch {
		case strange && random.Intn(10) == 0:
			v = sometimes(random, noValues()...)
		case side == 1:
			v = sometimes(random, r.Below+1, r.Above, r.Above-1, r.Below+random.Intn(max(1, r.Above-r.Below)))
		case side == 2:
			v = sometimes(random, 0, r.Below, r.Below, max(0, r.Below-1))
		}
		values = append(values, v)
	}
	return values
}

func TestWatching(t *testing.T) {
	random := rand.New(rand.NewSource(161))
	for i := range 6000 {
		r := randomRule(random)
		values := randomReadings(random, r, i%301)
		checkWatched(t, r, values, watch(r, values))
	}
}

// checkPromise is promise 16, from what the functions return alone. It returns how many problems were
// told and how many were hushed.
func checkPromise(t *testing.T, r impl.Rule, values []int) (told, hushed int) {
	t.Helper()
	_, said := impl.PlayAlarm(r, values)
	last, lastTold := impl.SayOver, -1
	for now, what := range said {
		if what == impl.SayNothing {
			continue
		}
		if what == last {
			t.Fatalf("with %v and %v the notifications are %v", r, values, said)
		}
		last = what
		if what == impl.SayOver {
			continue
		}
		if lastTold >= 0 && now-lastTold < r.Quiet {
			t.Fatalf("with %v and %v a problem is sent at %d and at %d", r, values, lastTold, now)
		}
		if lastTold < 0 && impl.FirstWrong(r, values) != now {
			t.Fatalf("with %v and %v the first problem is sent at %d and not at %d", r, values, now, impl.FirstWrong(r, values))
		}
		lastTold = now
		told++
	}
	return told, checkSpans(t, r, values, said) - told
}

// checkSpans holds the spans against the notifications and returns how many spans there are.
func checkSpans(t *testing.T, r impl.Rule, values, said []int) int {
	t.Helper()
	spans := impl.WrongSpans(r, values)
	if len(spans)%2 != 0 || !slices.IsSorted(spans) || len(slices.Compact(slices.Clone(spans))) != len(spans) {
		t.Fatalf("with %v and %v the spans are %v", r, values, spans)
	}
	var sent []int
	for i, at := range spans {
		if at == len(values) && i == len(spans)-1 {
			continue
		}
		if i%2 == 0 && values[at] <= r.Above || i%2 == 1 && values[at] > r.Below {
			t.Fatalf("with %v and %v there is %d at %d in the spans %v", r, values, values[at], at, spans)
		}
		if i%2 == 1 && (said[at] == impl.SayOver) != (said[spans[i-1]] == impl.SayWrong) {
			t.Fatalf("with %v, %v and the spans %v the notifications are %v", r, values, spans, said)
		}
		if said[at] != impl.SayNothing {
			sent = append(sent, said[at])
		}
	}
	rest := slices.DeleteFunc(slices.Clone(said), func(what int) bool { return what == impl.SayNothing })
	if !slices.Equal(sent, rest) {
		t.Fatalf("with %v, %v and the spans %v the notifications are %v", r, values, spans, said)
	}
	return len(spans) / 2
}

// checkAgreement holds the counts and the steps against what is played.
func checkAgreement(t *testing.T, r impl.Rule, values []int) {
	t.Helper()
	final, said := impl.PlayAlarm(r, values)
	counts := map[int]int{}
	a := impl.Alarm{Told: -1}
	for now, v := range values {
		var what int
		a, what = impl.StepAlarm(r, a, now, v)
		if what != said[now] {
			t.Fatalf("with %v and %v the step at %d sends %d and the play %d", r, values, now, what, said[now])
		}
		counts[what]++
	}
	if a != final {
		t.Fatalf("with %v and %v the steps end with %v and the play with %v", r, values, a, final)
	}
	for _, what := range someWhats() {
		if got := impl.CountSaid(r, values, what); got != counts[what] {
			t.Fatalf("with %v and %v CountSaid of %d is %d and not %d", r, values, what, got, counts[what])
		}
	}
	spans := impl.WrongSpans(r, values)
	fires := len(spans) > 0 && spans[len(spans)-1] == len(values)
	if fires != (final.State == 2) || fires && final.Since != spans[len(spans)-2] {
		t.Fatalf("with %v and %v the spans are %v and the alarm is %v", r, values, spans, final)
	}
}

func TestNotificationsAreApart(t *testing.T) {
	random := rand.New(rand.NewSource(162))
	told, hushed := 0, 0
	for range 4000 {
		r := randomRule(random)
		values := randomReadings(random, r, random.Intn(301))
		newTold, newHushed := checkPromise(t, r, values)
		told, hushed = told+newTold, hushed+newHushed
		checkAgreement(t, r, values)
	}
	if told < 5000 || hushed < 3000 {
		t.Errorf("%d problems were told and %d were hushed", told, hushed)
	}
}

// TestStepsApart is promise 16 for steps at times that advance, by other numbers than 1.
func TestStepsApart(t *testing.T) {
	random := rand.New(rand.NewSource(163))
	told, hushed := 0, 0
	for range 5000 {
		r, a, now := randomRule(random), alarm(0, 0, -1), 0
		lastTold, open := math.MinInt/2, false
		for _, v := range randomReadings(random, r, 100) {
			next, what := impl.StepAlarm(r, a, now, v)
			if what == impl.SayWrong && (now-lastTold < r.Quiet || open) || what == impl.SayOver && !open {
				t.Fatalf("StepAlarm(%v, %v, %d, %d) sends %d, after a problem was sent at %d", r, a, now, v, what, lastTold)
			}
			if a.State == 2 && next.State == 0 {
				if open != (what == impl.SayOver) {
					t.Fatalf("StepAlarm(%v, %v, %d, %d) ends a problem with %d", r, a, now, v, what)
				}
				open = false
				hushed += one(what == impl.SayNothing)
			}
			if what == impl.SayWrong {
				lastTold, open = now, true
				told++
			}
			a = next
			now += 1 + sometimes(random, 0, 0, 0, 1, 1, r.For/2, r.Quiet/9)
		}
	}
	if told < 2000 || hushed < 2000 {
		t.Errorf("%d problems were told and %d were hushed", told, hushed)
	}
}

// alarmResults are the results of all functions of chapter 16, refused calls among them.
type alarmResults struct {
	alarms  []impl.Alarm
	numbers []int
	lists   [][]int
}

func (q *alarmResults) alarm(a impl.Alarm, said int) {
	q.alarms = append(q.alarms, a)
	q.numbers = append(q.numbers, said)
}

func (q *alarmResults) play(a impl.Alarm, said []int) {
	q.alarms = append(q.alarms, a)
	q.lists = append(q.lists, said)
}

func alarmResultsOf(r impl.Rule, a impl.Alarm, values []int) alarmResults {
	var q alarmResults
	q.numbers = append(q.numbers, one(impl.RuleOk(r)), one(impl.AlarmOk(a)))
	for _, now := range timesFor(a) {
		for _, v := range valuesFor(r) {
			q.alarm(impl.StepAlarm(r, a, now, v))
		}
	}
	for _, some := range [][]int{values, values[len(values)/2:], nil} {
		q.play(impl.PlayAlarm(r, some))
		q.play(impl.PlayAlarm(r, some))
		q.lists = append(q.lists, impl.WrongSpans(r, some), impl.WrongSpans(r, some))
		q.numbers = append(q.numbers, impl.FirstWrong(r, some))
		for what := -1; what <= 3; what++ {
			q.numbers = append(q.numbers, impl.CountSaid(r, some, what))
		}
	}
	return q
}

func (q alarmResults) equal(p alarmResults) bool {
	return slices.Equal(q.alarms, p.alarms) && slices.Equal(q.numbers, p.numbers) && equalLists(q.lists, p.lists)
}

// ownMemory overwrites every list with a value of its own, and reports whether each still holds its value
// afterwards.
func (q alarmResults) ownMemory() bool {
	for i, list := range q.lists {
		fill(list, -7-i)
	}
	for i, list := range q.lists {
		if !filled(list, -7-i) {
			return false
		}
	}
	return true
}

type alarmCase struct {
	r      impl.Rule
	a      impl.Alarm
	values []int
}

// alarmCases combine some of all that this file knows, with what is invalid.
func alarmCases(seed int64, n int) []alarmCase {
	random := rand.New(rand.NewSource(seed))
	rules := someRules()
	var cases []alarmCase
	for range n {
		r := randomRule(random)
		values := randomReadings(random, r, sometimes(random, 0, 1, 2, 5, 20, 100, 299, 300, 301))
		if random.Intn(5) == 0 {
			r = rules[random.Intn(len(rules))]
		}
		since := sometimes(random, append(sinces(), random.Intn(endOfTime+1), -1)...)
		a := alarm(random.Intn(5)-1, since, sometimes(random, tolds(since)...))
		if random.Intn(2) == 0 {
			a = alarm(random.Intn(3), since, min(max(a.Told, -1), endOfTime))
		}
		cases = append(cases, alarmCase{r, a, values})
	}
	for _, c := range watchCases() {
		cases = append(cases, alarmCase{c.r, alarm(2, 5, 5), c.values})
	}
	return cases
}

func TestAlarmsAreNewMemory(t *testing.T) {
	for _, c := range alarmCases(164, 600) {
		array, values := padded(c.values, 66)
		whole := slices.Clone(array)
		results := alarmResultsOf(c.r, c.a, values)
		if !slices.Equal(array, whole) {
			t.Fatalf("an argument of %v was changed", c)
		}
		if !results.ownMemory() {
			t.Fatalf("results for %v share memory with each other", c)
		}
		if !slices.Equal(array, whole) {
			t.Fatalf("a result for %v shares memory with an argument", c)
		}
		if !alarmResultsOf(c.r, c.a, values).equal(alarmResultsOf(c.r, c.a, c.values)) {
			t.Fatalf("results for %v depend on what was done with earlier ones", c)
		}
	}
}

// TestAlarmsKeepNothing: what was found out about one rule or list is not used for another one, even if
// it lies in the same memory.
func TestAlarmsKeepNothing(t *testing.T) {
	cases := alarmCases(165, 400)
	var first []alarmResults
	for _, c := range cases {
		first = append(first, alarmResultsOf(c.r, c.a, c.values))
	}
	list := make([]int, 400)
	for i := len(cases) - 1; i >= 0; i-- {
		c := cases[i]
		values := list[:copy(list, c.values)]
		if again := alarmResultsOf(c.r, c.a, values); !again.equal(first[i]) {
			t.Fatalf("the results for %v are %v and then %v", c, first[i], again)
		}
	}
}

// TestStepsOfAnyNumbers: no call panics, and only what is valid is changed.
func TestStepsOfAnyNumbers(t *testing.T) {
	numbers := []int{math.MinInt, math.MinInt + 1, -mostValue, -2, -1, 0, 0, 0, 1, 1, 2, 3, 999, 1000, 1001, mostValue, mostValue + 1, 1 << 62, math.MaxInt - 1, math.MaxInt}
	random := rand.New(rand.NewSource(166))
	some := func() int { return sometimes(random, numbers...) }
	for range 100000 {
		r, a := rule(some(), some(), some(), some()), alarm(some(), some(), some())
		if random.Intn(2) == 0 {
			r = randomRule(random)
		}
		if random.Intn(2) == 0 {
			a = alarm(random.Intn(3), random.Intn(3), random.Intn(3)-1)
		}
		checkRule(t, r, isRule(r))
		checkAlarm(t, a, isAlarm(a))
		now, v := some(), some()
		want, wantSaid := alarmed(r, a, now, v)
		checkAlarmStep(t, r, a, now, v, want, wantSaid)
	}
	for range 3000 {
		r := rule(some(), some(), some(), some())
		if random.Intn(2) == 0 {
			r = randomRule(random)
		}
		var values []int
		for range random.Intn(30) {
			values = append(values, some())
		}
		checkWatched(t, r, values, watch(r, values))
	}
}

// TestSchedulesDoNotMatterForAlarms makes the same calls many times, many of them at once, with few
// processors and with many.
func TestSchedulesDoNotMatterForAlarms(t *testing.T) {
	defer runtime.GOMAXPROCS(runtime.GOMAXPROCS(0))
	for i, c := range alarmCases(167, 60) {
		runtime.GOMAXPROCS([]int{1, 2, 8}[i%3])
		want := alarmResultsOf(c.r, c.a, c.values)
		var callers sync.WaitGroup
		for range 8 {
			callers.Add(1)
			go func() {
				defer callers.Done()
				for range 2 {
					if !alarmResultsOf(c.r, c.a, c.values).equal(want) {
						t.Errorf("the same calls for %v have other results", c)
					}
				}
			}()
		}
		callers.Wait()
	}
}
