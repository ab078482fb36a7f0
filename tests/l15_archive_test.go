package tests

import (
	"math"
	"math/rand"
	"runtime"
	"slices"
	"sync"
	"testing"

	"loop.example/g00681/impl"
)

// mostReceived is the greatest Next.
const mostReceived = 1000000

// levelSizes are the numbers of values in a row of each level.
func levelSizes() []int {
	return []int{1, 4, 16}
}

// span lists From, N, Min, Max and Sum.
func span(from, n, least, greatest, sum int) impl.Row {
	return impl.Row{From: from, N: n, Min: least, Max: greatest, Sum: sum}
}

// laidOut has all rows that an archive has after so many values.
func laidOut(next int, row func(from, n int) impl.Row) impl.Archive {
	a := impl.Archive{Next: next}
	for _, n := range levelSizes() {
		var rows []impl.Row
		end := next - next%n
		for from := max(0, end-8*n); from < end; from += n {
			rows = append(rows, row(from, n))
		}
		a.Rows = append(a.Rows, rows)
	}
	return a
}

// archivedBy is the model of an archive that received so many values, each of which is a function of its
// index.
func archivedBy(next int, value func(i int) int) impl.Archive {
	return laidOut(next, func(from, n int) impl.Row {
		r := span(from, n, mostValue, 0, 0)
		for i := from; i < from+n; i++ {
			r.Min = min(r.Min, value(i))
			r.Max = max(r.Max, value(i))
			r.Sum += value(i)
		}
		return r
	})
}

// archived is the model of ArchiveOf, for any number of values.
func archived(values ...int) impl.Archive {
	return archivedBy(len(values), func(i int) int { return values[i] })
}

// jumbled gives neighboring indices values that are far apart.
func jumbled(i int) int {
	return i*i*7919%(mostValue+1) + i%2
}

func cloneArchive(a impl.Archive) impl.Archive {
	c := impl.Archive{Next: a.Next}
	for _, rows := range a.Rows {
		c.Rows = append(c.Rows, slices.Clone(rows))
	}
	return c
}

func changedArchive(a impl.Archive, change func(a *impl.Archive)) impl.Archive {
	c := cloneArchive(a)
	change(&c)
	return c
}

func equalArchives(a, b impl.Archive) bool {
	return a.Next == b.Next && slices.EqualFunc(a.Rows, b.Rows, slices.Equal[[]impl.Row])
}

// isRow reports whether the numbers of the row fit each other.
func isRow(r impl.Row) bool {
	if min(r.Min, r.Max) < 0 || max(r.Min, r.Max) > mostValue {
		return false
	}
	return r.Sum >= r.N*r.Min && r.Sum <= r.N*r.Max
}

// isArchive is the model of ArchiveOk.
func isArchive(a impl.Archive) bool {
	if len(a.Rows) != 3 || a.Next < 0 || a.Next > mostReceived {
		return false
	}
	bare := laidOut(a.Next, func(from, n int) impl.Row { return span(from, n, 0, 0, 0) })
	for level, rows := range a.Rows {
		same := slices.EqualFunc(rows, bare.Rows[level], func(r, s impl.Row) bool {
			return r.From == s.From && r.N == s.N && isRow(r)
		})
		if !same {
			return false
		}
	}
	return true
}

// received is the model of PutValue, for what it does not refuse.
func received(a impl.Archive, v int) impl.Archive {
	a = cloneArchive(a)
	a.Rows[0] = append(a.Rows[0], span(a.Next, 1, v, v, v))
	a.Next++
	for level := 1; level < 3; level++ {
		n := levelSizes()[level]
		if a.Next%n != 0 {
			continue
		}
		below := a.Rows[level-1]
		four := [4]impl.Row(below[len(below)-4:])
		a.Rows[level] = append(a.Rows[level], impl.Row{
			From: four[0].From,
			N:    n,
			Min:  min(four[0].Min, four[1].Min, four[2].Min, four[3].Min),
			Max:  max(four[0].Max, four[1].Max, four[2].Max, four[3].Max),
			Sum:  four[0].Sum + four[1].Sum + four[2].Sum + four[3].Sum,
		})
	}
	for level, rows := range a.Rows {
		a.Rows[level] = rows[max(0, len(rows)-8):]
	}
	return a
}

// sumIn is the model of SumOver, for valid archives.
func sumIn(a impl.Archive, from, to int) int {
	if from >= to {
		return -one(from > to)
	}
	for _, rows := range a.Rows {
		sum, at := 0, from
		for _, r := range rows {
			if r.From == at && at < to {
				sum += r.Sum
				at += r.N
			}
		}
		if at == to {
			return sum
		}
	}
	return -1
}

// maxIn is the model of MaxSince, for valid archives.
func maxIn(a impl.Archive, from int) int {
	for _, rows := range a.Rows {
		for i, r := range rows {
			if r.From == from {
				return slices.MaxFunc(rows[i:], func(r, s impl.Row) int { return r.Max - s.Max }).Max
			}
		}
	}
	return -1
}

// oldestIn is the model of OldestPlace, for valid archives.
func oldestIn(a impl.Archive) int {
	all := slices.Concat(a.Rows...)
	if len(all) == 0 {
		return -1
	}
	return slices.MinFunc(all, func(r, s impl.Row) int { return r.From - s.From }).From
}

func checkArchive(t *testing.T, a impl.Archive, want bool) {
	t.Helper()
	if got := impl.ArchiveOk(a); got != want {
		t.Fatalf("ArchiveOk(%v) is %v", a, got)
	}
}

func checkPut(t *testing.T, a impl.Archive, v int, want impl.Archive, wantOk bool) {
	t.Helper()
	if got, ok := impl.PutValue(a, v); ok != wantOk || !equalArchives(got, want) {
		t.Fatalf("PutValue(%v, %d) is %v, %v and not %v, %v", a, v, got, ok, want, wantOk)
	}
}

func checkArchiveOf(t *testing.T, values []int, want impl.Archive, wantOk bool) {
	t.Helper()
	if got, ok := impl.ArchiveOf(values); ok != wantOk || !equalArchives(got, want) {
		t.Fatalf("ArchiveOf(%v) is %v, %v and not %v, %v", values, got, ok, want, wantOk)
	}
}

func checkSum(t *testing.T, a impl.Archive, from, to, want int) {
	t.Helper()
	if got := impl.SumOver(a, from, to); got != want {
		t.Fatalf("SumOver(%v, %d, %d) is %d and not %d", a, from, to, got, want)
	}
}

func checkMax(t *testing.T, a impl.Archive, from, want int) {
	t.Helper()
	if got := impl.MaxSince(a, from); got != want {
		t.Fatalf("MaxSince(%v, %d) is %d and not %d", a, from, got, want)
	}
}

func checkOldest(t *testing.T, a impl.Archive, want int) {
	t.Helper()
	if got := impl.OldestPlace(a); got != want {
		t.Fatalf("OldestPlace(%v) is %d and not %d", a, got, want)
	}
}

// placesOf are the indices at which rows begin and end, those beside them, and some that no archive has.
func placesOf(a impl.Archive) []int {
	places := []int{math.MinInt, math.MinInt + 1, -mostReceived, -16, -4, -1, 0, 1, mostReceived + 16, 1 << 62, math.MaxInt - 1, math.MaxInt}
	for d := -2; d <= 20; d++ {
		places = append(places, a.Next+d)
	}
	for _, r := range slices.Concat(a.Rows...) {
		places = append(places, r.From-1, r.From, r.From+1, r.From+r.N)
	}
	slices.Sort(places)
	return slices.Compact(places)
}

// checkQueries asks a valid archive for everything.
func checkQueries(t *testing.T, a impl.Archive) {
	t.Helper()
	checkArchive(t, a, true)
	checkOldest(t, a, oldestIn(a))
	places := placesOf(a)
	for _, from := range places {
		checkMax(t, a, from, maxIn(a, from))
		for _, to := range places {
			checkSum(t, a, from, to, sumIn(a, from, to))
		}
	}
}

// randomRow is any row that fits, whatever the values were.
func randomRow(random *rand.Rand, from, n int) impl.Row {
	most := sometimes(random, 0, 1, 5, 1000, mostValue)
	least, greatest := random.Intn(most+1), random.Intn(most+1)
	least, greatest = min(least, greatest), max(least, greatest)
	sum := sometimes(random, n*least, n*greatest, n*least+random.Intn(n*(greatest-least)+1))
	return span(from, n, least, greatest, sum)
}

// discordant is an archive whose levels do not agree with each other.
func discordant(random *rand.Rand, next int) impl.Archive {
	return laidOut(next, func(from, n int) impl.Row { return randomRow(random, from, n) })
}

// someNexts are numbers of values around those at which something happens, and such at which nothing does.
func someNexts() []int {
	nexts := []int{0, 1, 2, 3, 4, 5, 7, 8, 9, 11, 12, 15, 16, 17, 20, 31, 32, 33, 35, 36, 37, 47, 48, 49, 100, 127, 128, 129, 143, 144, 145, 159, 160, 300}
	return append(nexts, 1000, 65536, mostReceived-17, mostReceived-16, mostReceived-4, mostReceived-3, mostReceived-1, mostReceived)
}

func goodArchives() []impl.Archive {
	random := rand.New(rand.NewSource(150))
	var list []impl.Archive
	for _, next := range someNexts() {
		list = append(list,
			archivedBy(next, jumbled),
			archivedBy(next, func(i int) int { return mostValue }),
			laidOut(next, func(from, n int) impl.Row { return span(from, n, 0, mostValue, 0) }),
			laidOut(next, func(from, n int) impl.Row { return span(from, n, 0, mostValue, n*mostValue) }),
			discordant(random, next),
		)
	}
	return list
}

type badArchive struct {
	why string
	a   impl.Archive
}

// badListArchives have too few lists or too many, or lists at the wrong level.
func badListArchives(base impl.Archive) []badArchive {
	of := func(lists ...[]impl.Row) impl.Archive { return impl.Archive{Rows: lists, Next: base.Next} }
	rows := base.Rows
	list := []badArchive{
		{"no lists", of()},
		{"one list", of(rows[0])},
		{"two lists", of(rows[:2]...)},
		{"the last two lists", of(rows[1:]...)},
		{"four lists", of(rows[0], rows[1], rows[2], nil)},
		{"four lists, the first twice", of(rows[0], rows[0], rows[1], rows[2])},
		{"four lists, the last with rows of 64", of(rows[0], rows[1], rows[2], []impl.Row{span(0, 64, 0, 0, 0)})},
		{"many lists", of(slices.Repeat(rows, 1000)...)},
	}
	if base.Next > 0 {
		list = append(list,
			badArchive{"levels 0 and 1 exchanged", of(rows[1], rows[0], rows[2])},
			badArchive{"no rows at all", of(nil, nil, nil)},
			badArchive{"the lists in another order", of(rows[2], rows[1], rows[0])},
		)
	}
	if base.Next >= 4 {
		list = append(list,
			badArchive{"levels 1 and 2 exchanged", of(rows[0], rows[2], rows[1])},
			badArchive{"level 0 at all levels", of(rows[0], rows[0], rows[0])},
			badArchive{"no rows of level 1", of(rows[0], nil, rows[2])},
		)
	}
	if base.Next >= 16 {
		list = append(list, badArchive{"no rows of level 2", of(rows[0], rows[1], nil)})
	}
	return list
}

// badNextArchives have rows as they should be, and a Next that does not fit them.
func badNextArchives(base impl.Archive) []badArchive {
	var list []badArchive
	for _, next := range []int{-1, base.Next - 1, base.Next + 1, base.Next + 4, base.Next + 16, base.Next - 16, -base.Next - 1, mostReceived + 1, 1 << 32, math.MinInt, math.MaxInt} {
		list = append(list, badArchive{"another Next", impl.Archive{Rows: base.Rows, Next: next}})
	}
	return list
}

// badPlaceArchives have a level with a row too few or too many, or with rows at the wrong places. The
// level has rows.
func badPlaceArchives(base impl.Archive, level int) []badArchive {
	n, old := levelSizes()[level], base.Rows[level]
	count := len(old)
	first, last := old[0], old[count-1]
	at := func(from int) impl.Row { return span(from, n, 3, 3, 3*n) }
	var list []badArchive
	put := func(why string, rows []impl.Row) {
		list = append(list, badArchive{why, changedArchive(base, func(a *impl.Archive) { a.Rows[level] = rows })})
	}
	move := func(why string, by int) {
		rows := slices.Clone(old)
		for i := range rows {
			rows[i].From += by
		}
		put(why, rows)
	}
	put("a row too few at the beginning", old[1:])
	put("a row too few at the end", old[:count-1])
	put("a row too few in between", slices.Delete(slices.Clone(old), count/2, count/2+1))
	put("a row too many at the beginning", append([]impl.Row{at(first.From - n)}, old...))
	put("a row too many at the end", append(slices.Clone(old), at(last.From+n)))
	put("the last row twice", append(slices.Clone(old), last))
	put("the first row twice", append([]impl.Row{first}, old...))
	put("no rows", nil)
	put("many rows", slices.Repeat(old, 1000))
	move("rows that end too late", n)
	move("rows that end too early", -n)
	move("rows that end much too early", -8*n)
	move("rows at places that are one greater", 1)
	move("rows at places that are one less", -1)
	if count > 1 {
		backwards := slices.Clone(old)
		slices.Reverse(backwards)
		put("rows in the wrong order", backwards)
		put("the first row instead of the second", append([]impl.Row{first, first}, old[2:]...))
		put("a gap after the first row", append([]impl.Row{at(first.From - n)}, old[1:]...))
		put("a gap before the last row", append(slices.Clone(old[:count-1]), at(last.From+n)))
	}
	if n > 1 {
		move("rows at multiples of the size below", n/4)
		move("rows at places in between", n/2)
	}
	return list
}

// badRowsFor are rows that no level has at that place.
func badRowsFor(from, n int) []badArchiveRow {
	list := []badArchiveRow{
		{"a From one greater", span(from+1, n, 3, 3, 3*n)},
		{"a From one less", span(from-1, n, 3, 3, 3*n)},
		{"a From of one row later", span(from+n, n, 3, 3, 3*n)},
		{"a From of one row earlier", span(from-n, n, 3, 3, 3*n)},
		{"a negative From", span(-from-n, n, 3, 3, 3*n)},
		{"a From far below", span(math.MinInt, n, 3, 3, 3*n)},
		{"a From far above", span(math.MaxInt, n, 3, 3, 3*n)},
		{"a Min of -1", span(from, n, -1, 0, 0)},
		{"a Min and Max of -1", span(from, n, -1, -1, -n)},
		{"a Min of -1 with a Sum of all values", span(from, n, -1, 3, 3*n)},
		{"a Max of one too many", span(from, n, 3, mostValue+1, 3*n)},
		{"a Min and Max of one too many", span(from, n, mostValue+1, mostValue+1, n*(mostValue+1))},
		{"a Max of -1", span(from, n, 0, -1, 0)},
		{"a Min of one too many", span(from, n, mostValue+1, mostValue, n*mostValue)},
		{"a Min above Max", span(from, n, 5, 4, 4*n)},
		{"a Min above Max, and the other Sum", span(from, n, 5, 4, 5*n)},
		{"a Min above Max, and a Sum in between", span(from, n, 5, 4, (4*n+5*n)/2)},
		{"a Min far below", span(from, n, math.MinInt, 3, 3)},
		{"a Max far above", span(from, n, 3, math.MaxInt, 3*n)},
		{"a Min of which N times wraps to 0", span(from, n, 1<<62, 1<<62, 0)},
		{"a Max of which N times wraps to 0", span(from, n, 0, 1<<60, 0)},
		{"a Sum far above", span(from, n, 0, mostValue, math.MaxInt)},
		{"a Sum far below", span(from, n, 0, mostValue, math.MinInt)},
	}
	for _, size := range []int{0, 1, 2, 3, 4, 5, 8, 15, 16, 17, 32, 64, -1, -4, -16, n - 1, n + 1, 2 * n, -n, 1 << 62, math.MinInt, math.MaxInt} {
		if size != n {
			list = append(list,
				badArchiveRow{"a wrong N", span(from, size, 3, 3, 3*size)},
				badArchiveRow{"a wrong N of zeros", span(from, size, 0, 0, 0)},
				badArchiveRow{"a wrong N, and any Sum", span(from, size, 0, mostValue, 3*n)},
			)
		}
	}
	for _, r := range []impl.Row{span(0, 0, 0, 0, 0), span(0, 0, 3, 3, 0), span(0, 0, 3, 9, 0), span(0, 0, 0, mostValue, 0), span(0, 0, mostValue, mostValue, 0)} {
		list = append(list,
			badArchiveRow{"a Sum of one too few", span(from, n, r.Min, r.Max, n*r.Min-1)},
			badArchiveRow{"a Sum of one too many", span(from, n, r.Min, r.Max, n*r.Max+1)},
		)
	}
	return list
}

type badArchiveRow struct {
	why string
	r   impl.Row
}

// badRowArchives have one row that does not fit, at the beginning, in between and at the end of the level.
func badRowArchives(base impl.Archive, level int) []badArchive {
	var list []badArchive
	count := len(base.Rows[level])
	for _, i := range slices.Compact([]int{0, count / 2, count - 1}) {
		for _, bad := range badRowsFor(base.Rows[level][i].From, levelSizes()[level]) {
			list = append(list, badArchive{bad.why, changedArchive(base, func(a *impl.Archive) { a.Rows[level][i] = bad.r })})
		}
	}
	return list
}

// tooEarlyArchives have a row on a level that has none yet.
func tooEarlyArchives() []badArchive {
	var list []badArchive
	for _, next := range []int{0, 1, 3, 4, 15} {
		base := archivedBy(next, jumbled)
		for level, n := range levelSizes() {
			if next < n {
				list = append(list, badArchive{"a row of a level that has none yet", changedArchive(base, func(a *impl.Archive) {
					a.Rows[level] = []impl.Row{span(0, n, 0, 0, 0)}
				})})
			}
		}
	}
	return list
}

// allBadArchives are made from archives after all numbers of values at which something happens.
func allBadArchives() []badArchive {
	list := append([]badArchive{
		{"the zero value", impl.Archive{}},
		{"no lists, and a Next", impl.Archive{Next: 5}},
		{"an empty list of lists", impl.Archive{Rows: [][]impl.Row{}}},
		{"after -1 values", laidOut(-1, nil)},
		{"after -16 values", laidOut(-16, nil)},
		{"after one value too many", archivedBy(mostReceived+1, jumbled)},
		{"after 16 values too many", archivedBy(mostReceived+16, jumbled)},
	}, tooEarlyArchives()...)
	for _, next := range someNexts() {
		base := archivedBy(next, jumbled)
		list = append(append(list, badListArchives(base)...), badNextArchives(base)...)
		for level, rows := range base.Rows {
			if len(rows) > 0 {
				list = append(append(list, badPlaceArchives(base, level)...), badRowArchives(base, level)...)
			}
		}
	}
	return list
}

func TestArchiveConstants(t *testing.T) {
	if impl.Levels != 3 || impl.Fold != 4 || impl.Keep != 8 {
		t.Errorf("%d levels, %d rows are folded and %d are kept", impl.Levels, impl.Fold, impl.Keep)
	}
}

func TestNewArchive(t *testing.T) {
	empty := impl.Archive{Rows: [][]impl.Row{nil, nil, nil}}
	a := impl.NewArchive()
	if !equalArchives(a, empty) {
		t.Fatalf("NewArchive is %v", a)
	}
	checkQueries(t, a)
	checkQueries(t, empty)
	checkQueries(t, impl.Archive{Rows: [][]impl.Row{{}, {}, {}}})
	a.Rows[0], a.Next = append(a.Rows[0], span(0, 1, 5, 5, 5)), 1
	a.Rows[1] = nil
	a.Rows = append(a.Rows, nil)
	if again := impl.NewArchive(); !equalArchives(again, empty) {
		t.Errorf("another NewArchive is %v", again)
	}
}

func TestArchivesOfAllSizes(t *testing.T) {
	for _, a := range goodArchives() {
		checkQueries(t, a)
		if !isArchive(a) {
			t.Fatalf("the model says that %v is not valid", a)
		}
	}
}

// TestRowsAtTheirBounds has rows whose Min, Max and Sum are just within what is allowed, or just not.
func TestRowsAtTheirBounds(t *testing.T) {
	for _, next := range []int{1, 8, 16, 20, 143, 144, mostReceived} {
		base := archivedBy(next, jumbled)
		for level, rows := range base.Rows {
			n := levelSizes()[level]
			for i := range rows {
				check := func(least, greatest, sum int, want bool) {
					t.Helper()
					a := cloneArchive(base)
					a.Rows[level][i] = span(rows[i].From, n, least, greatest, sum)
					checkArchive(t, a, want)
				}
				for _, bounds := range [][2]int{{0, 0}, {0, 1}, {1, 1}, {4, 9}, {0, mostValue}, {mostValue - 1, mostValue}, {mostValue, mostValue}} {
					least, greatest := bounds[0], bounds[1]
					check(least, greatest, n*least, true)
					check(least, greatest, n*greatest, true)
					check(least, greatest, n*(least+greatest)/2, true)
					check(least, greatest, n*least-1, false)
					check(least, greatest, n*greatest+1, false)
					check(least-mostValue-1, greatest, n*greatest, false)
					check(least, greatest+mostValue+1, n*least, false)
				}
				check(-1, 5, 5*n, false)
				check(-1, -1, -n, false)
				check(mostValue, mostValue+1, n*mostValue, false)
				check(mostValue+1, mostValue+1, n*(mostValue+1), false)
				check(6, 5, 5*n, false)
			}
		}
	}
}

// TestLevelsNeedNotAgree: the first level that answers counts, whatever the others say.
func TestLevelsNeedNotAgree(t *testing.T) {
	byLevel := func(from, n int) impl.Row { return span(from, n, n, 10*n, 2*n*n) }
	a := laidOut(18, byLevel)
	checkQueries(t, a)
	// Each row says twice its size for each of its values.
	checkSum(t, a, 10, 18, 16)
	checkSum(t, a, 12, 16, 8)
	checkSum(t, a, 8, 16, 64)
	checkSum(t, a, 0, 16, 128)
	checkMax(t, a, 10, 10)
	checkMax(t, a, 12, 10)
	checkMax(t, a, 8, 40)
	checkMax(t, a, 0, 40)
	checkSum(t, laidOut(50, byLevel), 0, 16, 512)
	checkSum(t, laidOut(50, byLevel), 16, 32, 128)
	checkMax(t, laidOut(50, byLevel), 0, 160)
	checkMax(t, laidOut(50, byLevel), 16, 40)
}

func TestWhatIsNoArchive(t *testing.T) {
	for _, bad := range allBadArchives() {
		a := bad.a
		if impl.ArchiveOk(a) || isArchive(a) {
			t.Fatalf("%s: %v is an archive", bad.why, a)
		}
		checkOldest(t, a, -1)
		for _, v := range []int{0, 5, mostValue, -1, mostValue + 1} {
			checkPut(t, a, v, a, false)
		}
		for _, from := range []int{-1, 0, 1, 4, 8, 16, a.Next - 1, a.Next} {
			checkMax(t, a, from, -1)
			for _, to := range []int{from - 1, from, from + 1, from + 4, from + 16, a.Next} {
				checkSum(t, a, from, to, -1)
			}
		}
	}
}

// TestFoldingAtTheFourthValue goes through the first 17 values.
func TestFoldingAtTheFourthValue(t *testing.T) {
	first := []impl.Row{span(0, 1, 9, 9, 9), span(1, 1, 2, 2, 2), span(2, 1, 7, 7, 7), span(3, 1, 4, 4, 4), span(4, 1, 6, 6, 6)}
	four := []impl.Row{span(0, 4, 2, 9, 22)}
	want := []impl.Archive{
		{Rows: [][]impl.Row{nil, nil, nil}},
		{Rows: [][]impl.Row{first[:1], nil, nil}, Next: 1},
		{Rows: [][]impl.Row{first[:2], nil, nil}, Next: 2},
		{Rows: [][]impl.Row{first[:3], nil, nil}, Next: 3},
		{Rows: [][]impl.Row{first[:4], four, nil}, Next: 4},
		{Rows: [][]impl.Row{first[:5], four, nil}, Next: 5},
	}
	values := []int{9, 2, 7, 4, 6}
	for i, v := range values {
		checkPut(t, want[i], v, want[i+1], true)
		checkArchiveOf(t, values[:i+1], want[i+1], true)
	}
	values = append(values, 3, 8, 1, 0, 5, 100, 50, 12, 11, 10, 40)
	level1 := []impl.Row{span(0, 4, 2, 9, 22), span(4, 4, 1, 8, 18), span(8, 4, 0, 100, 155), span(12, 4, 10, 40, 73)}
	level0 := []impl.Row{span(7, 1, 1, 1, 1), span(8, 1, 0, 0, 0), span(9, 1, 5, 5, 5), span(10, 1, 100, 100, 100), span(11, 1, 50, 50, 50), span(12, 1, 12, 12, 12), span(13, 1, 11, 11, 11), span(14, 1, 10, 10, 10), span(15, 1, 40, 40, 40), span(16, 1, 77, 77, 77)}
	level2 := []impl.Row{span(0, 16, 0, 100, 268)}
	at15 := impl.Archive{Rows: [][]impl.Row{level0[:8], level1[:3], nil}, Next: 15}
	at16 := impl.Archive{Rows: [][]impl.Row{level0[1:9], level1, level2}, Next: 16}
	at17 := impl.Archive{Rows: [][]impl.Row{level0[2:10], level1, level2}, Next: 17}
	checkArchiveOf(t, values[:15], at15, true)
	checkPut(t, at15, 40, at16, true)
	checkPut(t, at16, 77, at17, true)
	checkArchiveOf(t, append(values, 77), at17, true)
}

// TestFullLevels looks at the values that are the first for which a level has no room.
func TestFullLevels(t *testing.T) {
	counts := func(a impl.Archive) [3]int {
		return [3]int{len(a.Rows[0]), len(a.Rows[1]), len(a.Rows[2])}
	}
	firsts := func(a impl.Archive) [3]int {
		return [3]int{a.Rows[0][0].From, a.Rows[1][0].From, a.Rows[2][0].From}
	}
	a := impl.NewArchive()
	for i := range 200 {
		old := a
		a, _ = impl.PutValue(a, jumbled(i))
		switch next := i + 1; next {
		case 8:
			if counts(a) != [3]int{8, 2, 0} || a.Rows[0][0].From != 0 {
				t.Errorf("after 8 values there is %v", a)
			}
		case 9:
			if counts(a) != [3]int{8, 2, 0} || a.Rows[0][0].From != 1 || a.Rows[0][7].From != 8 {
				t.Errorf("after 9 values there is %v", a)
			}
		case 32:
			if counts(a) != [3]int{8, 8, 2} || firsts(a) != [3]int{24, 0, 0} {
				t.Errorf("after 32 values there is %v", a)
			}
		case 35:
			if counts(a) != [3]int{8, 8, 2} || firsts(a) != [3]int{27, 0, 0} {
				t.Errorf("after 35 values there is %v", a)
			}
		case 36:
			if counts(a) != [3]int{8, 8, 2} || firsts(a) != [3]int{28, 4, 0} || a.Rows[1][7].From != 32 {
				t.Errorf("after 36 values there is %v", a)
			}
		case 128, 143:
			if counts(a) != [3]int{8, 8, 8} || a.Rows[2][0].From != 0 {
				t.Errorf("after %d values there is %v", next, a)
			}
		case 144:
			if counts(a) != [3]int{8, 8, 8} || firsts(a) != [3]int{136, 112, 16} || a.Rows[2][7].From != 128 {
				t.Errorf("after 144 values there is %v", a)
			}
		}
		if !equalArchives(a, archivedBy(i+1, jumbled)) || !equalArchives(a, received(old, jumbled(i))) {
			t.Fatalf("after %d values there is %v", i+1, a)
		}
		checkArchive(t, a, true)
	}
}

func TestPutValueAtTheBoundaries(t *testing.T) {
	for _, a := range goodArchives() {
		for _, v := range []int{0, 1, 5, mostValue - 1, mostValue} {
			if a.Next == mostReceived {
				checkPut(t, a, v, a, false)
			} else {
				checkPut(t, a, v, received(a, v), true)
			}
		}
		for _, v := range noValues() {
			checkPut(t, a, v, a, false)
		}
	}
}

func TestPutValueUpToTheLastOne(t *testing.T) {
	a := archivedBy(mostReceived-40, jumbled)
	for next := mostReceived - 40; next < mostReceived; next++ {
		want := archivedBy(next+1, jumbled)
		checkPut(t, a, jumbled(next), want, true)
		checkPut(t, a, -1, a, false)
		a = want
	}
	checkQueries(t, a)
	checkPut(t, a, 0, a, false)
	checkPut(t, a, mostValue, a, false)
	last := impl.Archive{Next: mostReceived + 1, Rows: received(a, 7).Rows}
	checkArchive(t, last, false)
	if got, _ := impl.PutValue(archivedBy(999999, jumbled), 8); got.Next != 1000000 || len(got.Rows[2]) != 8 || got.Rows[2][7].From != 999984 {
		t.Errorf("after the last value there is %v", got)
	}
}

// TestFoldingWhatIsThere: a row is made from the rows below it, whatever the values were.
func TestFoldingWhatIsThere(t *testing.T) {
	level0 := []impl.Row{span(12, 1, 3, 8, 5), span(13, 1, 0, 9, 9), span(14, 1, 2, 2, 2)}
	level1 := []impl.Row{span(0, 4, 10, 20, 50), span(4, 4, 30, 90, 123), span(8, 4, 40, 60, 200)}
	older := []impl.Row{span(7, 1, 1, 1, 1), span(8, 1, 0, mostValue, 700), span(9, 1, 0, 0, 0), span(10, 1, 9, 9, 9), span(11, 1, 8, 8, 8)}
	a := impl.Archive{Rows: [][]impl.Row{slices.Concat(older, level0), level1, nil}, Next: 15}
	want := impl.Archive{
		Rows: [][]impl.Row{
			slices.Concat(older[1:], level0, []impl.Row{span(15, 1, 70, 70, 70)}),
			append(slices.Clone(level1), span(12, 4, 0, 70, 86)),
			{span(0, 16, 0, 90, 459)},
		},
		Next: 16,
	}
	checkPut(t, a, 70, want, true)
	random := rand.New(rand.NewSource(151))
	for range 3000 {
		a := discordant(random, random.Intn(200))
		if random.Intn(3) == 0 {
			a = discordant(random, mostReceived-random.Intn(200))
		}
		v := sometimes(random, 0, 3, 700, mostValue)
		if a.Next == mostReceived {
			checkPut(t, a, v, a, false)
		} else {
			checkPut(t, a, v, received(a, v), true)
		}
	}
}

// TestSeveralArchivesFromOne: two archives that go on from one do not disturb each other.
func TestSeveralArchivesFromOne(t *testing.T) {
	for next := range 60 {
		a, _ := impl.ArchiveOf(slices.Repeat([]int{5}, next))
		kept := cloneArchive(a)
		var results, wants []impl.Archive
		for _, v := range []int{3, 9, 27} {
			b, _ := impl.PutValue(a, v)
			c, _ := impl.PutValue(b, v+1)
			results = append(results, b, c)
			wants = append(wants, received(kept, v), received(received(kept, v), v+1))
		}
		if !equalArchives(a, kept) || !slices.EqualFunc(results, wants, equalArchives) {
			t.Fatalf("from %v come %v and not %v", kept, results, wants)
		}
	}
}

func TestArchiveOfCases(t *testing.T) {
	empty := impl.Archive{Rows: [][]impl.Row{nil, nil, nil}}
	checkArchiveOf(t, nil, empty, true)
	checkArchiveOf(t, []int{}, empty, true)
	checkArchiveOf(t, []int{0}, archived(0), true)
	checkArchiveOf(t, []int{5}, impl.Archive{Rows: [][]impl.Row{{span(0, 1, 5, 5, 5)}, nil, nil}, Next: 1}, true)
	checkArchiveOf(t, []int{mostValue}, archived(mostValue), true)
	var values []int
	for i := range 300 {
		values = append(values, jumbled(i))
		checkArchiveOf(t, values, archived(values...), true)
	}
	for _, v := range []int{0, 1, mostValue} {
		checkArchiveOf(t, slices.Repeat([]int{v}, 300), archived(slices.Repeat([]int{v}, 300)...), true)
		for _, n := range []int{301, 302, 304, 600, 100000} {
			checkArchiveOf(t, slices.Repeat([]int{v}, n), impl.Archive{}, false)
		}
	}
}

func TestArchiveOfWhatIsNoValue(t *testing.T) {
	for _, bad := range noValues() {
		checkArchiveOf(t, []int{bad}, impl.Archive{}, false)
		for _, n := range []int{1, 3, 4, 15, 16, 100, 299} {
			for _, at := range []int{0, n / 2, n - 1, n} {
				checkArchiveOf(t, slices.Insert(slices.Repeat([]int{7}, n), at, bad), impl.Archive{}, false)
			}
		}
		checkArchiveOf(t, append(make([]int, 300), bad), impl.Archive{}, false)
	}
}

// TestSumOverCases has an archive with the values 0 to 49. Level 0 begins with 42, level 1, which ends at
// 48, with 16, and level 2, which ends at 48, with 0.
func TestSumOverCases(t *testing.T) {
	a := archivedBy(50, func(i int) int { return i })
	cases := []struct {
		why            string
		from, to, want int
	}{
		{"from equal to to", 45, 45, 0},
		{"from equal to to at the beginning", 0, 0, 0},
		{"from equal to to inside a row", 3, 3, 0},
		{"from equal to to at the end", 50, 50, 0},
		{"from equal to to beyond the end", 51, 51, 0},
		{"from equal to to, negative", -7, -7, 0},
		{"from equal to to, far below", math.MinInt, math.MinInt, 0},
		{"from equal to to, far above", math.MaxInt, math.MaxInt, 0},
		{"from greater than to", 46, 45, -1},
		{"from greater than to, both whole rows", 32, 16, -1},
		{"from greater than to, both the bounds of a row", 16, 0, -1},
		{"from far greater than to", math.MaxInt, math.MinInt, -1},
		{"from far less than to", math.MinInt, math.MaxInt, -1},
		{"a negative from", -1, 16, -1},
		{"a negative from of a row", -16, 0, -1},
		{"a negative from and to", -5, -1, -1},
		{"a negative from until the end", -1, 50, -1},
		{"a to beyond Next", 42, 51, -1},
		{"a to beyond Next of a row", 48, 52, -1},
		{"a to beyond Next of a row of level 2", 48, 64, -1},
		{"beyond Next", 50, 51, -1},
		{"far beyond Next", 64, 80, -1},
		{"the first value of level 0", 42, 43, 42},
		{"the last value of level 0", 49, 50, 49},
		{"all of level 0", 42, 50, 364},
		{"a part of level 0", 45, 48, 138},
		{"a row of level 1 that lies on level 0", 44, 48, 182},
		{"the value before level 0", 41, 42, -1},
		{"one value before level 0", 41, 50, -1},
		{"a row of level 1 and the values after it", 40, 49, -1},
		{"the last rows of level 1", 40, 48, 348},
		{"the last row of level 1 that level 0 does not have", 40, 44, 166},
		{"the first row of level 1", 16, 20, 70},
		{"all of level 1", 16, 48, 1008},
		{"rows of level 1", 20, 36, 440},
		{"a row of level 1 without its first value", 17, 20, -1},
		{"a row of level 1 without its last value", 16, 19, -1},
		{"inside a row of level 1", 17, 19, -1},
		{"from the middle of a row of level 1 to the middle of another", 18, 30, -1},
		{"the row before level 1", 12, 16, -1},
		{"a row of level 2 that level 1 also has", 32, 48, 632},
		{"a row of level 2", 0, 16, 120},
		{"two rows of level 2", 0, 32, 496},
		{"all of level 2", 0, 48, 1128},
		{"a row of level 2 without its last quarter", 0, 12, -1},
		{"a row of level 2 without its first quarter", 4, 16, -1},
		{"a row of level 2 and one of level 1", 0, 20, -1},
		{"from a row of level 1 to the end of level 2", 12, 32, -1},
		{"a row of level 2 without its last value", 0, 15, -1},
		{"a row of level 2 without its first value", 1, 16, -1},
		{"all values", 0, 50, -1},
		{"from level 1 to the last value", 16, 50, -1},
	}
	for _, c := range cases {
		if got := impl.SumOver(a, c.from, c.to); got != c.want {
			t.Errorf("%s: SumOver(%d, %d) is %d and not %d", c.why, c.from, c.to, got, c.want)
		}
		checkSum(t, changedArchive(a, func(a *impl.Archive) { a.Next++ }), c.from, c.to, -1)
	}
	checkQueries(t, a)
}

// TestSumsOlderThanEveryRow has archives that dropped rows of all levels.
func TestSumsOlderThanEveryRow(t *testing.T) {
	for _, next := range []int{144, 150, 160, 300, mostReceived} {
		a := archivedBy(next, func(i int) int { return 1 })
		oldest := oldestIn(a)
		checkSum(t, a, oldest-16, oldest, -1)
		checkSum(t, a, oldest-16, oldest+16, -1)
		checkSum(t, a, oldest-1, oldest, -1)
		checkSum(t, a, 0, 1, -1)
		checkSum(t, a, 0, 16, -1)
		checkSum(t, a, oldest, oldest+16, 16)
		checkSum(t, a, oldest, oldest+128, 128)
	}
}

// TestMaxSinceCases has 22 values: level 0 begins with 14, level 1, which ends at 20, with 0, and level 2,
// which ends at 16, with 0.
func TestMaxSinceCases(t *testing.T) {
	a := archived(50, 1, 2, 3, 40, 5, 6, 7, 30, 9, 10, 11, 12, 13, 25, 15, 16, 70, 20, 19, 99, 21)
	cases := []struct {
		why        string
		from, want int
	}{
		{"the first row of level 0", 14, 99},
		{"a row of level 0 that begins on level 1 too", 16, 99},
		{"a row of level 0 after the greatest of level 1", 18, 99},
		{"the greatest of level 0", 20, 99},
		{"the last row of level 0", 21, 21},
		{"the first row of levels 1 and 2", 0, 70},
		{"a row of level 1", 4, 70},
		{"the last row of level 1 that level 0 does not have", 12, 70},
		{"no row's From", 1, -1},
		{"no row's From inside level 1", 13, -1},
		{"the end", 22, -1},
		{"the end of level 1 is a row of level 0", 20, 99},
		{"beyond the end", 24, -1},
		{"a negative one", -1, -1},
		{"a negative one of level 1", -4, -1},
		{"a negative one of level 2", -16, -1},
		{"far below", math.MinInt, -1},
		{"far above", math.MaxInt, -1},
	}
	for _, c := range cases {
		if got := impl.MaxSince(a, c.from); got != c.want {
			t.Errorf("%s: MaxSince(%d) is %d and not %d", c.why, c.from, got, c.want)
		}
		checkMax(t, impl.Archive{Rows: a.Rows, Next: 23}, c.from, -1)
	}
	old := archivedBy(50, func(i int) int { return 1000 - i })
	for _, from := range []int{0, 16, 20, 40, 42, 49} {
		checkMax(t, old, from, 1000-from)
	}
	for _, from := range []int{4, 8, 12, 17, 41, 50} {
		checkMax(t, old, from, -1)
	}
	checkMax(t, archivedBy(50, func(i int) int { return i }), 0, 47)
	checkMax(t, archivedBy(50, func(i int) int { return i }), 16, 47)
	checkMax(t, archivedBy(50, func(i int) int { return i }), 44, 49)
	checkMax(t, archivedBy(20, func(i int) int { return 0 }), 0, 0)
}

func TestOldestPlaces(t *testing.T) {
	checkOldest(t, impl.NewArchive(), -1)
	a := impl.NewArchive()
	for i := range 400 {
		a, _ = impl.PutValue(a, 5)
		want := 0
		if i+1 >= 144 {
			want = (i+1)/16*16 - 128
		}
		checkOldest(t, a, want)
	}
	for next, want := range map[int]int{1: 0, 8: 0, 9: 0, 36: 0, 143: 0, 144: 16, 159: 16, 160: 32, 999999: 999856, 1000000: 999872} {
		checkOldest(t, archivedBy(next, jumbled), want)
	}
}

// checkExact is promise 15, for the archive of these values. It returns how many sums were told.
func checkExact(t *testing.T, a impl.Archive, values []int) int {
	t.Helper()
	before := []int{0}
	for i, v := range values {
		before = append(before, before[i]+v)
	}
	n, told := len(values), 0
	for from := max(0, n-160); from <= n; from++ {
		for to := from; to <= n; to++ {
			sum := impl.SumOver(a, from, to)
			if sum != -1 && sum != before[to]-before[from] {
				t.Fatalf("of %v SumOver(%d, %d) is %d and not %d", values, from, to, sum, before[to]-before[from])
			}
			told += one(sum != -1 && from < to)
			if sum == -1 && (from >= n-8 || from == to) {
				t.Fatalf("after %d values SumOver(%d, %d) is not known", n, from, to)
			}
		}
	}
	return told
}

// toldSums is how many spans the archive after n values knows: of each level all that begin and end with
// its rows, and of these those once that another level knows too.
func toldSums(n int) int {
	spans := map[[2]int]bool{}
	for _, size := range levelSizes() {
		end := n - n%size
		for from := max(0, end-8*size); from < end; from += size {
			for to := from + size; to <= end; to += size {
				spans[[2]int{from, to}] = true
			}
		}
	}
	return len(spans)
}

func TestSumsAreExact(t *testing.T) {
	random := rand.New(rand.NewSource(152))
	for range 60 {
		values := randomValues(random, 1+random.Intn(300))
		a, ok := impl.ArchiveOf(values)
		if !ok || !equalArchives(a, archived(values...)) {
			t.Fatalf("ArchiveOf(%v) is %v, %v", values, a, ok)
		}
		if told := checkExact(t, a, values); told != toldSums(len(values)) {
			t.Fatalf("after %d values %d sums are known and not %d", len(values), told, toldSums(len(values)))
		}
	}
}

// TestSumsAreExactAfterEachValue goes on with more values than a list may have.
func TestSumsAreExactAfterEachValue(t *testing.T) {
	random := rand.New(rand.NewSource(153))
	values := append(append(randomValues(random, 170), randomValues(random, 290)...), randomValues(random, 240)...)
	a := impl.NewArchive()
	for i, v := range values {
		a, _ = impl.PutValue(a, v)
		if i < 170 && i%3 == 0 || i%37 == 0 || i == len(values)-1 {
			if told := checkExact(t, a, values[:i+1]); told != toldSums(i+1) {
				t.Fatalf("after %d values %d sums are known and not %d", i+1, told, toldSums(i+1))
			}
		}
		if !equalArchives(a, archived(values[:i+1]...)) {
			t.Fatalf("after %v there is %v", values[:i+1], a)
		}
		checkMax(t, a, i, v)
		checkMax(t, a, max(0, i-7), maxIn(a, max(0, i-7)))
	}
}

// archiveResults are the results of all functions of chapter 15, refused calls among them.
type archiveResults struct {
	archives []impl.Archive
	numbers  []int
}

func (r *archiveResults) archive(a impl.Archive, ok bool) {
	r.archives = append(r.archives, a)
	r.numbers = append(r.numbers, one(ok))
}

func archiveResultsOf(a impl.Archive, values []int) archiveResults {
	var r archiveResults
	r.archive(impl.NewArchive(), impl.ArchiveOk(a))
	r.archive(impl.NewArchive(), true)
	r.archive(impl.ArchiveOf(values))
	r.archive(impl.ArchiveOf(values[:len(values)/2]))
	r.archive(impl.ArchiveOf(nil))
	for _, v := range []int{-1, 0, 5, mostValue, mostValue + 1} {
		r.archive(impl.PutValue(a, v))
	}
	r.numbers = append(r.numbers, impl.OldestPlace(a))
	for _, from := range []int{-1, 0, 16, a.Next - 21, a.Next - 8, a.Next - 5, a.Next - 4, a.Next - 1, a.Next} {
		r.numbers = append(r.numbers, impl.MaxSince(a, from))
		for _, to := range []int{0, 16, from, from + 4, from + 16, a.Next - 1, a.Next, a.Next + 1} {
			r.numbers = append(r.numbers, impl.SumOver(a, from, to))
		}
	}
	return r
}

func (r archiveResults) equal(q archiveResults) bool {
	return slices.Equal(r.numbers, q.numbers) && slices.EqualFunc(r.archives, q.archives, equalArchives)
}

// ownMemory overwrites every slice with a value of its own, and reports whether each still holds its
// value afterwards.
func (r archiveResults) ownMemory() bool {
	var lists [][]impl.Row
	for _, a := range r.archives {
		lists = append(lists, a.Rows...)
	}
	for i, rows := range lists {
		fill(rows, span(-20-i, i, i, i, i))
	}
	for i, rows := range lists {
		if !filled(rows, span(-20-i, i, i, i, i)) {
			return false
		}
	}
	return r.ownLists()
}

// ownLists does the same with the slices of lists, each of which gets lists of another length.
func (r archiveResults) ownLists() bool {
	for i, a := range r.archives {
		fill(a.Rows, make([]impl.Row, 20+i))
	}
	for i, a := range r.archives {
		for _, rows := range a.Rows[:cap(a.Rows)] {
			if len(rows) != 20+i {
				return false
			}
		}
	}
	return true
}

// archiveArguments have all lists in the middle of arrays, so that writes beside them show too.
type archiveArguments struct {
	a      impl.Archive
	values []int
	rows   [][]impl.Row
	lists  [][]impl.Row
	all    []int
}

func archiveArgumentsOf(a impl.Archive, values []int) *archiveArguments {
	g := &archiveArguments{a: impl.Archive{Next: a.Next}}
	g.lists, g.a.Rows = padded(a.Rows, []impl.Row{span(9, 9, 9, 9, 9)})
	for i, rows := range g.a.Rows {
		var array []impl.Row
		array, g.a.Rows[i] = padded(rows, span(7, 7, 7, 7, 7))
		g.rows = append(g.rows, array)
	}
	g.all, g.values = padded(values, 66)
	return g
}

func (g *archiveArguments) equal(h *archiveArguments) bool {
	same := func(a, b [][]impl.Row) bool { return slices.EqualFunc(a, b, slices.Equal[[]impl.Row]) }
	return same(g.rows, h.rows) && same(g.lists, h.lists) && slices.Equal(g.all, h.all)
}

type archiveCase struct {
	a      impl.Archive
	values []int
}

// archiveCases combine some of all that this file knows, with what is invalid.
func archiveCases(seed int64, n int) []archiveCase {
	random := rand.New(rand.NewSource(seed))
	good := goodArchives()
	var bad []impl.Archive
	for _, b := range allBadArchives() {
		if len(b.a.Rows) < 100 && len(slices.Concat(b.a.Rows...)) < 100 {
			bad = append(bad, b.a)
		}
	}
	var cases []archiveCase
	for range n {
		values := randomValues(random, sometimes(random, 1, 2, 5, 20, 100, 300, 301))
		if random.Intn(3) == 0 {
			values[random.Intn(len(values))] = sometimes(random, noValues()...)
		}
		a := good[random.Intn(len(good))]
		switch random.Intn(4) {
		case 0:
			a = bad[random.Intn(len(bad))]
		case 1:
			a = discordant(random, random.Intn(200))
		}
		cases = append(cases, archiveCase{a, values})
	}
	return cases
}

func TestArchivesAreNewMemory(t *testing.T) {
	for _, c := range archiveCases(154, 500) {
		given, kept := archiveArgumentsOf(c.a, c.values), archiveArgumentsOf(c.a, c.values)
		results := archiveResultsOf(given.a, given.values)
		if !given.equal(kept) {
			t.Fatalf("an argument of %v was changed", c)
		}
		if !results.ownMemory() {
			t.Fatalf("results for %v share memory with each other", c)
		}
		if !given.equal(kept) {
			t.Fatalf("a result for %v shares memory with an argument", c)
		}
		if !archiveResultsOf(given.a, given.values).equal(archiveResultsOf(c.a, c.values)) {
			t.Fatalf("results for %v depend on what was done with earlier ones", c)
		}
	}
}

// TestRefusedArchivesAreNewMemory: what is given back together with false is a copy too.
func TestRefusedArchivesAreNewMemory(t *testing.T) {
	list := append(allBadArchives(), badArchive{"a full one", archivedBy(mostReceived, jumbled)})
	for _, bad := range list {
		a := cloneArchive(bad.a)
		for _, v := range []int{5, -1} {
			got, ok := impl.PutValue(a, v)
			for _, rows := range got.Rows {
				fill(rows, span(-5, -5, -5, -5, -5))
			}
			fill(got.Rows, nil)
			if ok || !equalArchives(a, bad.a) {
				t.Fatalf("%s: a refused call returns %v, or memory of the argument, which is %v", bad.why, ok, a)
			}
		}
	}
}

// TestArchivesKeepNothing: what was found out about one archive or list is not used for another one, even
// if it lies in the same memory.
func TestArchivesKeepNothing(t *testing.T) {
	cases := archiveCases(155, 300)
	var first []archiveResults
	for _, c := range cases {
		first = append(first, archiveResultsOf(c.a, c.values))
	}
	rows, lists, list := make([]impl.Row, 200), make([][]impl.Row, 10), make([]int, 400)
	for i := len(cases) - 1; i >= 0; i-- {
		c := cases[i]
		a := impl.Archive{Rows: lists[:len(c.a.Rows)], Next: c.a.Next}
		at := 0
		for level, old := range c.a.Rows {
			end := at + copy(rows[at:], old)
			a.Rows[level] = rows[at:end]
			at = end
		}
		values := list[:copy(list, c.values)]
		if again := archiveResultsOf(a, values); !again.equal(first[i]) {
			t.Fatalf("the results for %v are %v and then %v", c, first[i], again)
		}
	}
}

// TestArchivesOfAnyNumbers: no call panics, and only what is valid is changed.
func TestArchivesOfAnyNumbers(t *testing.T) {
	numbers := []int{math.MinInt, math.MinInt + 1, -mostReceived, -16, -1, 0, 0, 0, 1, 3, 4, 5, 8, 16, mostReceived, mostReceived + 1, 1 << 60, 1 << 62, math.MaxInt - 1, math.MaxInt}
	random := rand.New(rand.NewSource(156))
	some := func() int { return sometimes(random, numbers...) }
	for range 5000 {
		a := impl.Archive{Rows: make([][]impl.Row, sometimes(random, 0, 1, 2, 3, 3, 3, 4)), Next: some()}
		for level := range a.Rows {
			for range sometimes(random, 0, 0, 1, 4, 8, 9) {
				a.Rows[level] = append(a.Rows[level], span(some(), some(), some(), some(), some()))
			}
		}
		checkArchive(t, a, isArchive(a))
		if isArchive(a) {
			checkQueries(t, a)
			continue
		}
		v, from, to := some(), some(), some()
		checkPut(t, a, v, a, false)
		checkSum(t, a, from, to, -1)
		checkMax(t, a, from, -1)
		checkOldest(t, a, -1)
		archiveResultsOf(a, []int{v, from, to})
	}
	for _, a := range []impl.Archive{archivedBy(300, jumbled), archivedBy(mostReceived, jumbled)} {
		for range 2000 {
			from, to := some(), some()
			checkSum(t, a, from, to, sumIn(a, from, to))
			checkMax(t, a, from, maxIn(a, from))
		}
	}
}

// TestOneWrongNumber changes one number of a valid archive.
func TestOneWrongNumber(t *testing.T) {
	random := rand.New(rand.NewSource(157))
	wrong := 0
	for range 20000 {
		a := discordant(random, sometimes(random, random.Intn(40), random.Intn(300), mostReceived-random.Intn(50)))
		by := sometimes(random, -16, -4, -1, 1, 4, 16, -1, 1)
		level := random.Intn(3)
		if len(a.Rows[level]) == 0 {
			a.Next += by
		} else {
			r := &a.Rows[level][random.Intn(len(a.Rows[level]))]
			field := []*int{&r.From, &r.N, &r.Min, &r.Max, &r.Sum, &r.Sum, &a.Next}[random.Intn(7)]
			*field += by
		}
		checkArchive(t, a, isArchive(a))
		wrong += one(!isArchive(a))
	}
	if wrong < 5000 || wrong > 19000 {
		t.Errorf("%d of 20000 archives are not valid", wrong)
	}
}

// TestSchedulesDoNotMatterForArchives makes the same calls many times, many of them at once, with few
// processors and with many.
func TestSchedulesDoNotMatterForArchives(t *testing.T) {
	defer runtime.GOMAXPROCS(runtime.GOMAXPROCS(0))
	for i, c := range archiveCases(158, 30) {
		runtime.GOMAXPROCS([]int{1, 2, 8}[i%3])
		want := archiveResultsOf(c.a, c.values)
		var callers sync.WaitGroup
		for range 8 {
			callers.Add(1)
			go func() {
				defer callers.Done()
				for range 2 {
					if !archiveResultsOf(c.a, c.values).equal(want) {
						t.Errorf("the same calls for %v have other results", c)
					}
				}
			}()
		}
		callers.Wait()
	}
}

func TestArchivesLeaveNoGoroutine(t *testing.T) {
	before := runtime.NumGoroutine()
	for _, c := range archiveCases(159, 100) {
		archiveResultsOf(c.a, c.values)
	}
	checkGoroutines(t, before)
}
