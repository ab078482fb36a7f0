package tests

import (
	"cmp"
	"math"
	"math/rand"
	"runtime"
	"slices"
	"sync"
	"testing"

	"loop.example/g00681/impl"
)

const (
	// lastKey is the greatest key.
	lastKey = 1000000000
	// mostAdded is the most that one addition adds.
	mostAdded = 1000000
	// fullTotal is the greatest Total of a sketch and the greatest Count of a heavy hitter.
	fullTotal = 1000000000000
)

// adding lists the Key and the N of each addition.
func adding(numbers ...int) []impl.Add {
	var adds []impl.Add
	for i := 0; i < len(numbers); i += 2 {
		adds = append(adds, impl.Add{Key: numbers[i], N: numbers[i+1]})
	}
	return adds
}

// noKeys are numbers just below and just above the keys, and far away from them.
func noKeys() []int {
	return []int{-1, lastKey + 1, -2, lastKey + 2, -lastKey, 2 * lastKey, math.MinInt, math.MaxInt}
}

// noAmounts are what is not to be added.
func noAmounts() []int {
	return []int{0, mostAdded + 1, -1, 2 * mostAdded, fullTotal, -mostAdded, math.MinInt, math.MaxInt}
}

// column is the model of ColOf. It reduces each factor first, where the program multiplies.
func column(row, key int) int {
	factor := []int{55988, 5952, 21437, 36922}[row]
	return ((key+1)%65521*factor%65521 + []int{0, 97, 194, 291}[row]) % 65521 & 15
}

func emptySketch() impl.Sketch {
	s := impl.Sketch{}
	for range 4 {
		s.Cells = append(s.Cells, make([]int, 16))
	}
	return s
}

// sketched is the model of a sketch to which the additions are made.
func sketched(adds []impl.Add) impl.Sketch {
	s := emptySketch()
	for _, a := range adds {
		s.Total += a.N
		for row := range 4 {
			s.Cells[row][column(row, a.Key)] += a.N
		}
	}
	return s
}

// piled has all it counts in one column of each row. No key need have those columns.
func piled(total int, columns ...int) impl.Sketch {
	s := emptySketch()
	s.Total = total
	for row, col := range columns {
		s.Cells[row][col] = total
	}
	return s
}

// estimated is the model of Estimate.
func estimated(s impl.Sketch, key int) int {
	least := math.MaxInt
	for row := range 4 {
		least = min(least, s.Cells[row][column(row, key)])
	}
	return least
}

// counted is how much of the key is added.
func counted(adds []impl.Add, key int) int {
	count := 0
	for _, a := range adds {
		if a.Key == key {
			count += a.N
		}
	}
	return count
}

func sumOfAdds(adds []impl.Add) int {
	total := 0
	for _, a := range adds {
		total += a.N
	}
	return total
}

func cloneSketch(s impl.Sketch) impl.Sketch {
	c := impl.Sketch{Total: s.Total}
	for _, cells := range s.Cells {
		c.Cells = append(c.Cells, slices.Clone(cells))
	}
	return c
}

func equalSketches(a, b impl.Sketch) bool {
	return a.Total == b.Total && equalLists(a.Cells, b.Cells)
}

func checkAddKey(t *testing.T, s impl.Sketch, key, n int, want impl.Sketch, wantOk bool) {
	t.Helper()
	if got, ok := impl.AddKey(s, key, n); ok != wantOk || !equalSketches(got, want) {
		t.Fatalf("AddKey(%v, %d, %d) is %v, %v and not %v, %v", s, key, n, got, ok, want, wantOk)
	}
}

func checkMergeSketch(t *testing.T, a, b, want impl.Sketch, wantOk bool) {
	t.Helper()
	if got, ok := impl.MergeSketch(a, b); ok != wantOk || !equalSketches(got, want) {
		t.Fatalf("MergeSketch(%v, %v) is %v, %v and not %v, %v", a, b, got, ok, want, wantOk)
	}
}

func checkEstimate(t *testing.T, s impl.Sketch, key, want int) {
	t.Helper()
	if got := impl.Estimate(s, key); got != want {
		t.Fatalf("Estimate(%v, %d) is %d and not %d", s, key, got, want)
	}
}

// added makes all additions to an empty sketch, each of which has to succeed.
func added(t *testing.T, adds []impl.Add) impl.Sketch {
	t.Helper()
	s := impl.NewSketch()
	for i, a := range adds {
		var ok bool
		s, ok = impl.AddKey(s, a.Key, a.N)
		if !ok || !impl.SketchOk(s) {
			t.Fatalf("after addition %d of %v the sketch is %v, %v", i, adds, s, ok)
		}
	}
	return s
}

func TestColumns(t *testing.T) {
	for _, c := range []struct {
		key     int
		columns []int
	}{
		{0, []int{4, 1, 15, 13}},
		{1, []int{7, 1, 12, 6}},
		{7, []int{10, 1, 8, 15}},
		{65519, []int{13, 2, 6, 10}},
		{65520, []int{0, 1, 2, 3}},
		{65521, []int{4, 1, 15, 13}},
		{123456789, []int{6, 10, 15, 3}},
		{lastKey - 1, []int{10, 1, 8, 0}},
		{lastKey, []int{13, 1, 5, 9}},
	} {
		for row, want := range c.columns {
			if got := impl.ColOf(row, c.key); got != want || column(row, c.key) != want {
				t.Errorf("ColOf(%d, %d) is %d and not %d, and the model %d", row, c.key, got, want, column(row, c.key))
			}
		}
	}
}

func TestColumnsByTheModel(t *testing.T) {
	random := rand.New(rand.NewSource(130))
	for i := range 100000 {
		key := i
		if i >= 70000 {
			key = random.Intn(lastKey + 1)
		}
		for row := range 4 {
			if got := impl.ColOf(row, key); got != column(row, key) {
				t.Fatalf("ColOf(%d, %d) is %d and not %d", row, key, got, column(row, key))
			}
		}
	}
}

func TestColumnsOfNoRowAndNoKey(t *testing.T) {
	for _, row := range []int{math.MinInt, -4, -1, 4, 5, 16, math.MaxInt} {
		for _, key := range append(noKeys(), 0, 1, 7, lastKey-1, lastKey) {
			if got := impl.ColOf(row, key); got != -1 {
				t.Errorf("ColOf(%d, %d) is %d", row, key, got)
			}
		}
	}
	for row := range 4 {
		for _, key := range noKeys() {
			if got := impl.ColOf(row, key); got != -1 {
				t.Errorf("ColOf(%d, %d) is %d", row, key, got)
			}
		}
		for _, key := range []int{0, lastKey} {
			if got := impl.ColOf(row, key); got < 0 || got > 15 {
				t.Errorf("ColOf(%d, %d) is %d", row, key, got)
			}
		}
	}
}

// goodSketches are ordinary ones and those at the bounds.
func goodSketches() []impl.Sketch {
	full := emptySketch()
	full.Total = fullTotal
	for row := range 4 {
		for col := range 16 {
			full.Cells[row][col] = fullTotal / 16
		}
	}
	return []impl.Sketch{
		emptySketch(),
		sketched(adding(7, 5)),
		sketched(adding(7, 5, 8, 2)),
		sketched(adding(0, 1, lastKey, mostAdded, 53, 4, 31, 4, 24, 4)),
		piled(1, 0, 0, 0, 0),
		piled(1, 15, 15, 15, 15),
		piled(9, 15, 0, 7, 8),
		piled(fullTotal-1, 3, 4, 5, 6),
		piled(fullTotal, 0, 0, 0, 0),
		piled(fullTotal, 15, 0, 15, 0),
		full,
	}
}

type badSketch struct {
	why string
	s   impl.Sketch
}

func changedSketch(s impl.Sketch, change func(s *impl.Sketch)) impl.Sketch {
	s = cloneSketch(s)
	change(&s)
	return s
}

// badRowSketches have one row that is not as it should be.
func badRowSketches() []badSketch {
	var list []badSketch
	for row := range 4 {
		for _, c := range []struct {
			why   string
			base  impl.Sketch
			cells []int
		}{
			{"a row with one column too few", piled(5, 3, 3, 3, 3), append([]int{5}, make([]int, 14)...)},
			{"a row with one column too many", piled(5, 3, 3, 3, 3), append([]int{5}, make([]int, 16)...)},
			{"a row that counts in a column too many", piled(5, 3, 3, 3, 3), append(make([]int, 16), 5)},
			{"a row of one column", piled(5, 3, 3, 3, 3), []int{5}},
			{"a row of no columns", emptySketch(), nil},
			{"a row of many columns", emptySketch(), make([]int, 100000)},
			{"a negative cell first", piled(5, 3, 3, 3, 3), append([]int{-1, 6}, make([]int, 14)...)},
			{"a negative cell last", piled(5, 3, 3, 3, 3), append(make([]int, 14), 6, -1)},
			{"a negative cell in a row that adds up to 0", emptySketch(), append(make([]int, 14), 1, -1)},
			{"a row that adds up to one less", piled(5, 3, 3, 3, 3), append(make([]int, 14), 4, 0)},
			{"a row that adds up to one more", piled(5, 3, 3, 3, 3), append(make([]int, 14), 4, 2)},
			{"a row that adds up to one more in its last cell", piled(5, 3, 3, 3, 3), append(make([]int, 14), 5, 1)},
			{"a row that adds up to nothing", piled(5, 3, 3, 3, 3), make([]int, 16)},
			{"a row of which the others have nothing", emptySketch(), append(make([]int, 15), 5)},
			{"a row that adds up to 2^64", emptySketch(), append(make([]int, 12), 1<<62, 1<<62, 1<<62, 1<<62)},
			{"a row that adds up to 2^64 and the Total", piled(5, 3, 3, 3, 3), append(make([]int, 11), 1<<62, 1<<62, 1<<62, 1<<62, 5)},
			{"a row that adds up to 2^64 and the Total, twice the greatest", emptySketch(), append(make([]int, 13), math.MaxInt, math.MaxInt, 2)},
			{"a row with the least number", emptySketch(), append(make([]int, 14), math.MinInt, math.MinInt)},
		} {
			list = append(list, badSketch{c.why, changedSketch(c.base, func(s *impl.Sketch) { s.Cells[row] = c.cells })})
		}
	}
	return list
}

func badSketches() []badSketch {
	ordinary := sketched(adding(7, 5, 8, 2))
	list := append(badRowSketches(), []badSketch{
		{"the zero value", impl.Sketch{}},
		{"no rows", impl.Sketch{Cells: [][]int{}}},
		{"no rows, and a Total", impl.Sketch{Total: 7}},
		{"one row", changedSketch(ordinary, func(s *impl.Sketch) { s.Cells = s.Cells[:1] })},
		{"a row too few", changedSketch(ordinary, func(s *impl.Sketch) { s.Cells = s.Cells[:3] })},
		{"a row too few, and nothing counted", changedSketch(emptySketch(), func(s *impl.Sketch) { s.Cells = s.Cells[1:] })},
		{"a row too many", changedSketch(ordinary, func(s *impl.Sketch) { s.Cells = append(s.Cells, slices.Clone(s.Cells[0])) })},
		{"an empty row too many", changedSketch(ordinary, func(s *impl.Sketch) { s.Cells = append(s.Cells, nil) })},
		{"many rows", impl.Sketch{Cells: slices.Repeat([][]int{make([]int, 16)}, 1000)}},
		{"rows without columns", impl.Sketch{Cells: make([][]int, 4)}},
		{"all rows have a column too few", changedSketch(emptySketch(), func(s *impl.Sketch) {
			for row := range 4 {
				s.Cells[row] = s.Cells[row][:15]
			}
		})},
		{"rows and columns exchanged", impl.Sketch{Cells: slices.Repeat([][]int{make([]int, 4)}, 16)}},
		{"a Total one too small", changedSketch(ordinary, func(s *impl.Sketch) { s.Total-- })},
		{"a Total one too great", changedSketch(ordinary, func(s *impl.Sketch) { s.Total++ })},
		{"a Total of all rows", changedSketch(ordinary, func(s *impl.Sketch) { s.Total *= 4 })},
		{"a Total of 0", changedSketch(ordinary, func(s *impl.Sketch) { s.Total = 0 })},
		{"a Total of nothing", changedSketch(emptySketch(), func(s *impl.Sketch) { s.Total = 1 })},
		{"a Total of -1", changedSketch(emptySketch(), func(s *impl.Sketch) { s.Total = -1 })},
		{"a Total of -1 that the cells add up to", piled(-1, 3, 3, 3, 3)},
		{"a Total just above", piled(fullTotal+1, 3, 4, 5, 6)},
		{"a Total just above, of two cells", changedSketch(piled(fullTotal, 3, 4, 5, 6), func(s *impl.Sketch) {
			s.Total++
			for row := range 4 {
				s.Cells[row][0]++
			}
		})},
		{"a Total far above", piled(math.MaxInt, 3, 4, 5, 6)},
		{"a Total far below", piled(math.MinInt, 3, 4, 5, 6)},
		{"a Total far above, of nothing", changedSketch(emptySketch(), func(s *impl.Sketch) { s.Total = math.MaxInt })},
		{"a Total far below, of nothing", changedSketch(emptySketch(), func(s *impl.Sketch) { s.Total = math.MinInt })},
	}...)
	return list
}

func TestSketchesAtTheirBounds(t *testing.T) {
	for _, s := range goodSketches() {
		if !impl.SketchOk(s) {
			t.Errorf("%v is no sketch", s)
		}
		for _, key := range []int{0, 1, 7, 8, lastKey} {
			checkEstimate(t, s, key, estimated(s, key))
		}
		checkMergeSketch(t, s, emptySketch(), s, true)
		checkMergeSketch(t, emptySketch(), s, s, true)
	}
}

// TestWhatIsNoSketch: each function answers as the document says, and gives back what it was given.
func TestWhatIsNoSketch(t *testing.T) {
	good := sketched(adding(7, 5))
	for _, bad := range badSketches() {
		s := bad.s
		if impl.SketchOk(s) {
			t.Errorf("%s: %v is a sketch", bad.why, s)
		}
		for _, key := range []int{0, 7, 8, lastKey, -1, lastKey + 1} {
			if got := impl.Estimate(s, key); got != -1 {
				t.Errorf("%s: Estimate(%v, %d) is %d", bad.why, s, key, got)
			}
			for _, n := range []int{1, 5, mostAdded, 0, mostAdded + 1} {
				checkAddKey(t, s, key, n, s, false)
			}
		}
		checkMergeSketch(t, s, good, s, false)
		checkMergeSketch(t, good, s, good, false)
		checkMergeSketch(t, s, emptySketch(), s, false)
		checkMergeSketch(t, emptySketch(), s, emptySketch(), false)
		checkMergeSketch(t, s, s, s, false)
	}
}

func TestNewSketchIsEmpty(t *testing.T) {
	s := impl.NewSketch()
	if !equalSketches(s, emptySketch()) || !impl.SketchOk(s) {
		t.Fatalf("NewSketch is %v", s)
	}
	for _, key := range []int{0, 1, 7, lastKey} {
		checkEstimate(t, s, key, 0)
	}
	for _, cells := range s.Cells {
		fill(cells, 9)
	}
	if again := impl.NewSketch(); !equalSketches(again, emptySketch()) {
		t.Fatalf("another NewSketch is %v", again)
	}
}

func TestAddKeyCases(t *testing.T) {
	for _, s := range []impl.Sketch{emptySketch(), sketched(adding(7, 5, 8, 2)), piled(9, 15, 0, 7, 8)} {
		for _, key := range []int{0, 1, 7, 8, 53, 65528, lastKey - 1, lastKey} {
			for _, n := range []int{1, 2, mostAdded - 1, mostAdded} {
				want := changedSketch(s, func(s *impl.Sketch) {
					s.Total += n
					for row := range 4 {
						s.Cells[row][column(row, key)] += n
					}
				})
				checkAddKey(t, s, key, n, want, true)
			}
			for _, n := range noAmounts() {
				checkAddKey(t, s, key, n, s, false)
			}
		}
		for _, key := range noKeys() {
			for _, n := range append(noAmounts(), 1, 5, mostAdded) {
				checkAddKey(t, s, key, n, s, false)
			}
		}
	}
}

func TestAddKeyUpToTheGreatestTotal(t *testing.T) {
	for _, n := range []int{1, 2, 5, mostAdded - 1, mostAdded} {
		for _, columns := range [][]int{{0, 0, 0, 0}, {10, 1, 8, 15}, {15, 15, 15, 15}} {
			// The sketch has all in the cells of key 7, or none of it.
			for _, room := range []int{n + 1, n} {
				s := piled(fullTotal-room, columns...)
				want := changedSketch(s, func(s *impl.Sketch) {
					s.Total += n
					for row, col := range []int{10, 1, 8, 15} {
						s.Cells[row][col] += n
					}
				})
				checkAddKey(t, s, 7, n, want, true)
			}
			for room := range min(n, 3) {
				s := piled(fullTotal-room, columns...)
				checkAddKey(t, s, 7, n, s, false)
			}
			s := piled(fullTotal-n+1, columns...)
			checkAddKey(t, s, 7, n, s, false)
		}
	}
}

// TestKeysThatShareCells: key 8 shares a cell with key 7 in the row 1 alone, key 53 in the row 0, key
// 31 in the row 2, key 24 in the row 3, key 531 in all rows but the last, keys 180 and 65528 in all
// rows, and key 10 in none.
func TestKeysThatShareCells(t *testing.T) {
	cases := []struct {
		why  string
		adds []impl.Add
		key  int
		want int
	}{
		{"alone", adding(7, 5), 7, 5},
		{"twice", adding(7, 5, 7, 3), 7, 8},
		{"never added, and shares none", adding(7, 5), 10, 0},
		{"never added, and shares one", adding(7, 5), 8, 0},
		{"never added, and shares all but the last", adding(7, 5), 531, 0},
		{"never added, and shares all", adding(7, 5), 180, 5},
		{"never added, and shares all by 65521", adding(7, 5), 65528, 5},
		{"never added, to nothing", nil, 7, 0},
		{"never added, and shares the row 0", adding(53, 9), 7, 0},
		{"shares none", adding(7, 5, 10, 9), 7, 5},
		{"shares the row 0", adding(7, 5, 53, 9), 7, 5},
		{"shares the row 1", adding(7, 5, 8, 9), 7, 5},
		{"shares the row 2", adding(7, 5, 31, 9), 7, 5},
		{"shares the row 3", adding(7, 5, 24, 9), 7, 5},
		{"shares all rows but the last", adding(7, 5, 531, 9), 7, 5},
		{"shares all rows", adding(7, 5, 180, 9), 7, 14},
		{"shares all rows, the other one", adding(7, 5, 180, 9), 180, 14},
		{"three keys share all rows", adding(7, 5, 180, 9, 65528, 100), 7, 114},
		{"all rows but the last by one each", adding(7, 5, 53, 9, 8, 9, 31, 9), 7, 5},
		{"all rows but the first by one each", adding(7, 5, 24, 9, 8, 9, 31, 9), 7, 5},
		{"each row by another key", adding(7, 5, 53, 4, 8, 3, 31, 6, 24, 9), 7, 8},
		{"each row by another key, the least in row 0", adding(7, 5, 53, 1, 8, 3, 31, 6, 24, 9), 7, 6},
		{"each row by another key, the least in row 2", adding(7, 5, 53, 4, 8, 3, 31, 2, 24, 9), 7, 7},
		{"each row by another key, the least in row 3", adding(7, 5, 53, 4, 8, 3, 31, 6, 24, 1), 7, 6},
		{"never added, each row by another key", adding(53, 4, 8, 3, 31, 6, 24, 9), 7, 3},
		{"the bounds of keys", adding(0, 1, lastKey, mostAdded), lastKey, mostAdded},
		{"the bounds of keys, the lower", adding(0, 1, lastKey, mostAdded), 0, 1},
	}
	for _, c := range cases {
		s := added(t, c.adds)
		if !equalSketches(s, sketched(c.adds)) {
			t.Errorf("%s: the sketch of %v is %v", c.why, c.adds, s)
		}
		if got := impl.Estimate(s, c.key); got != c.want {
			t.Errorf("%s: Estimate(%v, %d) is %d and not %d", c.why, s, c.key, got, c.want)
		}
	}
}

func TestEstimateOfNoKey(t *testing.T) {
	for _, s := range goodSketches() {
		for _, key := range noKeys() {
			checkEstimate(t, s, key, -1)
		}
	}
}

func TestMergeUpToTheGreatestTotal(t *testing.T) {
	for _, part := range []int{0, 1, mostAdded, fullTotal / 2, fullTotal - 1, fullTotal} {
		for _, columns := range [][2][]int{{{0, 0, 0, 0}, {0, 0, 0, 0}}, {{3, 4, 5, 6}, {3, 15, 7, 6}}, {{1, 2, 3, 4}, {5, 6, 7, 8}}} {
			a, b := piled(part, columns[0]...), piled(fullTotal-part, columns[1]...)
			want := changedSketch(a, func(s *impl.Sketch) {
				s.Total = fullTotal
				for row, col := range columns[1] {
					s.Cells[row][col] += fullTotal - part
				}
			})
			checkMergeSketch(t, a, b, want, true)
			checkMergeSketch(t, b, a, want, true)
			if part == 0 {
				continue
			}
			more := piled(fullTotal-part+1, columns[1]...)
			checkMergeSketch(t, a, more, a, false)
			checkMergeSketch(t, more, a, more, false)
			full := piled(fullTotal, columns[1]...)
			checkMergeSketch(t, a, full, a, false)
			checkMergeSketch(t, full, a, full, false)
			checkMergeSketch(t, full, full, full, false)
		}
	}
}

// randomAdds draws the keys from a range that is narrow or wide, and possibly some keys more often than
// others.
func randomAdds(random *rand.Rand, n int) []impl.Add {
	first := sometimes(random, 0, 0, 1, 65521, lastKey-9, lastKey-100)
	keys := sometimes(random, 1, 2, 4, 5, 6, 10)
	if first < lastKey-9 {
		keys = sometimes(random, keys, 50, 100, lastKey-first+1)
	}
	most := sometimes(random, 1, 2, 10, 1000, mostAdded)
	favorites := sometimes(random, 0, 0, 20, 60)
	var adds []impl.Add
	for range n {
		key := first + random.Intn(keys)
		if random.Intn(100) < favorites {
			key = first + random.Intn(min(keys, 2))
		}
		adds = append(adds, impl.Add{Key: key, N: 1 + random.Intn(most)})
	}
	return adds
}

func randomLength(random *rand.Rand) int {
	return sometimes(random, 0, 1, 2, 4, 5, 6, 10, 30, 100, 299, 300)
}

// keysIn are the keys of the additions, and some others that share cells with them or do not.
func keysIn(adds []impl.Add) []int {
	keys := []int{0, 1, 7, 65521, 65528, lastKey}
	for _, a := range adds {
		keys = append(keys, a.Key, (a.Key+1)%lastKey, (a.Key+65521)%lastKey, (a.Key+173)%lastKey)
	}
	slices.Sort(keys)
	return slices.Compact(keys)
}

// TestEstimatesAreNeverBelow is the first part of promise 13.
func TestEstimatesAreNeverBelow(t *testing.T) {
	random := rand.New(rand.NewSource(131))
	exact, above, never := 0, 0, 0
	for range 400 {
		adds := randomAdds(random, randomLength(random))
		s, total := added(t, adds), sumOfAdds(adds)
		if !equalSketches(s, sketched(adds)) || s.Total != total {
			t.Fatalf("the sketch of %v is %v", adds, s)
		}
		for _, key := range keysIn(adds) {
			estimate, count := impl.Estimate(s, key), counted(adds, key)
			if estimate < count || estimate > total || estimate != estimated(s, key) {
				t.Fatalf("of %d in %v there are %d, and the estimate is %d", key, adds, count, estimate)
			}
			switch {
			case count == 0 && estimate > 0:
				never++
			case count > 0 && estimate > count:
				above++
			case count > 0:
				exact++
			}
		}
	}
	if exact < 1000 || above < 1000 || never < 1000 {
		t.Errorf("too few: %d estimates are exact, %d are above the count, %d are of keys never added", exact, above, never)
	}
}

// TestMergingIsAddingAll: whatever part of the additions comes into which sketch, and in which order.
func TestMergingIsAddingAll(t *testing.T) {
	random := rand.New(rand.NewSource(132))
	for range 300 {
		adds := randomAdds(random, randomLength(random))
		all := added(t, adds)
		var parts [2][]impl.Add
		for _, a := range adds {
			i := random.Intn(2)
			parts[i] = append(parts[i], a)
		}
		a, b := added(t, parts[0]), added(t, parts[1])
		checkMergeSketch(t, a, b, all, true)
		checkMergeSketch(t, b, a, all, true)
		checkMergeSketch(t, all, impl.NewSketch(), all, true)
		random.Shuffle(len(adds), func(i, j int) { adds[i], adds[j] = adds[j], adds[i] })
		if again := added(t, adds); !equalSketches(again, all) {
			t.Fatalf("the sketch of %v is %v, and in another order it is %v", adds, again, all)
		}
	}
}

// topOf lists the Key, the Count and the Err of each element.
func topOf(numbers ...int) impl.Top {
	var top impl.Top
	for i := 0; i < len(numbers); i += 3 {
		top.Slots = append(top.Slots, impl.Heavy{Key: numbers[i], Count: numbers[i+1], Err: numbers[i+2]})
	}
	return top
}

func equalTops(a, b impl.Top) bool {
	return slices.Equal(a.Slots, b.Slots)
}

// heaviest is the model of AddTop for what is valid. It looks for the lightest of all, where the program
// takes the last.
func heaviest(t impl.Top, key, n int) impl.Top {
	list := slices.Clone(t.Slots)
	slices.Reverse(list)
	at := slices.IndexFunc(list, func(h impl.Heavy) bool { return h.Key == key })
	if at == -1 && len(list) == 4 {
		at = 0
		for i, h := range list {
			if h.Count < list[at].Count || h.Count == list[at].Count && h.Key > list[at].Key {
				at = i
			}
		}
		list[at].Key, list[at].Err = key, list[at].Count
	}
	if at == -1 {
		list, at = append(list, impl.Heavy{Key: key}), len(list)
	}
	list[at].Count += n
	slices.SortFunc(list, func(a, b impl.Heavy) int { return cmp.Compare(a.Key, b.Key) })
	slices.SortStableFunc(list, func(a, b impl.Heavy) int { return -cmp.Compare(a.Count, b.Count) })
	return impl.Top{Slots: list}
}

func checkAddTop(t *testing.T, top impl.Top, key, n int, want impl.Top, wantOk bool) {
	t.Helper()
	if got, ok := impl.AddTop(top, key, n); ok != wantOk || !equalTops(got, want) {
		t.Fatalf("AddTop(%v, %d, %d) is %v, %v and not %v, %v", top, key, n, got, ok, want, wantOk)
	}
}

func checkPlayTop(t *testing.T, adds []impl.Add, want impl.Top, wantOk bool) {
	t.Helper()
	if got, ok := impl.PlayTop(adds); ok != wantOk || !equalTops(got, want) {
		t.Fatalf("PlayTop(%v) is %v, %v and not %v, %v", adds, got, ok, want, wantOk)
	}
}

func goodTops() []impl.Top {
	return []impl.Top{
		{},
		{Slots: []impl.Heavy{}},
		topOf(0, 1, 0),
		topOf(lastKey, fullTotal, 0),
		topOf(lastKey, fullTotal, fullTotal-1),
		topOf(5, 2, 1),
		topOf(5, 9, 8),
		topOf(5, 9, 0, 6, 9, 0),
		topOf(5, 9, 3, 6, 9, 8),
		topOf(6, 9, 0, 5, 8, 0),
		topOf(5, 9, 0, 6, 8, 0, 7, 7, 0),
		topOf(9, 9, 8, 8, 8, 7, 7, 7, 6, 6, 6, 5),
		topOf(0, 1, 0, 1, 1, 0, 2, 1, 0, lastKey, 1, 0),
		topOf(0, fullTotal, 5, 1, fullTotal, 5, 2, fullTotal, fullTotal-1, lastKey, fullTotal, 0),
		topOf(3, fullTotal, 0, 2, fullTotal-1, 0, 1, 2, 0, 0, 1, 0),
		topOf(4, 9, 0, 9, 9, 0, 2, 5, 0, 3, 5, 0),
	}
}

type badTop struct {
	why string
	top impl.Top
}

// badTops have each bad element at each place among good ones too.
func badTops() []badTop {
	list := []badTop{
		{"an element too many", topOf(1, 9, 0, 2, 8, 0, 3, 7, 0, 4, 6, 0, 5, 5, 0)},
		{"an element too many, all equally heavy", topOf(1, 9, 0, 2, 9, 0, 3, 9, 0, 4, 9, 0, 5, 9, 0)},
		{"many elements", impl.Top{Slots: make([]impl.Heavy, 100000)}},
		{"the zero element", topOf(0, 0, 0)},
		{"equal elements", topOf(1, 9, 0, 1, 9, 0)},
		{"equal keys, by Count", topOf(1, 9, 0, 1, 8, 0)},
		{"equal keys with other Errs", topOf(1, 9, 0, 1, 9, 1)},
		{"equal keys first and last", topOf(1, 9, 0, 2, 8, 0, 3, 7, 0, 1, 6, 0)},
		{"equal keys in the middle", topOf(1, 9, 0, 2, 8, 0, 2, 7, 0, 4, 6, 0)},
		{"equal keys at the end", topOf(1, 9, 0, 2, 8, 0, 4, 7, 0, 4, 6, 0)},
		{"equal keys 0", topOf(0, 9, 0, 0, 8, 0)},
		{"not by Count", topOf(1, 8, 0, 2, 9, 0)},
		{"not by Count, though by Key", topOf(1, 1, 0, 2, 2, 0, 3, 3, 0, 4, 4, 0)},
		{"not by Count, first", topOf(1, 8, 0, 2, 9, 0, 3, 7, 0, 4, 6, 0)},
		{"not by Count, in the middle", topOf(1, 9, 0, 2, 7, 0, 3, 8, 0, 4, 6, 0)},
		{"not by Count, last", topOf(1, 9, 0, 2, 8, 0, 3, 6, 0, 4, 7, 0)},
		{"not by Key", topOf(2, 9, 0, 1, 9, 0)},
		{"not by Key, though by Err", topOf(2, 9, 0, 1, 9, 1)},
		{"not by Key, first", topOf(2, 9, 0, 1, 9, 0, 3, 9, 0, 4, 9, 0)},
		{"not by Key, in the middle", topOf(1, 9, 0, 3, 8, 0, 2, 8, 0, 4, 6, 0)},
		{"not by Key, last", topOf(1, 9, 0, 2, 8, 0, 4, 6, 0, 3, 6, 0)},
	}
	for _, bad := range []struct {
		why string
		h   impl.Heavy
	}{
		{"a Count of 0", impl.Heavy{Key: 5}},
		{"a Count of 0, and a negative Err", impl.Heavy{Key: 5, Count: 0, Err: -1}},
		{"a Count of -1", impl.Heavy{Key: 5, Count: -1}},
		{"a Count of -1, and less Err", impl.Heavy{Key: 5, Count: -1, Err: -2}},
		{"a Count just above", impl.Heavy{Key: 5, Count: fullTotal + 1}},
		{"a Count far above", impl.Heavy{Key: 5, Count: math.MaxInt}},
		{"a Count far below", impl.Heavy{Key: 5, Count: math.MinInt}},
		{"an Err of -1", impl.Heavy{Key: 5, Count: 7, Err: -1}},
		{"an Err as great as Count", impl.Heavy{Key: 5, Count: 7, Err: 7}},
		{"an Err as great as a Count of 1", impl.Heavy{Key: 5, Count: 1, Err: 1}},
		{"an Err as great as the greatest Count", impl.Heavy{Key: 5, Count: fullTotal, Err: fullTotal}},
		{"an Err above Count", impl.Heavy{Key: 5, Count: 7, Err: 8}},
		{"an Err far above", impl.Heavy{Key: 5, Count: 7, Err: math.MaxInt}},
		{"an Err far below", impl.Heavy{Key: 5, Count: 7, Err: math.MinInt}},
		{"a key of -1", impl.Heavy{Key: -1, Count: 7}},
		{"a key just above", impl.Heavy{Key: lastKey + 1, Count: 7}},
		{"a key far below", impl.Heavy{Key: math.MinInt, Count: 7}},
		{"a key far above", impl.Heavy{Key: math.MaxInt, Count: 7}},
	} {
		list = append(list, badTop{bad.why, impl.Top{Slots: []impl.Heavy{bad.h}}})
		for _, good := range []impl.Top{topOf(1, 9, 0), topOf(1, 9, 0, 2, 5, 0), topOf(7, 6, 0, 8, 3, 0, 9, 2, 0)} {
			slots := append(slices.Clone(good.Slots), bad.h)
			slices.SortFunc(slots, func(a, b impl.Heavy) int { return cmp.Compare(b.Count, a.Count) })
			list = append(list, badTop{bad.why + ", among others", impl.Top{Slots: slots}})
		}
	}
	return list
}

func TestTopsAtTheirBounds(t *testing.T) {
	for _, top := range goodTops() {
		if !impl.TopOk(top) {
			t.Errorf("%v is no list of heavy hitters", top)
		}
	}
}

// TestWhatIsNoTop: what is no list of heavy hitters is given back as it was.
func TestWhatIsNoTop(t *testing.T) {
	for _, bad := range badTops() {
		if impl.TopOk(bad.top) {
			t.Errorf("%s: %v is a list of heavy hitters", bad.why, bad.top)
		}
		for _, key := range []int{0, 1, 5, 50, lastKey, -1, lastKey + 1} {
			for _, n := range []int{1, 3, mostAdded, 0, mostAdded + 1} {
				checkAddTop(t, bad.top, key, n, bad.top, false)
			}
		}
	}
}

func TestAddTopCases(t *testing.T) {
	cases := []struct {
		why    string
		top    impl.Top
		key, n int
		want   impl.Top
	}{
		{"to an empty list", impl.Top{}, 5, 3, topOf(5, 3, 0)},
		{"to an empty list, the least", impl.Top{}, 0, 1, topOf(0, 1, 0)},
		{"to an empty list, the greatest", impl.Top{}, lastKey, mostAdded, topOf(lastKey, mostAdded, 0)},
		{"room at the end", topOf(1, 9, 0), 2, 3, topOf(1, 9, 0, 2, 3, 0)},
		{"room at the end, and it comes first", topOf(1, 9, 4), 2, 10, topOf(2, 10, 0, 1, 9, 4)},
		{"room, in between", topOf(1, 9, 0, 2, 5, 0), 3, 7, topOf(1, 9, 0, 3, 7, 0, 2, 5, 0)},
		{"room, as heavy as one with a lower key", topOf(1, 9, 0, 2, 5, 0), 3, 5, topOf(1, 9, 0, 2, 5, 0, 3, 5, 0)},
		{"room, as heavy as one with a higher key", topOf(1, 9, 0, 4, 5, 0), 3, 5, topOf(1, 9, 0, 3, 5, 0, 4, 5, 0)},
		{"the last slot is free", topOf(1, 9, 0, 2, 8, 0, 3, 7, 6), 4, 1, topOf(1, 9, 0, 2, 8, 0, 3, 7, 6, 4, 1, 0)},
		{"the last slot is free, and it comes first", topOf(1, 9, 0, 2, 8, 0, 3, 7, 6), 4, 50, topOf(4, 50, 0, 1, 9, 0, 2, 8, 0, 3, 7, 6)},
		{"listed, alone", topOf(5, 3, 0), 5, 4, topOf(5, 7, 0)},
		{"listed, alone, with an Err", topOf(5, 3, 2), 5, 4, topOf(5, 7, 2)},
		{"listed, and stays first", topOf(5, 9, 2, 4, 8, 0), 5, 4, topOf(5, 13, 2, 4, 8, 0)},
		{"listed, and stays last", topOf(5, 9, 2, 4, 3, 1), 4, 4, topOf(5, 9, 2, 4, 7, 1)},
		{"listed, and moves ahead", topOf(5, 9, 2, 4, 3, 1), 4, 7, topOf(4, 10, 1, 5, 9, 2)},
		{"listed, and moves ahead by one", topOf(1, 9, 0, 2, 8, 3, 3, 7, 2, 4, 6, 1), 4, 2, topOf(1, 9, 0, 2, 8, 3, 4, 8, 1, 3, 7, 2)},
		{"listed, and moves ahead of all", topOf(1, 9, 0, 2, 8, 3, 3, 7, 2, 4, 6, 1), 4, 4, topOf(4, 10, 1, 1, 9, 0, 2, 8, 3, 3, 7, 2)},
		{"listed, and catches up with a higher key", topOf(5, 9, 2, 4, 3, 1), 4, 6, topOf(4, 9, 1, 5, 9, 2)},
		{"listed, and catches up with a lower key", topOf(3, 9, 2, 4, 3, 1), 4, 6, topOf(3, 9, 2, 4, 9, 1)},
		{"listed, and catches up with keys around it", topOf(1, 9, 0, 3, 9, 0, 2, 4, 0), 2, 5, topOf(1, 9, 0, 2, 9, 0, 3, 9, 0)},
		{"listed, and leaves equal ones", topOf(1, 9, 0, 2, 5, 0, 3, 5, 0, 4, 5, 0), 4, 1, topOf(1, 9, 0, 4, 6, 0, 2, 5, 0, 3, 5, 0)},
		{"listed in the last slot", topOf(1, 9, 0, 2, 8, 0, 3, 7, 0, 4, 6, 5), 4, 1, topOf(1, 9, 0, 2, 8, 0, 3, 7, 0, 4, 7, 5)},
		{"replaced, and stays last", topOf(1, 9, 0, 2, 8, 0, 3, 7, 0, 4, 1, 0), 5, 2, topOf(1, 9, 0, 2, 8, 0, 3, 7, 0, 5, 3, 1)},
		{"replaced, and the Err is lost", topOf(1, 9, 0, 2, 8, 0, 3, 7, 0, 4, 5, 4), 5, 1, topOf(1, 9, 0, 2, 8, 0, 3, 7, 0, 5, 6, 5)},
		{"replaced, and comes first", topOf(1, 9, 0, 2, 8, 0, 3, 7, 0, 4, 6, 5), 5, 4, topOf(5, 10, 6, 1, 9, 0, 2, 8, 0, 3, 7, 0)},
		{"replaced, and as heavy as a lower key", topOf(1, 9, 0, 2, 8, 0, 3, 7, 0, 4, 6, 5), 5, 1, topOf(1, 9, 0, 2, 8, 0, 3, 7, 0, 5, 7, 6)},
		{"replaced, and as heavy as a higher key", topOf(1, 9, 0, 2, 8, 0, 3, 7, 0, 4, 6, 5), 0, 1, topOf(1, 9, 0, 2, 8, 0, 0, 7, 6, 3, 7, 0)},
		{"replaced, one of two equal ones", topOf(1, 9, 0, 2, 8, 0, 3, 5, 0, 4, 5, 0), 5, 1, topOf(1, 9, 0, 2, 8, 0, 5, 6, 5, 3, 5, 0)},
		{"replaced, one of three equal ones", topOf(1, 9, 0, 2, 5, 1, 3, 5, 2, 4, 5, 3), 0, 2, topOf(1, 9, 0, 0, 7, 5, 2, 5, 1, 3, 5, 2)},
		{"replaced, one of four equal ones", topOf(1, 5, 0, 2, 5, 0, 3, 5, 0, 4, 5, 0), 9, 1, topOf(9, 6, 5, 1, 5, 0, 2, 5, 0, 3, 5, 0)},
		{"replaced, the bounds of keys", topOf(0, 1, 0, 1, 1, 0, 2, 1, 0, lastKey, 1, 0), lastKey - 1, mostAdded, topOf(lastKey-1, mostAdded+1, 1, 0, 1, 0, 1, 1, 0, 2, 1, 0)},
	}
	for _, c := range cases {
		got, ok := impl.AddTop(c.top, c.key, c.n)
		if !ok || !equalTops(got, c.want) || !impl.TopOk(got) {
			t.Errorf("%s: AddTop(%v, %d, %d) is %v, %v and not %v", c.why, c.top, c.key, c.n, got, ok, c.want)
		}
		if model := heaviest(c.top, c.key, c.n); !equalTops(model, c.want) {
			t.Errorf("%s: the model is %v", c.why, model)
		}
	}
}

func TestAddTopOfNoKeyAndNoAmount(t *testing.T) {
	for _, top := range goodTops() {
		for _, key := range noKeys() {
			for _, n := range append(noAmounts(), 1, 5, mostAdded) {
				checkAddTop(t, top, key, n, top, false)
			}
		}
		for _, key := range []int{0, 1, 5, 50, lastKey} {
			for _, n := range noAmounts() {
				checkAddTop(t, top, key, n, top, false)
			}
		}
	}
	for _, top := range []impl.Top{{}, topOf(5, 9, 0), topOf(1, 9, 0, 2, 8, 0, 3, 7, 0, 4, 6, 0)} {
		for _, key := range []int{0, 1, 5, lastKey} {
			for _, n := range []int{1, mostAdded} {
				checkAddTop(t, top, key, n, heaviest(top, key, n), true)
			}
		}
	}
}

func TestAddTopUpToTheGreatestCount(t *testing.T) {
	for _, n := range []int{1, 2, 5, mostAdded} {
		for _, room := range []int{0, n - 1, n, n + 1} {
			// A listed key, alone and among others.
			heavy := impl.Heavy{Key: 5, Count: fullTotal - room, Err: 3}
			for _, others := range []impl.Top{{}, topOf(6, 7, 0), topOf(6, 7, 0, 7, 7, 0, 8, 7, 0)} {
				top := impl.Top{Slots: append([]impl.Heavy{heavy}, others.Slots...)}
				if room < n {
					checkAddTop(t, top, 5, n, top, false)
				} else {
					checkAddTop(t, top, 5, n, heaviest(top, 5, n), true)
				}
			}
			// A new key, where all elements are as heavy as can be, or nearly so.
			top := topOf(1, fullTotal, 0, 2, fullTotal, 9, 3, fullTotal, 0, 4, fullTotal-room, 3)
			if room < n {
				checkAddTop(t, top, 5, n, top, false)
			} else {
				want := topOf(1, fullTotal, 0, 2, fullTotal, 9, 3, fullTotal, 0, 5, fullTotal-room+n, fullTotal-room)
				checkAddTop(t, top, 5, n, want, true)
			}
			// Where there is room, or a lighter element, it does not matter how heavy others are.
			top = topOf(1, fullTotal, 0, 2, fullTotal, 9, 3, fullTotal, 0)
			checkAddTop(t, top, 5, n, impl.Top{Slots: append(slices.Clone(top.Slots), impl.Heavy{Key: 5, Count: n})}, true)
			top.Slots = append(top.Slots, impl.Heavy{Key: 4, Count: 6, Err: 5})
			want := topOf(1, fullTotal, 0, 2, fullTotal, 9, 3, fullTotal, 0, 5, 6+n, 6)
			checkAddTop(t, top, 5, n, want, true)
		}
	}
}

func TestPlayTopCases(t *testing.T) {
	full := topOf(1, 9, 0, 2, 8, 0, 3, 7, 0, 4, 6, 0)
	cases := []struct {
		why  string
		adds []impl.Add
		want impl.Top
	}{
		{"none", nil, impl.Top{}},
		{"an empty list", []impl.Add{}, impl.Top{}},
		{"one", adding(7, 3), topOf(7, 3, 0)},
		{"one key", adding(7, 3, 7, 4, 7, 1), topOf(7, 8, 0)},
		{"the given one", adding(1, 5, 2, 4, 3, 3, 4, 2, 5, 1, 2, 3), topOf(2, 7, 0, 1, 5, 0, 3, 3, 0, 5, 3, 2)},
		{"four keys", adding(4, 6, 1, 9, 3, 7, 2, 8), full},
		{"four keys in parts", adding(4, 1, 1, 9, 3, 7, 2, 1, 4, 5, 2, 7), full},
		{"five keys", adding(4, 6, 1, 9, 3, 7, 2, 8, 5, 1), topOf(1, 9, 0, 2, 8, 0, 3, 7, 0, 5, 7, 6)},
		{"a key that returns", adding(4, 6, 1, 9, 3, 7, 2, 8, 5, 1, 4, 1), topOf(1, 9, 0, 2, 8, 0, 4, 8, 7, 3, 7, 0)},
		{"all of them new", adding(1, 1, 2, 1, 3, 1, 4, 1, 5, 1, 6, 1, 7, 1, 8, 1), topOf(5, 2, 1, 6, 2, 1, 7, 2, 1, 8, 2, 1)},
		{"the bounds", adding(0, mostAdded, lastKey, 1, lastKey, mostAdded), topOf(lastKey, mostAdded+1, 0, 0, mostAdded, 0)},
	}
	for _, c := range cases {
		if got, ok := impl.PlayTop(c.adds); !ok || !equalTops(got, c.want) {
			t.Errorf("%s: PlayTop(%v) is %v, %v and not %v", c.why, c.adds, got, ok, c.want)
		}
	}
}

func TestPlayTopOfTooMany(t *testing.T) {
	one := adding(7, 2)
	checkPlayTop(t, slices.Repeat(one, 299), topOf(7, 598, 0), true)
	checkPlayTop(t, slices.Repeat(one, 300), topOf(7, 600, 0), true)
	checkPlayTop(t, slices.Repeat(adding(7, mostAdded), 300), topOf(7, 300*mostAdded, 0), true)
	for _, n := range []int{301, 302, 600, 100000} {
		checkPlayTop(t, slices.Repeat(one, n), impl.Top{}, false)
	}
	checkPlayTop(t, slices.Repeat(adding(-1, 0), 301), impl.Top{}, false)
}

func TestPlayTopWhereOneFails(t *testing.T) {
	var bad []impl.Add
	for _, key := range noKeys() {
		bad = append(bad, impl.Add{Key: key, N: 1})
	}
	for _, n := range noAmounts() {
		bad = append(bad, impl.Add{Key: 1, N: n}, impl.Add{Key: 50, N: n})
	}
	random := rand.New(rand.NewSource(133))
	for _, b := range bad {
		checkPlayTop(t, []impl.Add{b}, impl.Top{}, false)
		for _, n := range []int{1, 4, 10, 299} {
			adds := randomAdds(random, n)
			for _, at := range []int{0, n / 2, n - 1, n} {
				checkPlayTop(t, slices.Insert(slices.Clone(adds), at, b), impl.Top{}, false)
			}
		}
	}
}

func checkTrueCount(t *testing.T, adds []impl.Add, key, want int) {
	t.Helper()
	if got := impl.TrueCount(adds, key); got != want {
		t.Fatalf("TrueCount(%v, %d) is %d and not %d", adds, key, got, want)
	}
}

func TestTrueCountCases(t *testing.T) {
	cases := []struct {
		why  string
		adds []impl.Add
		key  int
		want int
	}{
		{"none", nil, 7, 0},
		{"none, of key 0", []impl.Add{}, 0, 0},
		{"one", adding(7, 3), 7, 3},
		{"never", adding(7, 3), 8, 0},
		{"never, and as often as another", adding(3, 7), 7, 0},
		{"never, of a key that shares all cells", adding(7, 3), 180, 0},
		{"several", adding(7, 3, 8, 5, 7, 4, 9, 1, 7, 1), 7, 8},
		{"once among several", adding(7, 3, 8, 5, 7, 4, 9, 1, 7, 1), 9, 1},
		{"the key 0", adding(0, 3, 8, 5, 0, 4), 0, 7},
		{"the greatest key", adding(lastKey, mostAdded, 8, 5, lastKey, mostAdded), lastKey, 2 * mostAdded},
		// The text asks neither for a key nor for an addition that AddTop accepts.
		{"what is no key", adding(-1, 3, 8, 5, -1, 4), -1, 7},
		{"what is no key, never", adding(1, 3), -1, 0},
		{"what is no key, above", adding(lastKey+1, 3, 8, 5), lastKey + 1, 3},
		{"what is no amount", adding(7, -3, 7, 0, 7, mostAdded+1), 7, mostAdded - 2},
		{"next to what is no addition", adding(-1, 3, 7, 5, 8, 0), 7, 5},
		{"amounts that cancel", adding(7, math.MaxInt, 7, -math.MaxInt, 7, 5), 7, 5},
	}
	for _, c := range cases {
		if got := impl.TrueCount(c.adds, c.key); got != c.want {
			t.Errorf("%s: TrueCount(%v, %d) is %d and not %d", c.why, c.adds, c.key, got, c.want)
		}
	}
	for _, n := range []int{math.MinInt, math.MaxInt} {
		impl.TrueCount(slices.Repeat(adding(7, n), 300), 7)
	}
}

// TestTrueCountOfMany takes the text so that just the first 300 additions of the list count, whichever
// keys they have.
func TestTrueCountOfMany(t *testing.T) {
	for _, n := range []int{299, 300, 301, 302, 600, 100000} {
		within := min(n, 300)
		one := slices.Repeat(adding(7, 2), n)
		checkTrueCount(t, one, 7, 2*within)
		checkTrueCount(t, one, 8, 0)
		two := slices.Repeat(adding(7, 2, 8, 5), (n+1)/2)[:n]
		checkTrueCount(t, two, 7, 2*((within+1)/2))
		checkTrueCount(t, two, 8, 5*(within/2))
		last := append(slices.Repeat(adding(8, 1), n-1), impl.Add{Key: 7, N: 3})
		checkTrueCount(t, last, 7, 3*min(1, max(0, 301-n)))
		first := append(adding(7, 3), slices.Repeat(adding(8, 1), n-1)...)
		checkTrueCount(t, first, 7, 3)
	}
}

// checkHeavy is the second part of promise 13, for a list of which all counts are known. It returns
// whether an element has been replaced, and how many keys have to be listed.
func checkHeavy(t *testing.T, adds []impl.Add, top impl.Top) (replaced bool, heavy int) {
	t.Helper()
	total, counts := sumOfAdds(adds), map[int]int{}
	for _, a := range adds {
		counts[a.Key] += a.N
	}
	sum, listed := 0, map[int]bool{}
	for _, h := range top.Slots {
		sum += h.Count
		listed[h.Key] = true
		replaced = replaced || h.Err > 0
		if count := counts[h.Key]; h.Count < count || h.Count-count > h.Err {
			t.Fatalf("in %v, of which the list is %v, %d occurs %d times", adds, top, h.Key, count)
		}
	}
	if sum != total || !impl.TopOk(top) || len(top.Slots) != min(4, len(counts)) {
		t.Fatalf("the list of %v, which come to %d, is %v, which comes to %d", adds, total, top, sum)
	}
	for key, count := range counts {
		if got := impl.TrueCount(adds, key); got != count {
			t.Fatalf("TrueCount(%v, %d) is %d and not %d", adds, key, got, count)
		}
		if 4*count > total {
			heavy++
			if !listed[key] {
				t.Fatalf("%d has %d of %d in %v, and the list is %v", key, count, total, adds, top)
			}
		}
	}
	return replaced, heavy
}

// playedTop is what AddTop makes of the additions one by one, each of which is held against the model.
func playedTop(t *testing.T, adds []impl.Add) impl.Top {
	t.Helper()
	var top impl.Top
	for _, a := range adds {
		want := heaviest(top, a.Key, a.N)
		checkAddTop(t, top, a.Key, a.N, want, true)
		top = want
	}
	checkPlayTop(t, adds, top, true)
	return top
}

// burying has a key that comes before, after or among many other keys, each of which replaces another.
func burying(random *rand.Rand) []impl.Add {
	n := sometimes(random, 5, 20, 200)
	heavy := random.Intn(100)
	var adds []impl.Add
	for i := range n {
		adds = append(adds, impl.Add{Key: 100 + i, N: 1 + random.Intn(3)})
	}
	total := sumOfAdds(adds)
	// With as many as that, or with one less, it has just more than a fourth of all, or just not.
	amount := max(1, total/3+1-random.Intn(2))
	at := sometimes(random, 0, 0, n/2, n, n)
	parts := min(amount, sometimes(random, 1, 2, 5))
	for i := range parts {
		// Rounded down like this, the parts come to the amount.
		adds = slices.Insert(adds, at, impl.Add{Key: heavy, N: (amount + i) / parts})
	}
	return adds
}

func TestHeavyKeysAreListed(t *testing.T) {
	random := rand.New(rand.NewSource(134))
	replacing, withHeavy := 0, 0
	for i := range 4000 {
		adds := randomAdds(random, randomLength(random))
		if i%4 == 0 {
			adds = burying(random)
		}
		replaced, heavy := checkHeavy(t, adds, playedTop(t, adds))
		if replaced {
			replacing++
			withHeavy += min(1, heavy)
		}
	}
	if replacing < 1000 || withHeavy < 500 {
		t.Errorf("elements are replaced in only %d lists, and %d of them have keys that must be listed", replacing, withHeavy)
	}
}

// TestAllShortPlays goes through all plays of six additions with six keys.
func TestAllShortPlays(t *testing.T) {
	adds := make([]impl.Add, 6)
	for number := range 6 * 6 * 6 * 6 * 6 * 6 {
		rest := number
		for i := range adds {
			adds[i] = impl.Add{Key: rest % 6, N: 1 + i%2}
			rest /= 6
		}
		top, ok := impl.PlayTop(adds)
		if !ok {
			t.Fatalf("PlayTop(%v) is false", adds)
		}
		checkHeavy(t, adds, top)
		if number%7 == 0 {
			playedTop(t, adds)
		}
	}
}

// sketchResults are the results of all functions of chapter 13, refused calls among them.
type sketchResults struct {
	sketches []impl.Sketch
	tops     []impl.Top
	numbers  []int
}

func (r *sketchResults) sketch(s impl.Sketch, ok bool) {
	r.sketches = append(r.sketches, s)
	r.numbers = append(r.numbers, one(ok))
}

func (r *sketchResults) top(t impl.Top, ok bool) {
	r.tops = append(r.tops, t)
	r.numbers = append(r.numbers, one(ok))
}

func sketchResultsOf(a, b impl.Sketch, top impl.Top, adds []impl.Add) sketchResults {
	var r sketchResults
	r.sketch(impl.NewSketch(), impl.SketchOk(a))
	r.sketch(impl.NewSketch(), impl.SketchOk(b))
	r.sketch(impl.MergeSketch(a, b))
	r.sketch(impl.MergeSketch(b, a))
	r.sketch(impl.MergeSketch(a, a))
	r.sketch(impl.MergeSketch(a, impl.Sketch{}))
	r.sketch(impl.MergeSketch(impl.NewSketch(), b))
	r.top(impl.PlayTop(adds))
	r.top(impl.PlayTop(adds[:len(adds)/2]))
	r.numbers = append(r.numbers, one(impl.TopOk(top)))
	for _, key := range []int{-1, 0, 1, 5, 7, lastKey, lastKey + 1} {
		r.numbers = append(r.numbers, impl.Estimate(a, key), impl.Estimate(b, key), impl.TrueCount(adds, key))
		for _, n := range []int{0, 1, mostAdded, mostAdded + 1} {
			r.sketch(impl.AddKey(a, key, n))
			r.sketch(impl.AddKey(b, key, n))
			r.top(impl.AddTop(top, key, n))
		}
	}
	return r
}

func (r sketchResults) equal(q sketchResults) bool {
	return slices.Equal(r.numbers, q.numbers) && slices.EqualFunc(r.sketches, q.sketches, equalSketches) && slices.EqualFunc(r.tops, q.tops, equalTops)
}

// ownMemory overwrites every slice with a value of its own, and reports whether each still holds its
// value afterwards.
func (r sketchResults) ownMemory() bool {
	var cells graphResults
	for _, s := range r.sketches {
		cells.lists = append(cells.lists, s.Cells...)
	}
	for i, top := range r.tops {
		fill(top.Slots, impl.Heavy{Key: -20 - i})
	}
	for i, top := range r.tops {
		if !filled(top.Slots, impl.Heavy{Key: -20 - i}) {
			return false
		}
	}
	return cells.ownMemory() && r.ownRows()
}

// ownRows does the same with the slices of rows, each of which gets rows of another length.
func (r sketchResults) ownRows() bool {
	for i, s := range r.sketches {
		fill(s.Cells, make([]int, 20+i))
	}
	for i, s := range r.sketches {
		for _, cells := range s.Cells[:cap(s.Cells)] {
			if len(cells) != 20+i {
				return false
			}
		}
	}
	return true
}

// sketchArguments lie in the middle of arrays, so that writes beside them show too.
type sketchArguments struct {
	a, b  impl.Sketch
	top   impl.Top
	adds  []impl.Add
	cells [][]int
	rows  [][][]int
	slots []impl.Heavy
	all   []impl.Add
}

func (g *sketchArguments) room(s impl.Sketch) impl.Sketch {
	rows, middle := padded(s.Cells, []int{99})
	for i, cells := range middle {
		var array []int
		array, middle[i] = padded(cells, 77)
		g.cells = append(g.cells, array)
	}
	g.rows = append(g.rows, rows)
	return impl.Sketch{Cells: middle, Total: s.Total}
}

func sketchArgumentsOf(a, b impl.Sketch, top impl.Top, adds []impl.Add) *sketchArguments {
	g := &sketchArguments{}
	g.a, g.b = g.room(a), g.room(b)
	g.slots, g.top.Slots = padded(top.Slots, impl.Heavy{Key: 88, Count: 88, Err: 88})
	g.all, g.adds = padded(adds, impl.Add{Key: 66, N: 66})
	return g
}

func (g *sketchArguments) equal(h *sketchArguments) bool {
	return equalLists(g.cells, h.cells) && slices.EqualFunc(g.rows, h.rows, equalLists) && slices.Equal(g.slots, h.slots) && slices.Equal(g.all, h.all)
}

type sketchCase struct {
	a, b impl.Sketch
	top  impl.Top
	adds []impl.Add
}

// sketchCases combine some of all that this file knows, with what is invalid.
func sketchCases(seed int64, n int) []sketchCase {
	random := rand.New(rand.NewSource(seed))
	var sketches []impl.Sketch
	for _, bad := range badSketches() {
		if len(bad.s.Cells) < 20 && (len(bad.s.Cells) == 0 || len(bad.s.Cells[0]) < 20) {
			sketches = append(sketches, bad.s)
		}
	}
	sketches = append(append(sketches, goodSketches()...), goodSketches()...)
	tops := append(goodTops(), goodTops()...)
	for _, bad := range badTops() {
		if len(bad.top.Slots) < 20 {
			tops = append(tops, bad.top)
		}
	}
	pick := func() impl.Sketch {
		if random.Intn(2) == 0 {
			return sketched(randomAdds(random, randomLength(random)))
		}
		return sketches[random.Intn(len(sketches))]
	}
	var cases []sketchCase
	for range n {
		adds := randomAdds(random, sometimes(random, 1, 2, 5, 20, 300, 301))
		if random.Intn(3) == 0 {
			adds[random.Intn(len(adds))].N = 0
		}
		cases = append(cases, sketchCase{pick(), pick(), tops[random.Intn(len(tops))], adds})
	}
	return cases
}

func TestSketchesAreNewMemory(t *testing.T) {
	for _, c := range sketchCases(135, 400) {
		given, kept := sketchArgumentsOf(c.a, c.b, c.top, c.adds), sketchArgumentsOf(c.a, c.b, c.top, c.adds)
		results := sketchResultsOf(given.a, given.b, given.top, given.adds)
		if !given.equal(kept) {
			t.Fatalf("an argument of %v was changed", c)
		}
		if !results.ownMemory() {
			t.Fatalf("results for %v share memory with each other", c)
		}
		if !given.equal(kept) {
			t.Fatalf("a result for %v shares memory with an argument", c)
		}
		if !sketchResultsOf(given.a, given.b, given.top, given.adds).equal(sketchResultsOf(c.a, c.b, c.top, c.adds)) {
			t.Fatalf("results for %v depend on what was done with earlier ones", c)
		}
	}
}

// TestSketchesKeepNothing: what was found out about one sketch or list is not used for another one, even
// if it lies in the same memory.
func TestSketchesKeepNothing(t *testing.T) {
	cases := sketchCases(136, 200)
	var first []sketchResults
	for _, c := range cases {
		first = append(first, sketchResultsOf(c.a, c.b, c.top, c.adds))
	}
	rows, slots, all := [2][][]int{}, make([]impl.Heavy, 100), make([]impl.Add, 400)
	for i := range rows {
		for range 20 {
			rows[i] = append(rows[i], make([]int, 100000))
		}
	}
	inPlace := func(s impl.Sketch, memory [][]int) impl.Sketch {
		moved := impl.Sketch{Total: s.Total}
		for i, cells := range s.Cells {
			moved.Cells = append(moved.Cells, memory[i][:copy(memory[i], cells)])
		}
		return moved
	}
	for i := len(cases) - 1; i >= 0; i-- {
		c := cases[i]
		top, adds := impl.Top{Slots: slots[:copy(slots, c.top.Slots)]}, all[:copy(all, c.adds)]
		if again := sketchResultsOf(inPlace(c.a, rows[0]), inPlace(c.b, rows[1]), top, adds); !again.equal(first[i]) {
			t.Fatalf("the results for %v are %v and then %v", c, first[i], again)
		}
	}
}

// TestSketchesOfAnyNumbers: no call panics, and only what is valid is changed.
func TestSketchesOfAnyNumbers(t *testing.T) {
	numbers := []int{math.MinInt, math.MinInt + 1, -fullTotal, -1, 0, 0, 0, 1, 5, mostAdded, lastKey, fullTotal, fullTotal + 1, 1 << 62, math.MaxInt - 1, math.MaxInt}
	random := rand.New(rand.NewSource(137))
	for range 3000 {
		some := func() int { return sometimes(random, numbers...) }
		s := impl.Sketch{Total: some()}
		for range sometimes(random, 0, 3, 4, 4, 4, 5) {
			cells := make([]int, sometimes(random, 0, 15, 16, 16, 16, 16, 17))
			for i := range cells {
				cells[i] = some()
			}
			s.Cells = append(s.Cells, cells)
		}
		var top impl.Top
		var adds []impl.Add
		for range random.Intn(6) {
			top.Slots = append(top.Slots, impl.Heavy{Key: some(), Count: some(), Err: some()})
			adds = append(adds, impl.Add{Key: some(), N: some()})
		}
		sketchResultsOf(s, s, top, adds)
		key, n := some(), some()
		if got, ok := impl.AddKey(s, key, n); !ok && !equalSketches(got, s) {
			t.Fatalf("AddKey(%v, %d, %d) is %v, %v", s, key, n, got, ok)
		}
		if got, ok := impl.AddTop(top, key, n); !ok && !equalTops(got, top) || ok && !equalTops(got, heaviest(top, key, n)) {
			t.Fatalf("AddTop(%v, %d, %d) is %v, %v", top, key, n, got, ok)
		}
		if got, ok := impl.PlayTop(adds); !ok && len(got.Slots) != 0 {
			t.Fatalf("PlayTop(%v) is %v, %v", adds, got, ok)
		}
		checkTrueCount(t, adds, key, counted(adds, key))
	}
}

// TestSchedulesDoNotMatterForSketches makes the same calls several times at once.
func TestSchedulesDoNotMatterForSketches(t *testing.T) {
	defer runtime.GOMAXPROCS(runtime.GOMAXPROCS(0))
	for i, c := range sketchCases(138, 20) {
		runtime.GOMAXPROCS([]int{1, 2, 8}[i%3])
		want := sketchResultsOf(c.a, c.b, c.top, c.adds)
		var callers sync.WaitGroup
		for range 4 {
			callers.Add(1)
			go func() {
				defer callers.Done()
				if !sketchResultsOf(c.a, c.b, c.top, c.adds).equal(want) {
					t.Errorf("the same calls for %v have other results", c)
				}
			}()
		}
		callers.Wait()
	}
}
