package tests

import (
	"math"
	"math/rand"
	"runtime"
	"slices"
	"sync"
	"testing"

	"loop.example/g00681/impl"
)

const (
	// mostValue is the greatest value.
	mostValue = 1000000
	// fullBucket is the greatest Count.
	fullBucket = 1000000
)

// bucketStarts and bucketEnds are the smallest and the greatest values of the buckets.
func bucketStarts() []int {
	return []int{0, 1, 2, 4, 8, 16, 32, 64, 128, 256, 512, 1024, 2048, 4096, 8192, 16384, 32768, 65536, 131072, 262144, 524288}
}

func bucketEnds() []int {
	return []int{0, 1, 3, 7, 15, 31, 63, 127, 255, 511, 1023, 2047, 4095, 8191, 16383, 32767, 65535, 131071, 262143, 524287, 1000000}
}

// edgeValues are the values at the boundaries of the buckets.
func edgeValues() []int {
	edges := append(bucketStarts(), bucketEnds()...)
	slices.Sort(edges)
	return slices.Compact(edges)
}

// noValues are numbers just below and just above the values, and far away from them.
func noValues() []int {
	return []int{-1, mostValue + 1, -2, mostValue + 2, 1048575, 1048576, -mostValue, 1 << 32, 1 << 62, math.MinInt, math.MinInt + 1, math.MaxInt}
}

// bucketed is the model of BucketOf.
func bucketed(v int) int {
	if v > mostValue {
		return -1
	}
	bucket := -1
	for k, start := range bucketStarts() {
		if v >= start {
			bucket = k
		}
	}
	return bucket
}

// histWith lists a Sum, and then a bucket and its Count for each bucket that is not empty.
func histWith(sum int, numbers ...int) impl.Hist {
	h := impl.Hist{Counts: make([]int, 21), Sum: sum}
	for i := 0; i < len(numbers); i += 2 {
		h.Counts[numbers[i]] = numbers[i+1]
	}
	return h
}

// held is the model of HistOf.
func held(values ...int) impl.Hist {
	h := histWith(0)
	for _, v := range values {
		h.Counts[bucketed(v)]++
		h.Sum += v
	}
	return h
}

// filledBuckets has n values in each bucket, the smallest or the greatest ones.
func filledBuckets(n int, values []int) impl.Hist {
	h := histWith(0)
	for k, v := range values {
		h.Counts[k] = n
		h.Sum += n * v
	}
	return h
}

// changedHist has a Count of the bucket and a Sum that are greater or less.
func changedHist(h impl.Hist, bucket, count, sum int) impl.Hist {
	h = cloneHist(h)
	h.Counts[bucket] += count
	h.Sum += sum
	return h
}

func cloneHist(h impl.Hist) impl.Hist {
	return impl.Hist{Counts: slices.Clone(h.Counts), Sum: h.Sum}
}

func equalHists(a, b impl.Hist) bool {
	return a.Sum == b.Sum && slices.Equal(a.Counts, b.Counts)
}

// bounds are the least and the greatest Sum that the Counts allow.
func bounds(counts []int) (least, greatest int) {
	for k, n := range counts {
		least += n * bucketStarts()[k]
		greatest += n * bucketEnds()[k]
	}
	return least, greatest
}

// isHist is the model of HistOk.
func isHist(h impl.Hist) bool {
	if len(h.Counts) != 21 || slices.Min(h.Counts) < 0 || slices.Max(h.Counts) > fullBucket {
		return false
	}
	least, greatest := bounds(h.Counts)
	return least <= h.Sum && h.Sum <= greatest
}

// combined is the model of MergeHist, where times is 1, and of LessHist, where it is -1.
func combined(a, b impl.Hist, times int) (impl.Hist, bool) {
	if !isHist(a) || !isHist(b) {
		return a, false
	}
	c := cloneHist(a)
	for k := range c.Counts {
		c.Counts[k] += times * b.Counts[k]
	}
	c.Sum += times * b.Sum
	if !isHist(c) {
		return a, false
	}
	return c, true
}

func countedIn(h impl.Hist) int {
	n := 0
	for _, count := range h.Counts {
		n += count
	}
	return n
}

// ranked is the bucket of the value with the index among all values in their order.
func ranked(h impl.Hist, index int) int {
	before := 0
	for k, n := range h.Counts {
		before += n
		if index < before {
			return k
		}
	}
	return -1
}

func checkValid(t *testing.T, h impl.Hist, want bool) {
	t.Helper()
	if got := impl.HistOk(h); got != want {
		t.Fatalf("HistOk(%v) is %v", h, got)
	}
}

func checkAddValue(t *testing.T, h impl.Hist, v int, want impl.Hist, wantOk bool) {
	t.Helper()
	if got, ok := impl.AddValue(h, v); ok != wantOk || !equalHists(got, want) {
		t.Fatalf("AddValue(%v, %d) is %v, %v and not %v, %v", h, v, got, ok, want, wantOk)
	}
}

func checkHistOf(t *testing.T, values []int, want impl.Hist, wantOk bool) {
	t.Helper()
	if got, ok := impl.HistOf(values); ok != wantOk || !equalHists(got, want) {
		t.Fatalf("HistOf(%v) is %v, %v and not %v, %v", values, got, ok, want, wantOk)
	}
}

func checkMergeHist(t *testing.T, a, b, want impl.Hist, wantOk bool) {
	t.Helper()
	if got, ok := impl.MergeHist(a, b); ok != wantOk || !equalHists(got, want) {
		t.Fatalf("MergeHist(%v, %v) is %v, %v and not %v, %v", a, b, got, ok, want, wantOk)
	}
}

func checkLessHist(t *testing.T, a, b, want impl.Hist, wantOk bool) {
	t.Helper()
	if got, ok := impl.LessHist(a, b); ok != wantOk || !equalHists(got, want) {
		t.Fatalf("LessHist(%v, %v) is %v, %v and not %v, %v", a, b, got, ok, want, wantOk)
	}
}

func checkQuantile(t *testing.T, h impl.Hist, per, low, high int) {
	t.Helper()
	if l, g := impl.Quantile(h, per); l != low || g != high {
		t.Fatalf("Quantile(%v, %d) is %d, %d and not %d, %d", h, per, l, g, low, high)
	}
}

// checkBucketAt expects the bucket to be that of the quantile.
func checkBucketAt(t *testing.T, h impl.Hist, per, bucket int) {
	t.Helper()
	checkQuantile(t, h, per, bucketStarts()[bucket], bucketEnds()[bucket])
}

func checkNumbers(t *testing.T, h impl.Hist, count, mean int) {
	t.Helper()
	if got := impl.CountOfHist(h); got != count {
		t.Fatalf("CountOfHist(%v) is %d and not %d", h, got, count)
	}
	if got := impl.MeanOf(h); got != mean {
		t.Fatalf("MeanOf(%v) is %d and not %d", h, got, mean)
	}
}

func checkBucket(t *testing.T, v, want int) {
	t.Helper()
	if got := impl.BucketOf(v); got != want {
		t.Fatalf("BucketOf(%d) is %d and not %d", v, got, want)
	}
}

func TestBucketsAtTheirBoundaries(t *testing.T) {
	checkBucket(t, -1, -1)
	checkBucket(t, 0, 0)
	checkBucket(t, 1, 1)
	for k := 1; k <= 19; k++ {
		power := 1
		for range k {
			power *= 2
		}
		checkBucket(t, power-1, k)
		checkBucket(t, power, k+1)
	}
	checkBucket(t, 999999, 20)
	checkBucket(t, 1000000, 20)
	checkBucket(t, 1000001, -1)
	for _, v := range noValues() {
		checkBucket(t, v, -1)
	}
}

func TestBucketsOfAllValues(t *testing.T) {
	starts, k := append(bucketStarts(), math.MaxInt), 0
	for v := range mostValue + 1 {
		if v == starts[k+1] {
			k++
		}
		if got := impl.BucketOf(v); got != k || v%1000 == 0 && bucketed(v) != k {
			t.Fatalf("BucketOf(%d) is %d and not %d, and the model %d", v, got, k, bucketed(v))
		}
	}
	if k != 20 {
		t.Fatalf("the greatest value is in bucket %d", k)
	}
}

func TestBucketRanges(t *testing.T) {
	for k, start := range bucketStarts() {
		end := bucketEnds()[k]
		if low, high := impl.BucketRange(k); low != start || high != end {
			t.Errorf("BucketRange(%d) is %d, %d and not %d, %d", k, low, high, start, end)
		}
		checkBucket(t, start, k)
		checkBucket(t, end, k)
		if k > 0 && start != bucketEnds()[k-1]+1 {
			t.Errorf("bucket %d begins with %d, and the one before ends with %d", k, start, bucketEnds()[k-1])
		}
	}
	if low, high := impl.BucketRange(20); low != 524288 || high != 1000000 {
		t.Errorf("BucketRange(20) is %d, %d", low, high)
	}
	for _, k := range []int{-1, 21, -2, 22, 42, -20, 63, 64, -64, 1 << 32, math.MinInt, math.MinInt + 1, math.MaxInt} {
		if low, high := impl.BucketRange(k); low != -1 || high != -1 {
			t.Errorf("BucketRange(%d) is %d, %d", k, low, high)
		}
	}
}

// goodHists are ordinary ones and those at the bounds.
func goodHists() []impl.Hist {
	list := []impl.Hist{
		histWith(0),
		held(0), held(1), held(5), held(mostValue),
		held(5, 0, 7, 100),
		held(2, 3, 2, 3, 2),
		held(edgeValues()...),
		histWith(0, 0, fullBucket),
		histWith(fullBucket, 1, fullBucket),
		histWith(fullBucket*mostValue, 20, fullBucket),
		histWith(fullBucket*524288, 20, fullBucket),
		histWith(fullBucket*600000+1, 20, fullBucket),
		histWith(6*fullBucket+5, 2, fullBucket-1, 3, fullBucket),
	}
	for _, n := range []int{1, 2, 77, fullBucket - 1, fullBucket} {
		list = append(list, filledBuckets(n, bucketStarts()), filledBuckets(n, bucketEnds()))
	}
	return list
}

type badHist struct {
	why string
	h   impl.Hist
}

// badCountHists have one Count that is not as it should be, in each of the buckets.
func badCountHists() []badHist {
	var list []badHist
	for k, low := range bucketStarts() {
		high := bucketEnds()[k]
		list = append(list,
			badHist{"a Count of -1", histWith(-low, k, -1)},
			badHist{"a Count of -1, and the Sum 0", histWith(0, k, -1)},
			badHist{"a Count of -1 among others", changedHist(filledBuckets(5, bucketStarts()), k, -6, -6*low)},
			badHist{"a Count of one too many", histWith((fullBucket+1)*low, k, fullBucket+1)},
			badHist{"a Count of one too many, of the greatest", histWith((fullBucket+1)*high, k, fullBucket+1)},
			badHist{"a Count of one too many among others", changedHist(filledBuckets(5, bucketStarts()), k, fullBucket-4, (fullBucket-4)*low)},
			badHist{"a Count far above", histWith(0, k, math.MaxInt)},
			badHist{"a Count of 2^62", histWith(0, k, 1<<62)},
			badHist{"a Count far below", histWith(0, k, math.MinInt)},
			badHist{"a Count of which the least Sum wraps to 0", histWith(0, k, 1<<62, 20, 1<<62)},
		)
		if k < 20 {
			// The values of bucket k+1 are about as many times greater as the Count is less.
			list = append(list, badHist{"a Count of -1 that the next one makes up for", histWith(2*bucketStarts()[k+1]-low, k, -1, k+1, 2)})
		}
	}
	return list
}

// badSumHists have Counts as they should be, and a Sum that the Counts do not allow.
func badSumHists() []badHist {
	var list []badHist
	for _, h := range goodHists() {
		least, greatest := bounds(h.Counts)
		for _, sum := range []int{least - 1, greatest + 1, least - mostValue, greatest + mostValue, -greatest - 1, math.MinInt, math.MaxInt} {
			list = append(list, badHist{"a Sum that does not fit", impl.Hist{Counts: h.Counts, Sum: sum}})
		}
	}
	return list
}

func badHists() []badHist {
	list := []badHist{
		{"the zero value", impl.Hist{}},
		{"no Counts", impl.Hist{Counts: []int{}}},
		{"no Counts, and a Sum", impl.Hist{Sum: 5}},
		{"one Count", impl.Hist{Counts: []int{0}}},
		{"a Count too few", impl.Hist{Counts: make([]int, 20)}},
		{"a Count too few, the others full", impl.Hist{Counts: slices.Repeat([]int{1}, 20), Sum: 524287}},
		{"a Count too many", impl.Hist{Counts: make([]int, 22)}},
		{"a Count too many, of a value", impl.Hist{Counts: append(make([]int, 21), 1), Sum: 1048576}},
		{"a Count too many, the others full", impl.Hist{Counts: append(slices.Repeat([]int{1}, 21), 0), Sum: 1048575}},
		{"many Counts", impl.Hist{Counts: make([]int, 100000)}},
		{"many Counts of 1", impl.Hist{Counts: slices.Repeat([]int{1}, 1000), Sum: 1000}},
		{"a Sum of nothing", histWith(1)},
		{"a Sum of -1", histWith(-1)},
		{"a Sum of zeros", histWith(1, 0, 7)},
		{"a Sum of -1 of zeros", histWith(-1, 0, 7)},
	}
	return append(append(list, badCountHists()...), badSumHists()...)
}

func TestHistogramsAtTheirBounds(t *testing.T) {
	for _, h := range goodHists() {
		checkValid(t, h, true)
		least, greatest := bounds(h.Counts)
		for _, sum := range []int{least, greatest, (least + greatest) / 2} {
			checkValid(t, impl.Hist{Counts: h.Counts, Sum: sum}, true)
		}
		for _, sum := range []int{least - 1, greatest + 1} {
			checkValid(t, impl.Hist{Counts: h.Counts, Sum: sum}, false)
		}
		checkMergeHist(t, h, histWith(0), h, true)
		checkMergeHist(t, histWith(0), h, h, true)
		checkLessHist(t, h, histWith(0), h, true)
		checkLessHist(t, h, h, histWith(0), true)
	}
}

// TestSumsThatFit has the bounds written out, for each bucket alone and for several.
func TestSumsThatFit(t *testing.T) {
	cases := []struct {
		counts          []int
		least, greatest int
	}{
		{nil, 0, 0},
		{[]int{0, 1000000}, 0, 0},
		{[]int{1, 3}, 3, 3},
		{[]int{2, 1}, 2, 3},
		{[]int{2, 5}, 10, 15},
		{[]int{3, 2}, 8, 14},
		{[]int{19, 1}, 262144, 524287},
		{[]int{20, 1}, 524288, 1000000},
		{[]int{20, 2}, 1048576, 2000000},
		{[]int{20, 1000000}, 524288000000, 1000000000000},
		{[]int{0, 9, 1, 4, 2, 2, 10, 1}, 520, 1033},
		{[]int{19, 1, 20, 1}, 786432, 1524287},
	}
	for _, c := range cases {
		checkValid(t, histWith(c.least, c.counts...), true)
		checkValid(t, histWith(c.greatest, c.counts...), true)
		checkValid(t, histWith(c.least-1, c.counts...), false)
		checkValid(t, histWith(c.greatest+1, c.counts...), false)
	}
	for k, low := range bucketStarts() {
		high := bucketEnds()[k]
		for _, n := range []int{1, 2, 3, fullBucket - 1, fullBucket} {
			checkValid(t, histWith(n*low, k, n), true)
			checkValid(t, histWith(n*high, k, n), true)
			checkValid(t, histWith(n*low-1, k, n), false)
			checkValid(t, histWith(n*high+1, k, n), false)
		}
	}
}

// TestWhatIsNoHistogram: each function answers as the document says, and gives back what it was given.
func TestWhatIsNoHistogram(t *testing.T) {
	good := held(5, 0, 7, 100)
	for _, bad := range badHists() {
		h := bad.h
		if impl.HistOk(h) {
			t.Errorf("%s: %v is a histogram", bad.why, h)
		}
		checkNumbers(t, h, -1, -1)
		for _, per := range []int{-1, 0, 1, 500, 999, 1000, 1001} {
			checkQuantile(t, h, per, -1, -1)
		}
		for _, v := range []int{0, 1, 2, 5, 1000, 524288, mostValue, -1, mostValue + 1} {
			checkAddValue(t, h, v, h, false)
		}
		checkMergeHist(t, h, good, h, false)
		checkMergeHist(t, good, h, good, false)
		checkMergeHist(t, h, histWith(0), h, false)
		checkMergeHist(t, histWith(0), h, histWith(0), false)
		checkMergeHist(t, h, h, h, false)
		checkLessHist(t, h, good, h, false)
		checkLessHist(t, good, h, good, false)
		checkLessHist(t, h, histWith(0), h, false)
		checkLessHist(t, histWith(0), h, histWith(0), false)
		checkLessHist(t, h, h, h, false)
	}
}

// TestInvalidHistogramsDoNotMakeUpForEachOther: it is not enough that the result would be valid.
func TestInvalidHistogramsDoNotMakeUpForEachOther(t *testing.T) {
	for k, v := range bucketStarts() {
		two, none, less, over := histWith(2*v, k, 2), histWith(0), histWith(-v, k, -1), histWith((fullBucket+1)*v, k, fullBucket+1)
		checkMergeHist(t, less, two, less, false)
		checkMergeHist(t, two, less, two, false)
		checkLessHist(t, over, two, over, false)
		checkLessHist(t, over, over, over, false)
		checkLessHist(t, two, less, two, false)
		checkLessHist(t, none, less, none, false)
		checkLessHist(t, less, less, less, false)
		checkAddValue(t, less, v, less, false)
	}
	high, low := histWith(8, 3, 1), histWith(3, 3, 1)
	checkMergeHist(t, high, low, high, false)
	checkMergeHist(t, low, high, low, false)
	checkMergeHist(t, low, held(7), low, false)
	checkMergeHist(t, high, held(4), high, false)
	checkLessHist(t, histWith(15, 3, 2), high, histWith(15, 3, 2), false)
	checkLessHist(t, held(7, 7), low, held(7, 7), false)
	checkAddValue(t, low, 7, low, false)
	checkAddValue(t, high, 4, high, false)
}

func TestAddValueAtTheBoundaries(t *testing.T) {
	for _, h := range []impl.Hist{histWith(0), held(5, 0, 7, 100), filledBuckets(3, bucketStarts()), filledBuckets(fullBucket-1, bucketEnds())} {
		for _, v := range append(edgeValues(), 5, 100, 999, 999999) {
			checkAddValue(t, h, v, changedHist(h, bucketed(v), 1, v), true)
		}
		for _, v := range noValues() {
			checkAddValue(t, h, v, h, false)
		}
	}
	checkAddValue(t, held(5, 0), 7, histWith(12, 0, 1, 3, 2), true)
	checkAddValue(t, histWith(0), 1000000, histWith(1000000, 20, 1), true)
}

func TestAddValueToAFullBucket(t *testing.T) {
	for k, low := range bucketStarts() {
		high := bucketEnds()[k]
		for _, v := range []int{low, high} {
			full := histWith(fullBucket*v, k, fullBucket)
			almost := histWith((fullBucket-1)*v, k, fullBucket-1)
			checkAddValue(t, almost, v, full, true)
			checkAddValue(t, full, low, full, false)
			checkAddValue(t, full, high, full, false)
			// The other buckets still have room.
			for _, other := range edgeValues() {
				if bucketed(other) != k {
					checkAddValue(t, full, other, changedHist(full, bucketed(other), 1, other), true)
				}
			}
		}
	}
	for _, full := range []impl.Hist{filledBuckets(fullBucket, bucketStarts()), filledBuckets(fullBucket, bucketEnds())} {
		for _, v := range append(edgeValues(), noValues()...) {
			checkAddValue(t, full, v, full, false)
		}
	}
}

func TestHistOfCases(t *testing.T) {
	cases := []struct {
		why    string
		values []int
		want   impl.Hist
	}{
		{"no values", nil, histWith(0)},
		{"an empty list", []int{}, histWith(0)},
		{"the value 0", []int{0}, histWith(0, 0, 1)},
		{"the value 1", []int{1}, histWith(1, 1, 1)},
		{"the greatest value", []int{1000000}, histWith(1000000, 20, 1)},
		{"the given ones", []int{5, 0, 7, 100}, histWith(112, 0, 1, 3, 2, 7, 1)},
		{"in another order", []int{100, 7, 0, 5}, histWith(112, 0, 1, 3, 2, 7, 1)},
		{"one value several times", []int{6, 6, 6, 6}, histWith(24, 3, 4)},
		{"the same buckets alternately", []int{2, 4, 3, 5, 2, 7}, histWith(23, 2, 3, 3, 3)},
		{"zeros after others", []int{9, 0, 0}, histWith(9, 0, 2, 4, 1)},
		{"both sides of a boundary", []int{524287, 524288}, histWith(1048575, 19, 1, 20, 1)},
		{"the smallest of each bucket", bucketStarts(), filledBuckets(1, bucketStarts())},
		{"the greatest of each bucket", bucketEnds(), filledBuckets(1, bucketEnds())},
	}
	for _, c := range cases {
		got, ok := impl.HistOf(c.values)
		if !ok || !equalHists(got, c.want) || !impl.HistOk(got) {
			t.Errorf("%s: HistOf(%v) is %v, %v and not %v", c.why, c.values, got, ok, c.want)
		}
	}
	for _, v := range edgeValues() {
		checkHistOf(t, []int{v}, histWith(v, bucketed(v), 1), true)
	}
}

func TestHistOfManyValues(t *testing.T) {
	for _, v := range []int{0, 1, 5, 524287, 524288, mostValue} {
		for _, n := range []int{299, 300} {
			checkHistOf(t, slices.Repeat([]int{v}, n), histWith(n*v, bucketed(v), n), true)
		}
		for _, n := range []int{301, 302, 600, 100000} {
			checkHistOf(t, slices.Repeat([]int{v}, n), impl.Hist{}, false)
		}
	}
	mixed := slices.Repeat(edgeValues(), 10)
	checkHistOf(t, mixed[:300], held(mixed[:300]...), true)
	checkHistOf(t, mixed[:301], impl.Hist{}, false)
}

func TestHistOfWhatIsNoValue(t *testing.T) {
	for _, bad := range noValues() {
		checkHistOf(t, []int{bad}, impl.Hist{}, false)
		for _, n := range []int{1, 2, 10, 299} {
			values := slices.Repeat([]int{7, 0, mostValue}, 100)[:n]
			for _, at := range []int{0, n / 2, n - 1, n} {
				checkHistOf(t, slices.Insert(slices.Clone(values), at, bad), impl.Hist{}, false)
			}
		}
		checkHistOf(t, append(make([]int, 300), bad), impl.Hist{}, false)
	}
	// Together they come to what a value could be.
	checkHistOf(t, []int{-1, 2}, impl.Hist{}, false)
	checkHistOf(t, []int{mostValue + 1, -1}, impl.Hist{}, false)
}

func TestMergeHistCases(t *testing.T) {
	checkMergeHist(t, held(5, 0), held(7, 100), histWith(112, 0, 1, 3, 2, 7, 1), true)
	checkMergeHist(t, held(5, 0), held(5, 0), held(5, 0, 5, 0), true)
	checkMergeHist(t, histWith(0), histWith(0), histWith(0), true)
	checkMergeHist(t, held(0), held(mostValue), histWith(mostValue, 0, 1, 20, 1), true)
	checkMergeHist(t, filledBuckets(2, bucketStarts()), filledBuckets(3, bucketStarts()), filledBuckets(5, bucketStarts()), true)
	// More values than a list may have.
	many := held(slices.Repeat([]int{9}, 300)...)
	checkMergeHist(t, many, many, histWith(5400, 4, 600), true)
	same := held(5, 0, 7, 100)
	checkMergeHist(t, same, same, histWith(224, 0, 2, 3, 4, 7, 2), true)
}

func TestMergeHistUpToAFullBucket(t *testing.T) {
	for k, low := range bucketStarts() {
		for _, v := range []int{low, bucketEnds()[k]} {
			of := func(n int) impl.Hist { return changedHist(held(edgeValues()...), k, n, n*v) }
			own := of(0).Counts[k]
			// Each of the two has some values of the bucket already.
			for _, n := range []int{0, 1, 300, 500000 - own, fullBucket - 2*own - 1, fullBucket - 2*own} {
				rest := fullBucket - 2*own - n
				want, ok := combined(of(n), of(rest), 1)
				if !ok || want.Counts[k] != fullBucket {
					t.Fatalf("the model of %v and %v is %v, %v", of(n), of(rest), want, ok)
				}
				checkMergeHist(t, of(n), of(rest), want, true)
				checkMergeHist(t, of(n), of(rest+1), of(n), false)
				checkMergeHist(t, of(n+1), of(rest), of(n+1), false)
			}
		}
		full, single := histWith(fullBucket*low, k, fullBucket), held(low)
		checkMergeHist(t, full, single, full, false)
		checkMergeHist(t, single, full, single, false)
		checkMergeHist(t, full, full, full, false)
		checkMergeHist(t, full, histWith(0), full, true)
	}
	lower, upper := histWith(0, 0, fullBucket), histWith(fullBucket*mostValue, 20, fullBucket)
	checkMergeHist(t, lower, upper, histWith(fullBucket*mostValue, 0, fullBucket, 20, fullBucket), true)
}

func TestCountsOfHistograms(t *testing.T) {
	cases := []struct {
		h           impl.Hist
		count, mean int
	}{
		{histWith(0), 0, -1},
		{held(0), 1, 0},
		{held(0, 0, 0), 3, 0},
		{held(1), 1, 1},
		{held(mostValue), 1, mostValue},
		{held(5, 0, 7, 100), 4, 28},
		{held(5, 0, 7, 99), 4, 27},
		{held(5, 0, 7, 101), 4, 28},
		{held(5, 0, 7, 103), 4, 28},
		{held(5, 0, 7, 104), 4, 29},
		{held(0, 1), 2, 0},
		{held(1, 2), 2, 1},
		{held(0, 0, 1), 3, 0},
		{held(1, 1, 0), 3, 0},
		{held(2, 3, 3), 3, 2},
		{held(mostValue, mostValue-1), 2, mostValue - 1},
		{held(bucketStarts()...), 21, 49932},
		{held(bucketEnds()...), 21, 97550},
		{histWith(3*fullBucket-1, 2, fullBucket), fullBucket, 2},
		{histWith(fullBucket*mostValue, 20, fullBucket), fullBucket, mostValue},
		{histWith(fullBucket*mostValue-1, 20, fullBucket), fullBucket, mostValue - 1},
		{histWith(0, 0, fullBucket), fullBucket, 0},
		{filledBuckets(fullBucket, bucketStarts()), 21 * fullBucket, 49932},
		{filledBuckets(fullBucket, bucketEnds()), 21 * fullBucket, 97550},
	}
	for _, c := range cases {
		checkNumbers(t, c.h, c.count, c.mean)
	}
	for _, h := range goodHists() {
		n := countedIn(h)
		if n > 0 {
			checkNumbers(t, h, n, h.Sum/n)
		}
	}
}

func TestQuantilesOutOfRange(t *testing.T) {
	for _, h := range goodHists() {
		for _, per := range []int{-1, 1001, -1000, 2000, math.MinInt, math.MinInt / 2, 1 << 62, math.MaxInt} {
			checkQuantile(t, h, per, -1, -1)
		}
	}
	for per := -2; per <= 1002; per++ {
		checkQuantile(t, histWith(0), per, -1, -1)
		checkQuantile(t, impl.Hist{}, per, -1, -1)
	}
}

func TestQuantilesOfASingleValue(t *testing.T) {
	for k, low := range bucketStarts() {
		for _, v := range []int{low, bucketEnds()[k]} {
			for _, per := range []int{0, 1, 499, 500, 501, 999, 1000} {
				checkBucketAt(t, held(v), per, k)
				checkBucketAt(t, held(v, v, v), per, k)
				checkBucketAt(t, histWith(fullBucket*v, k, fullBucket), per, k)
			}
			checkQuantile(t, held(v), -1, -1, -1)
			checkQuantile(t, held(v), 1001, -1, -1)
		}
	}
}

// TestQuantilesWhereBucketsMeet has indices that are the last ones of a bucket and the first ones of the
// next bucket that is not empty.
func TestQuantilesWhereBucketsMeet(t *testing.T) {
	cases := []struct {
		why         string
		h           impl.Hist
		per, bucket int
	}{
		{"the first of two", held(0, 1), 0, 0},
		{"the first of two, until just before the end", held(0, 1), 999, 0},
		{"the second of two", held(0, 1), 1000, 1},
		{"the first of three", held(1, 2, 4), 499, 1},
		{"the second of three", held(1, 2, 4), 500, 2},
		{"the second of three, until just before the end", held(1, 2, 4), 999, 2},
		{"the third of three", held(1, 2, 4), 1000, 3},
		{"the first of four", held(5, 0, 7, 100), 333, 0},
		{"the second of four", held(5, 0, 7, 100), 334, 3},
		{"the third of four, in the same bucket", held(5, 0, 7, 100), 667, 3},
		{"the third of four, until just before the end", held(5, 0, 7, 100), 999, 3},
		{"the fourth of four", held(5, 0, 7, 100), 1000, 7},
		{"a rest of the division", held(0, 1, 2, 4), 666, 1},
		{"no rest of the division any more", held(0, 1, 2, 4), 667, 2},
		{"over empty buckets", held(0, mostValue), 999, 0},
		{"over empty buckets, at the end", held(0, mostValue), 1000, 20},
		{"the last of the first bucket of 1001", histWith(0+501, 0, 500, 1, 501), 499, 0},
		{"the first of the second bucket of 1001", histWith(0+501, 0, 500, 1, 501), 500, 1},
		{"the last of the first bucket of 1001, for a bucket of one more", histWith(500, 0, 501, 1, 500), 500, 0},
		{"the first of the second bucket of 1001, after a bucket of one more", histWith(500, 0, 501, 1, 500), 501, 1},
		{"one value below the rest", histWith(1000, 0, 1, 1, 1000), 0, 0},
		{"the first of the rest", histWith(1000, 0, 1, 1, 1000), 1, 1},
		{"the last of the rest", histWith(1, 0, 1000, 1, 1), 999, 0},
		{"one value above the rest", histWith(1, 0, 1000, 1, 1), 1000, 1},
		{"of more values than steps", histWith(1, 0, 5000, 1, 1), 999, 0},
		{"of more values than steps, the last one", histWith(1, 0, 5000, 1, 1), 1000, 1},
		{"in 100 values the last of the 50", histWith(50, 0, 50, 1, 50), 505, 0},
		{"in 100 values the first after the 50", histWith(50, 0, 50, 1, 50), 506, 1},
		{"the first bucket is empty", held(1, 2), 0, 1},
		{"all buckets are full, at first", filledBuckets(fullBucket, bucketStarts()), 47, 0},
		{"all buckets are full, then the second one", filledBuckets(fullBucket, bucketStarts()), 48, 1},
		{"all buckets are full, in the middle", filledBuckets(fullBucket, bucketEnds()), 500, 10},
		{"all buckets are full, at last but one", filledBuckets(fullBucket, bucketEnds()), 952, 19},
		{"all buckets are full, at last", filledBuckets(fullBucket, bucketEnds()), 953, 20},
		{"all buckets are full, the last one of all", filledBuckets(fullBucket, bucketEnds()), 1000, 20},
	}
	for _, c := range cases {
		low, high := bucketStarts()[c.bucket], bucketEnds()[c.bucket]
		if l, g := impl.Quantile(c.h, c.per); l != low || g != high {
			t.Errorf("%s: Quantile(%v, %d) is %d, %d and not %d, %d", c.why, c.h, c.per, l, g, low, high)
		}
	}
	for _, h := range goodHists() {
		for per := range 1001 {
			if n := countedIn(h); n > 0 {
				checkBucketAt(t, h, per, ranked(h, (n-1)*per/1000))
			}
		}
	}
}

func TestLessHistCases(t *testing.T) {
	cases := []struct {
		why     string
		a, b, c impl.Hist
	}{
		{"one of several", held(5, 0, 7, 100), held(7), held(5, 0, 100)},
		{"all but one", held(5, 0, 7, 100), held(5, 0, 100), held(7)},
		{"all", held(5, 0, 7, 100), held(0, 5, 7, 100), histWith(0)},
		{"none", held(5, 0, 7, 100), histWith(0), held(5, 0, 7, 100)},
		{"nothing of nothing", histWith(0), histWith(0), histWith(0)},
		{"zeros", held(0, 0, 0), held(0), held(0, 0)},
		{"of a full bucket", histWith(fullBucket*mostValue, 20, fullBucket), held(mostValue), histWith((fullBucket-1)*mostValue, 20, fullBucket-1)},
		{"a full bucket", histWith(fullBucket, 1, fullBucket, 0, 3), histWith(fullBucket, 1, fullBucket), held(0, 0, 0)},
		{"the greatest of the smallest", held(4, 4), held(4), held(4)},
		{"down to the smallest Sum", held(4, 5), held(5), held(4)},
		{"down to the smallest Sum of values that were not there", held(5, 6), held(7), held(4)},
		{"down to the greatest Sum of values that were not there", held(5, 6), held(4), held(7)},
		{"down to the greatest Sum, of two", held(7, 7, 5, 5), held(4, 6), histWith(14, 3, 2)},
		{"a value that was not there", held(5, 6), held(5), held(6)},
	}
	for _, c := range cases {
		got, ok := impl.LessHist(c.a, c.b)
		if !ok || !equalHists(got, c.c) || !impl.HistOk(got) {
			t.Errorf("%s: LessHist(%v, %v) is %v, %v and not %v", c.why, c.a, c.b, got, ok, c.c)
		}
	}
}

func TestLessHistWithoutADifference(t *testing.T) {
	cases := []struct {
		why  string
		a, b impl.Hist
	}{
		{"of nothing", histWith(0), held(5)},
		{"of nothing, a zero", histWith(0), held(0)},
		{"of another bucket", held(5), held(8)},
		{"of another bucket, less", held(5), held(3)},
		{"one more", held(5, 5), held(5, 5, 5)},
		{"one more zero", held(0, 0), held(0, 0, 0)},
		{"one bucket of several", held(0, 1, 2, 4, 8), held(0, 2, 3)},
		{"one more in the last bucket", held(0, mostValue), held(mostValue, mostValue)},
		{"the Sum falls one below", held(5, 6), changedHist(held(7), 3, 1, 5)},
		{"the same Counts, and one less remains", held(4), held(5)},
		{"the same Counts, and one more remains", held(5), held(4)},
		{"one below the smallest Sum", held(4, 6), held(7)},
		{"one above the greatest Sum", held(5, 7), held(4)},
		{"far above the greatest Sum", held(7, 7), held(4)},
		{"far below the smallest Sum", held(4, 4), held(7)},
		{"below 0", held(1, 4), held(7)},
		{"above the greatest value", held(mostValue, mostValue), held(524288)},
		{"above the greatest value by one", held(mostValue, mostValue), held(mostValue - 1)},
		{"a Sum of zeros", held(0, 0, 5), held(0, 4)},
	}
	for _, c := range cases {
		got, ok := impl.LessHist(c.a, c.b)
		if ok || !equalHists(got, c.a) {
			t.Errorf("%s: LessHist(%v, %v) is %v, %v", c.why, c.a, c.b, got, ok)
		}
	}
	for k, v := range bucketStarts() {
		a := filledBuckets(3, bucketStarts())
		b := changedHist(a, k, 1, v)
		checkLessHist(t, a, b, a, false)
		checkLessHist(t, b, a, held(v), true)
	}
}

// randomValues are from a range that is narrow or wide, or near the boundaries of buckets.
func randomValues(random *rand.Rand, n int) []int {
	most := sometimes(random, 1, 3, 10, 100, 5000, mostValue, mostValue)
	near := random.Intn(3) == 0
	edges := edgeValues()
	var values []int
	for range n {
		v := random.Intn(most + 1)
		switch {
		case near:
			v = edges[random.Intn(len(edges))] + random.Intn(3) - 1
		case random.Intn(2) == 0:
			// Smaller values are as likely as greater ones.
			v >>= random.Intn(20)
		}
		values = append(values, min(max(v, 0), mostValue))
	}
	return values
}

// checkQuantiles is the first part of promise 14. It returns how many buckets the quantiles come from.
func checkQuantiles(t *testing.T, values []int, h impl.Hist) int {
	t.Helper()
	sorted := slices.Sorted(slices.Values(values))
	ranges := map[int]bool{}
	for per := range 1001 {
		exact := sorted[(len(sorted)-1)*per/1000]
		low, high := impl.Quantile(h, per)
		if exact < low || exact > high || low < 0 {
			t.Fatalf("of %v the quantile at %d is %d, and Quantile is %d, %d", sorted, per, exact, low, high)
		}
		if k := bucketed(exact); low != bucketStarts()[k] || high != bucketEnds()[k] {
			t.Fatalf("of %v the quantile at %d is %d, and Quantile is %d, %d, which is not the range of its bucket", sorted, per, exact, low, high)
		}
		ranges[low] = true
	}
	return len(ranges)
}

func TestQuantilesLieInTheRange(t *testing.T) {
	random := rand.New(rand.NewSource(140))
	wide := 0
	for range 1500 {
		values := randomValues(random, sometimes(random, 1, 2, 3, 5, 10, 100, 299, 300))
		h, ok := impl.HistOf(values)
		if !ok || !equalHists(h, held(values...)) {
			t.Fatalf("HistOf(%v) is %v, %v", values, h, ok)
		}
		sum := 0
		for _, v := range values {
			sum += v
		}
		checkNumbers(t, h, len(values), sum/len(values))
		wide += min(1, checkQuantiles(t, values, h)/4)
	}
	if wide < 300 {
		t.Errorf("the quantiles of only %d lists come from four buckets or more", wide)
	}
}

// addedValues is what AddValue makes of the values one by one.
func addedValues(t *testing.T, values []int) impl.Hist {
	t.Helper()
	h := histWith(0)
	for i, v := range values {
		var ok bool
		h, ok = impl.AddValue(h, v)
		if !ok || !impl.HistOk(h) || impl.CountOfHist(h) != i+1 {
			t.Fatalf("after value %d of %v the histogram is %v, %v", i, values, h, ok)
		}
	}
	return h
}

// TestMergingEqualsAddingAll is the second part of promise 14.
func TestMergingEqualsAddingAll(t *testing.T) {
	random := rand.New(rand.NewSource(141))
	for range 3000 {
		values := randomValues(random, sometimes(random, 0, 1, 2, 3, 10, 50, 300))
		at := random.Intn(len(values) + 1)
		all, _ := impl.HistOf(values)
		left, _ := impl.HistOf(values[:at])
		right, _ := impl.HistOf(values[at:])
		if added := addedValues(t, values); !equalHists(all, added) {
			t.Fatalf("HistOf(%v) is %v, and adding gives %v", values, all, added)
		}
		checkMergeHist(t, left, right, all, true)
		checkMergeHist(t, right, left, all, true)
		checkLessHist(t, all, left, right, true)
		checkLessHist(t, all, right, left, true)
		if at > 0 {
			checkLessHist(t, right, all, right, false)
		}
	}
}

// TestMergingMoreThanAList adds up histograms that together have more values than a list may have.
func TestMergingMoreThanAList(t *testing.T) {
	random := rand.New(rand.NewSource(142))
	for range 20 {
		var all []int
		sum := histWith(0)
		for range 6 {
			values := randomValues(random, 300)
			all = append(all, values...)
			part, _ := impl.HistOf(values)
			sum, _ = impl.MergeHist(sum, part)
		}
		if added := addedValues(t, all); !equalHists(sum, added) {
			t.Fatalf("merging gives %v, and adding %v", sum, added)
		}
		checkQuantiles(t, all, sum)
	}
}

// randomHist has any Counts and a Sum that fits them or just does not.
func randomHist(random *rand.Rand) impl.Hist {
	h := histWith(0)
	most := sometimes(random, 1, 2, 10, fullBucket/2, fullBucket)
	for k := range h.Counts {
		if random.Intn(3) > 0 {
			h.Counts[k] = random.Intn(most + 1)
		}
	}
	least, greatest := bounds(h.Counts)
	h.Sum = sometimes(random, least, greatest, least+random.Intn(greatest-least+1), least+random.Intn(greatest-least+1))
	switch random.Intn(20) {
	case 0:
		h.Sum = sometimes(random, least-1, greatest+1)
	case 1:
		h.Counts[random.Intn(21)] = sometimes(random, -1, fullBucket, fullBucket+1)
	}
	return h
}

func TestHistogramsByTheModel(t *testing.T) {
	random := rand.New(rand.NewSource(143))
	merged, notMerged, less, notLess := 0, 0, 0, 0
	for range 20000 {
		a, b := randomHist(random), randomHist(random)
		if random.Intn(3) == 0 {
			// This one has all that b has, or nearly so.
			a, _ = combined(a, b, 1)
			a = changedHist(a, random.Intn(21), 0, random.Intn(3)-1)
		}
		checkValid(t, a, isHist(a))
		sum, ok := combined(a, b, 1)
		checkMergeHist(t, a, b, sum, ok)
		merged, notMerged = merged+one(ok), notMerged+one(!ok)
		difference, ok := combined(a, b, -1)
		checkLessHist(t, a, b, difference, ok)
		less, notLess = less+one(ok), notLess+one(!ok)
		v := edgeValues()[random.Intn(len(edgeValues()))]
		with, ok := combined(a, held(v), 1)
		checkAddValue(t, a, v, with, ok)
		if n := countedIn(a); isHist(a) && n > 0 {
			per := random.Intn(1001)
			checkNumbers(t, a, n, a.Sum/n)
			checkBucketAt(t, a, per, ranked(a, (n-1)*per/1000))
		}
	}
	if merged < 1000 || notMerged < 1000 || less < 1000 || notLess < 1000 {
		t.Errorf("too few: %d merged, %d not, %d differences, %d without", merged, notMerged, less, notLess)
	}
}

// histResults are the results of all functions of chapter 14, refused calls among them.
type histResults struct {
	hists   []impl.Hist
	numbers []int
}

func (r *histResults) hist(h impl.Hist, ok bool) {
	r.hists = append(r.hists, h)
	r.numbers = append(r.numbers, one(ok))
}

func (r *histResults) pair(a, b int) {
	r.numbers = append(r.numbers, a, b)
}

func histResultsOf(a, b impl.Hist, values []int) histResults {
	var r histResults
	r.hist(impl.MergeHist(a, b))
	r.hist(impl.MergeHist(b, a))
	r.hist(impl.MergeHist(a, a))
	r.hist(impl.MergeHist(a, impl.Hist{}))
	r.hist(impl.LessHist(a, b))
	r.hist(impl.LessHist(b, a))
	r.hist(impl.LessHist(a, a))
	r.hist(impl.LessHist(a, impl.Hist{}))
	r.hist(impl.HistOf(values))
	r.hist(impl.HistOf(values[:len(values)/2]))
	r.hist(impl.HistOf(nil))
	r.pair(one(impl.HistOk(a)), one(impl.HistOk(b)))
	r.pair(impl.CountOfHist(a), impl.CountOfHist(b))
	r.pair(impl.MeanOf(a), impl.MeanOf(b))
	for _, n := range []int{-1, 0, 1, 5, 20, 21, 500, 1000, 1001, mostValue, mostValue + 1} {
		r.hist(impl.AddValue(a, n))
		r.hist(impl.AddValue(b, n))
		r.pair(impl.Quantile(a, n))
		r.pair(impl.Quantile(b, n))
		r.pair(impl.BucketRange(n))
		r.pair(impl.BucketOf(n), n)
	}
	return r
}

func (r histResults) equal(q histResults) bool {
	return slices.Equal(r.numbers, q.numbers) && slices.EqualFunc(r.hists, q.hists, equalHists)
}

func (r histResults) ownMemory() bool {
	var counts graphResults
	for _, h := range r.hists {
		counts.lists = append(counts.lists, h.Counts)
	}
	return counts.ownMemory()
}

type histCase struct {
	a, b   impl.Hist
	values []int
}

// histCases combine some of all that this file knows, with what is invalid.
func histCases(seed int64, n int) []histCase {
	random := rand.New(rand.NewSource(seed))
	hists := goodHists()
	for _, bad := range badHists() {
		if len(bad.h.Counts) < 100 {
			hists = append(hists, bad.h)
		}
	}
	pick := func() impl.Hist {
		switch random.Intn(3) {
		case 0:
			return held(randomValues(random, 1+random.Intn(300))...)
		case 1:
			return randomHist(random)
		default:
			return hists[random.Intn(len(hists))]
		}
	}
	var cases []histCase
	for range n {
		values := randomValues(random, sometimes(random, 1, 2, 5, 20, 300, 301))
		if random.Intn(3) == 0 {
			values[random.Intn(len(values))] = sometimes(random, noValues()...)
		}
		cases = append(cases, histCase{pick(), pick(), values})
	}
	return cases
}

// TestHistogramsAreNewMemory has the arguments in the middle of arrays, so that writes beside them show
// too.
func TestHistogramsAreNewMemory(t *testing.T) {
	for _, c := range histCases(144, 500) {
		firstArray, first := padded(c.a.Counts, 77)
		secondArray, second := padded(c.b.Counts, 88)
		valuesArray, values := padded(c.values, 99)
		arrays := [][]int{firstArray, secondArray, valuesArray}
		kept := [][]int{slices.Clone(firstArray), slices.Clone(secondArray), slices.Clone(valuesArray)}
		a, b := impl.Hist{Counts: first, Sum: c.a.Sum}, impl.Hist{Counts: second, Sum: c.b.Sum}
		results := histResultsOf(a, b, values)
		if !equalLists(arrays, kept) {
			t.Fatalf("an argument of %v was changed", c)
		}
		if !results.ownMemory() {
			t.Fatalf("results for %v share memory with each other", c)
		}
		if !equalLists(arrays, kept) {
			t.Fatalf("a result for %v shares memory with an argument", c)
		}
		if !histResultsOf(a, b, values).equal(histResultsOf(c.a, c.b, c.values)) {
			t.Fatalf("results for %v depend on what was done with earlier ones", c)
		}
	}
}

// TestRefusedHistogramsAreNewMemory: what is given back together with false is a copy too.
func TestRefusedHistogramsAreNewMemory(t *testing.T) {
	for _, bad := range append(badHists(), badHist{"a full one", filledBuckets(fullBucket, bucketEnds())}) {
		h := cloneHist(bad.h)
		for _, refuse := range []func() (impl.Hist, bool){
			func() (impl.Hist, bool) { return impl.AddValue(h, 5) },
			func() (impl.Hist, bool) { return impl.AddValue(h, -1) },
			func() (impl.Hist, bool) { return impl.MergeHist(h, held(5)) },
			func() (impl.Hist, bool) { return impl.MergeHist(h, impl.Hist{}) },
			func() (impl.Hist, bool) { return impl.LessHist(h, impl.Hist{}) },
			func() (impl.Hist, bool) { return impl.LessHist(h, histWith(4, 3, 1, 20, -1)) },
		} {
			got, ok := refuse()
			fill(got.Counts, -5)
			if ok || !equalHists(h, bad.h) {
				t.Fatalf("%s: a refused call returns %v, or memory of the argument, which is %v", bad.why, ok, h)
			}
		}
	}
}

// TestHistogramsKeepNothing: what was found out about one histogram or list is not used for another one,
// even if it lies in the same memory.
func TestHistogramsKeepNothing(t *testing.T) {
	cases := histCases(145, 300)
	var first []histResults
	for _, c := range cases {
		first = append(first, histResultsOf(c.a, c.b, c.values))
	}
	left, right, list := make([]int, 100), make([]int, 100), make([]int, 400)
	for i := len(cases) - 1; i >= 0; i-- {
		c := cases[i]
		a := impl.Hist{Counts: left[:copy(left, c.a.Counts)], Sum: c.a.Sum}
		b := impl.Hist{Counts: right[:copy(right, c.b.Counts)], Sum: c.b.Sum}
		values := list[:copy(list, c.values)]
		if again := histResultsOf(a, b, values); !again.equal(first[i]) {
			t.Fatalf("the results for %v are %v and then %v", c, first[i], again)
		}
	}
}

// TestHistogramsOfAnyNumbers: no call panics, and only what is valid is changed.
func TestHistogramsOfAnyNumbers(t *testing.T) {
	numbers := []int{math.MinInt, math.MinInt + 1, -fullBucket, -1, 0, 0, 0, 1, 5, fullBucket, fullBucket + 1, 1 << 43, 1 << 44, 1 << 62, math.MaxInt - 1, math.MaxInt}
	random := rand.New(rand.NewSource(146))
	for range 5000 {
		some := func() int { return sometimes(random, numbers...) }
		h := impl.Hist{Counts: make([]int, sometimes(random, 0, 1, 20, 21, 21, 21, 22)), Sum: some()}
		for i := range h.Counts {
			h.Counts[i] = some()
		}
		histResultsOf(h, h, h.Counts)
		histResultsOf(h, held(5, 7), h.Counts)
		v, per := some(), some()
		checkValid(t, h, isHist(h))
		checkBucket(t, v, bucketed(v))
		impl.BucketRange(v)
		if low, high := impl.Quantile(h, per); !isHist(h) && (low != -1 || high != -1) {
			t.Fatalf("Quantile(%v, %d) is %d, %d", h, per, low, high)
		}
		if got, ok := impl.AddValue(h, v); !ok && !equalHists(got, h) || ok && !isHist(h) {
			t.Fatalf("AddValue(%v, %d) is %v, %v", h, v, got, ok)
		}
		if got, ok := impl.HistOf(h.Counts); !ok && (len(got.Counts) != 0 || got.Sum != 0) {
			t.Fatalf("HistOf(%v) is %v, %v", h.Counts, got, ok)
		}
	}
}

// TestSchedulesDoNotMatterForHistograms makes the same calls several times at once.
func TestSchedulesDoNotMatterForHistograms(t *testing.T) {
	defer runtime.GOMAXPROCS(runtime.GOMAXPROCS(0))
	for i, c := range histCases(147, 30) {
		runtime.GOMAXPROCS([]int{1, 2, 8}[i%3])
		want := histResultsOf(c.a, c.b, c.values)
		var callers sync.WaitGroup
		for range 4 {
			callers.Add(1)
			go func() {
				defer callers.Done()
				if !histResultsOf(c.a, c.b, c.values).equal(want) {
					t.Errorf("the same calls for %v have other results", c)
				}
			}()
		}
		callers.Wait()
	}
}
