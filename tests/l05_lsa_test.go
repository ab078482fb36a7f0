package tests

import (
	"bytes"
	"encoding/binary"
	"math"
	"math/big"
	"math/bits"
	"math/rand"
	"slices"
	"testing"

	"loop.example/g00681/impl"
)

func stub(net, length, cost int) impl.Stub {
	return impl.Stub{Prefix: impl.Prefix{Net: net, Len: length}, Cost: cost}
}

func cloneLsa(l impl.Lsa) impl.Lsa {
	l.Links, l.Stubs = slices.Clone(l.Links), slices.Clone(l.Stubs)
	return l
}

func equalLsas(a, b impl.Lsa) bool {
	return a.Origin == b.Origin && a.Seq == b.Seq && a.Age == b.Age && slices.Equal(a.Links, b.Links) && slices.Equal(a.Stubs, b.Stubs)
}

func isZeroLsa(l impl.Lsa) bool {
	return equalLsas(l, impl.Lsa{})
}

// manyStubs has n stubs in order, n up to 6.
func manyStubs(n int) []impl.Stub {
	return []impl.Stub{
		stub(0, 0, 1000), stub(0, 16, 1000), stub(0x1234, 16, 999),
		stub(0x8000, 1, 1), stub(0xff00, 8, 256), stub(0xffff, 16, 1000),
	}[:n]
}

// allLinks has a link to each node but one.
func allLinks(origin, cost int) []impl.Link {
	var links []impl.Link
	for to := range impl.MaxNodes {
		if to != origin {
			links = append(links, impl.Link{To: to, Cost: cost})
		}
	}
	return links
}

func ordinary() impl.Lsa {
	return impl.Lsa{
		Origin: 4, Seq: 70000, Age: 7,
		Links: []impl.Link{{To: 0, Cost: 300}, {To: 3, Cost: 1}, {To: 8, Cost: 1000}},
		Stubs: []impl.Stub{stub(0, 1, 5), stub(1024, 8, 1), stub(1024, 16, 700)},
	}
}

func changed(change func(l *impl.Lsa)) impl.Lsa {
	l := ordinary()
	change(&l)
	return l
}

func goodLsas() []impl.Lsa {
	list := []impl.Lsa{
		ordinary(),
		{Origin: 1, Seq: 3, Links: []impl.Link{{To: 2, Cost: 7}}, Stubs: []impl.Stub{stub(256, 8, 1)}},
		{Seq: 1},
		{Seq: 1, Links: []impl.Link{}, Stubs: []impl.Stub{}},
		{Origin: 9, Seq: impl.MaxSeq},
		{Origin: 9, Seq: impl.MaxSeq, Age: impl.MaxAge, Links: allLinks(9, 1000), Stubs: manyStubs(6)},
		{Origin: 0, Seq: 1, Age: 59, Links: allLinks(0, 1)},
		{Origin: 5, Seq: 65536, Age: 1, Stubs: manyStubs(6)},
		{Origin: 2, Seq: 256, Links: []impl.Link{{To: 9, Cost: 1000}}, Stubs: manyStubs(5)},
		{Origin: 2, Seq: 255, Links: []impl.Link{{To: 0, Cost: 1}}, Stubs: manyStubs(1)},
		{Origin: 7, Seq: 999999, Links: []impl.Link{{To: 6, Cost: 255}, {To: 8, Cost: 256}}},
	}
	random := rand.New(rand.NewSource(50))
	for range 100 {
		list = append(list, randomLsa(random, random.Intn(10)))
	}
	return list
}

func randomLsa(random *rand.Rand, origin int) impl.Lsa {
	l := impl.Lsa{Origin: origin, Seq: 1 + random.Intn([]int{3, 300, impl.MaxSeq}[random.Intn(3)]), Age: random.Intn(impl.MaxAge + 1)}
	for to := range impl.MaxNodes {
		if to != origin && random.Intn(3) == 0 {
			l.Links = append(l.Links, impl.Link{To: to, Cost: 1 + random.Intn(impl.MaxCost)})
		}
	}
	for net, n := 0, random.Intn(impl.MaxStubs+1); len(l.Stubs) < n; net++ {
		size := 1 << random.Intn(17)
		net = (net + random.Intn(9000) + size - 1) / size * size
		if net >= addrs {
			break
		}
		l.Stubs = append(l.Stubs, stub(net, 17-bits.Len(uint(size)), 1+random.Intn(impl.MaxCost)))
	}
	return l
}

type badLsa struct {
	why string
	lsa impl.Lsa
}

// badLsas lists what is wrong in exactly one way, apart from the zero value.
func badLsas() []badLsa {
	bad := []badLsa{{"the zero value", impl.Lsa{}}}
	add := func(why string, change func(l *impl.Lsa)) {
		bad = append(bad, badLsa{why, changed(change)})
	}
	for _, no := range []int{-1, 10, 11, 255, 256, 260, math.MinInt, math.MaxInt} {
		add("Origin", func(l *impl.Lsa) { l.Origin = no })
		add("the first To", func(l *impl.Lsa) { l.Links = []impl.Link{{To: no, Cost: 1}} })
		add("the last To", func(l *impl.Lsa) { l.Links[2].To = no })
	}
	for _, no := range []int{0, -1, impl.MaxSeq + 1, 1 << 24, 1<<24 + 5, math.MinInt, math.MaxInt} {
		add("Seq", func(l *impl.Lsa) { l.Seq = no })
	}
	for _, no := range []int{-1, impl.MaxAge + 1, 255, 256, math.MinInt, math.MaxInt} {
		add("Age", func(l *impl.Lsa) { l.Age = no })
	}
	for _, no := range []int{0, -1, 1001, 65536, 65537, math.MinInt, math.MaxInt} {
		for i := range 3 {
			add("the Cost of a link", func(l *impl.Lsa) { l.Links[i].Cost = no })
			add("the Cost of a stub", func(l *impl.Lsa) { l.Stubs[i].Cost = no })
		}
	}
	for _, p := range badPrefixes() {
		add("the first Prefix", func(l *impl.Lsa) { l.Stubs = []impl.Stub{{Prefix: p, Cost: 1}} })
		add("the last Prefix", func(l *impl.Lsa) { l.Stubs[2].Prefix = p })
	}
	add("a link to the Origin", func(l *impl.Lsa) { l.Links = []impl.Link{{To: 4, Cost: 1}} })
	add("a link to the Origin between others", func(l *impl.Lsa) { l.Links = slices.Insert(l.Links, 2, impl.Link{To: 4, Cost: 1}) })
	add("links to all nodes", func(l *impl.Lsa) { l.Links = allLinks(-1, 5) })
	add("links in the wrong order", func(l *impl.Lsa) { slices.Reverse(l.Links) })
	add("the last links in the wrong order", func(l *impl.Lsa) { l.Links[1], l.Links[2] = l.Links[2], l.Links[1] })
	add("the first links in the wrong order", func(l *impl.Lsa) { l.Links[0], l.Links[1] = l.Links[1], l.Links[0] })
	add("links with equal To", func(l *impl.Lsa) { l.Links[2].To = 3 })
	add("links with equal To and Cost", func(l *impl.Lsa) { l.Links[1] = l.Links[0] })
	add("equal To apart from each other", func(l *impl.Lsa) { l.Links[2].To = 0 })
	add("many equal links", func(l *impl.Lsa) { l.Links = slices.Repeat(l.Links[:1], 300) })
	add("stubs in the wrong order", func(l *impl.Lsa) { slices.Reverse(l.Stubs) })
	add("stubs in the wrong order of Len", func(l *impl.Lsa) { l.Stubs[1], l.Stubs[2] = l.Stubs[2], l.Stubs[1] })
	add("stubs in the order of Len and not of Net", func(l *impl.Lsa) { l.Stubs = []impl.Stub{stub(512, 8, 1), stub(256, 9, 1)} })
	add("stubs with equal Prefixes", func(l *impl.Lsa) { l.Stubs[1].Prefix = l.Stubs[0].Prefix })
	add("stubs with equal Prefixes and Costs", func(l *impl.Lsa) { l.Stubs[2] = l.Stubs[1] })
	add("one stub too many", func(l *impl.Lsa) {
		l.Stubs = append(manyStubs(6), stub(65535, 16, 1))
		l.Stubs[5] = stub(65534, 16, 1)
	})
	add("many equal stubs", func(l *impl.Lsa) { l.Stubs = slices.Repeat(l.Stubs[:1], 300) })
	add("many stubs", func(l *impl.Lsa) {
		l.Stubs = nil
		for net := range 300 {
			l.Stubs = append(l.Stubs, stub(net, 16, 1))
		}
	})
	return bad
}

// wordsOf writes the fields one by one, whether they are valid or not. Greater numbers are cut off.
func wordsOf(l impl.Lsa) []byte {
	var out bytes.Buffer
	put := func(values ...any) {
		for _, v := range values {
			binary.Write(&out, binary.BigEndian, v)
		}
	}
	var seq [4]byte
	binary.BigEndian.PutUint32(seq[:], uint32(l.Seq))
	put(uint8(l.Origin), seq[1:], uint8(len(l.Links)))
	for _, k := range l.Links {
		put(uint8(k.To), uint16(k.Cost))
	}
	put(uint8(len(l.Stubs)))
	for _, s := range l.Stubs {
		put(uint16(s.Prefix.Net), uint8(s.Prefix.Len), uint16(s.Cost))
	}
	return out.Bytes()
}

// checksum evaluates the polynomial and divides only once, at the end.
func checksum(words []byte) int {
	sum := big.NewInt(1)
	for _, x := range words {
		sum.Mul(sum, big.NewInt(257))
		sum.Add(sum, big.NewInt(int64(x)+1))
	}
	return int(sum.Mod(sum, big.NewInt(1000003)).Int64())
}

// withTail adds an age and a number in the place of the checksum.
func withTail(words []byte, age, sum int) []byte {
	return append(slices.Clone(words), byte(age), byte(sum>>16), byte(sum>>8), byte(sum))
}

func sealed(words []byte, age int) []byte {
	return withTail(words, age, checksum(words))
}

func checkTaken(t *testing.T, b []byte, want impl.Lsa) {
	t.Helper()
	if got, ok := impl.TakeLsa(b); !ok || !equalLsas(got, want) {
		t.Fatalf("TakeLsa(%v) is %v, %v and not %v", b, got, ok, want)
	}
}

func checkNotTaken(t *testing.T, why string, b []byte) {
	t.Helper()
	if got, ok := impl.TakeLsa(b); ok || !isZeroLsa(got) {
		t.Fatalf("%s: TakeLsa(%v) is %v, %v", why, b, got, ok)
	}
}

func TestLsaLimits(t *testing.T) {
	if impl.MaxSeq != 1000000 || impl.MaxAge != 60 || impl.MaxStubs != 6 {
		t.Errorf("the limits are %d, %d, %d", impl.MaxSeq, impl.MaxAge, impl.MaxStubs)
	}
}

func TestLsaOk(t *testing.T) {
	for _, l := range goodLsas() {
		if !impl.LsaOk(l) {
			t.Errorf("LsaOk(%v) is false", l)
		}
	}
	for _, bad := range badLsas() {
		if impl.LsaOk(bad.lsa) {
			t.Errorf("%s: LsaOk(%v) is true", bad.why, bad.lsa)
		}
	}
}

func TestLsaOkOfEveryNumber(t *testing.T) {
	for origin := -2; origin <= 12; origin++ {
		for to := -2; to <= 12; to++ {
			for _, cost := range []int{-1, 0, 1, 2, 999, 1000, 1001} {
				node, costOk := origin >= 0 && origin <= 9, cost >= 1 && cost <= 1000
				want := node && costOk && to >= 0 && to <= 9 && to != origin
				if impl.LsaOk(impl.Lsa{Origin: origin, Seq: 1, Links: []impl.Link{{To: to, Cost: cost}}}) != want {
					t.Errorf("LsaOk of a link from %d to %d with Cost %d is not %v", origin, to, cost, want)
				}
				if impl.LsaOk(impl.Lsa{Origin: origin, Seq: 1, Stubs: []impl.Stub{stub(0, 0, cost)}}) != (node && costOk) {
					t.Errorf("LsaOk of a stub of %d with Cost %d", origin, cost)
				}
			}
		}
	}
	for seq := -3; seq <= impl.MaxSeq+3; seq++ {
		if impl.LsaOk(impl.Lsa{Seq: seq}) != (seq >= 1 && seq <= 1000000) {
			t.Fatalf("LsaOk with Seq %d", seq)
		}
	}
	for age := -3; age <= 300; age++ {
		if impl.LsaOk(impl.Lsa{Seq: 1, Age: age}) != (age >= 0 && age <= 60) {
			t.Errorf("LsaOk with Age %d", age)
		}
	}
}

func TestLsaOkOfEveryOrder(t *testing.T) {
	stubs := []impl.Stub{stub(0, 0, 9), stub(0, 1, 8), stub(0, 16, 7), stub(256, 8, 6), stub(256, 9, 5), stub(1024, 6, 4)}
	links := allLinks(3, 11)[:6]
	for i := range 6 {
		for j := range 6 {
			for k := range 6 {
				order := i < j && j < k
				if impl.LsaOk(impl.Lsa{Origin: 3, Seq: 1, Links: []impl.Link{links[i], links[j], links[k]}}) != order {
					t.Errorf("LsaOk of the links %d, %d, %d", i, j, k)
				}
				if impl.LsaOk(impl.Lsa{Origin: 3, Seq: 1, Stubs: []impl.Stub{stubs[i], stubs[j], stubs[k]}}) != order {
					t.Errorf("LsaOk of the stubs %d, %d, %d", i, j, k)
				}
			}
		}
	}
}

func TestLsaOkOfManyStubs(t *testing.T) {
	var stubs []impl.Stub
	for n := range 20 {
		if impl.LsaOk(impl.Lsa{Seq: 1, Stubs: stubs}) != (n <= 6) {
			t.Errorf("LsaOk with %d stubs", n)
		}
		stubs = append(stubs, stub(n, 16, 1+n))
	}
}

func TestLsaBytesOfFew(t *testing.T) {
	cases := []struct {
		l     impl.Lsa
		words []byte
		sum   int
	}{
		{impl.Lsa{Seq: 1}, []byte{0, 0, 0, 1, 0, 0}, 201634},
		{impl.Lsa{Seq: 1, Age: 60, Links: []impl.Link{}, Stubs: []impl.Stub{}}, []byte{0, 0, 0, 1, 0, 0}, 201634},
		{impl.Lsa{Origin: 9, Seq: 1000000, Age: 17}, []byte{9, 15, 66, 64, 0, 0}, 308612},
		{impl.Lsa{Origin: 1, Seq: 3, Links: []impl.Link{{To: 2, Cost: 7}}, Stubs: []impl.Stub{stub(256, 8, 1)}},
			[]byte{1, 0, 0, 3, 1, 2, 0, 7, 1, 1, 0, 8, 0, 1}, 378200},
		{impl.Lsa{Origin: 9, Seq: 1000000, Links: allLinks(9, 1000), Stubs: manyStubs(6)},
			[]byte{9, 15, 66, 64, 9, 0, 3, 232, 1, 3, 232, 2, 3, 232, 3, 3, 232, 4, 3, 232, 5, 3, 232, 6, 3, 232, 7, 3, 232, 8, 3, 232,
				6, 0, 0, 0, 3, 232, 0, 0, 16, 3, 232, 18, 52, 16, 3, 231, 128, 0, 1, 0, 1, 255, 0, 8, 1, 0, 255, 255, 16, 3, 232}, 408247},
	}
	for _, c := range cases {
		if got := impl.LsaBytes(c.l); !bytes.Equal(got, c.words) {
			t.Errorf("LsaBytes(%v) is %v", c.l, got)
		}
		if got := impl.LsaSum(c.l); got != c.sum {
			t.Errorf("LsaSum(%v) is %d", c.l, got)
		}
		wire := withTail(c.words, c.l.Age, c.sum)
		if got := impl.PutLsa(c.l); !bytes.Equal(got, wire) {
			t.Errorf("PutLsa(%v) is %v", c.l, got)
		}
		checkTaken(t, wire, c.l)
	}
}

func TestLsaBytesAndBack(t *testing.T) {
	for _, l := range goodLsas() {
		words := wordsOf(l)
		if got := impl.LsaBytes(l); !bytes.Equal(got, words) {
			t.Fatalf("LsaBytes(%v) is %v and not %v", l, got, words)
		}
		if got := impl.LsaSum(l); got != checksum(words) {
			t.Fatalf("LsaSum(%v) is %d and not %d", l, got, checksum(words))
		}
		for age := range impl.MaxAge + 1 {
			l.Age = age
			wire := impl.PutLsa(l)
			if !bytes.Equal(wire, sealed(words, age)) {
				t.Fatalf("PutLsa(%v) is %v", l, wire)
			}
			checkTaken(t, wire, l)
			if !bytes.Equal(impl.LsaBytes(l), words) || impl.LsaSum(l) != checksum(words) {
				t.Fatalf("the Age of %v shows in LsaBytes or LsaSum", l)
			}
		}
	}
}

func TestLsaBytesRefuse(t *testing.T) {
	for _, bad := range badLsas() {
		if got := impl.LsaBytes(bad.lsa); len(got) != 0 {
			t.Errorf("%s: LsaBytes(%v) is %v", bad.why, bad.lsa, got)
		}
		if got := impl.PutLsa(bad.lsa); len(got) != 0 {
			t.Errorf("%s: PutLsa(%v) is %v", bad.why, bad.lsa, got)
		}
		if got := impl.LsaSum(bad.lsa); got != -1 {
			t.Errorf("%s: LsaSum(%v) is %d", bad.why, bad.lsa, got)
		}
	}
}

func TestTakeLsaOfTheWrongLength(t *testing.T) {
	for _, none := range [][]byte{nil, {}, {0}, {0, 0, 0, 1}, make([]byte, 9), make([]byte, 10), make([]byte, 1000), bytes.Repeat([]byte{1}, 100000)} {
		checkNotTaken(t, "hardly any advertisement", none)
	}
	for _, l := range goodLsas() {
		wire := impl.PutLsa(l)
		for n := range wire {
			checkNotTaken(t, "too short", wire[:n]) // the rest lies behind it, in its capacity
			checkNotTaken(t, "too short", slices.Clone(wire[:n]))
			checkNotTaken(t, "without the beginning", wire[n+1:])
		}
		for x := range 256 {
			checkNotTaken(t, "too long", append(slices.Clone(wire), byte(x)))
			checkNotTaken(t, "too long", append([]byte{byte(x)}, wire...))
		}
		checkNotTaken(t, "twice", slices.Concat(wire, wire))
	}
}

// TestTakeLsaOfOneWrongByte: the checksum tells every wrong byte but that of the Age.
func TestTakeLsaOfOneWrongByte(t *testing.T) {
	for _, l := range goodLsas()[:30] {
		wire := impl.PutLsa(l)
		for i, was := range wire {
			for x := range 256 {
				wire[i] = byte(x)
				if i == len(wire)-4 && x <= 60 {
					l.Age = x
					checkTaken(t, wire, l)
				} else if byte(x) != was {
					checkNotTaken(t, "a wrong byte", wire)
				}
			}
			wire[i] = was
		}
	}
}

func TestTakeLsaOfAWrongChecksum(t *testing.T) {
	for _, l := range goodLsas() {
		words := wordsOf(l)
		sum := checksum(words)
		for _, wrong := range []int{0, 1, sum + 1, sum - 1, sum + 256, sum ^ 1<<16, sum + 1000003, sum + 15*1000003, 1<<24 - 1} {
			if wrong != sum {
				checkNotTaken(t, "a wrong checksum", withTail(words, l.Age, wrong))
			}
		}
		if wire := impl.PutLsa(l); len(wire) > 0 && l.Age != 0 {
			checkNotTaken(t, "a checksum of the Age too", withTail(words, l.Age, checksum(wire[:len(words)+1])))
		}
	}
	zero := lsaWithSum(t, 0)
	if checksum(wordsOf(zero)) != 0 {
		t.Fatalf("LsaSum(%v) is 0", zero)
	}
	checkTaken(t, impl.PutLsa(zero), zero)
	checkNotTaken(t, "the modulus in the place of 0", withTail(wordsOf(zero), zero.Age, 1000003))
}

// lsaWithSum looks for an advertisement with a certain checksum.
func lsaWithSum(t *testing.T, sum int) impl.Lsa {
	for seq := 1; seq <= 20000; seq++ {
		for cost := range 1000 {
			l := impl.Lsa{Origin: 6, Seq: seq, Age: 5, Links: []impl.Link{{To: 1, Cost: 1 + cost}}}
			if impl.LsaSum(l) == sum {
				return l
			}
		}
	}
	t.Fatalf("no advertisement has the checksum %d", sum)
	return impl.Lsa{}
}

// TestTakeLsaOfWrongFields: the right checksum does not help if what was encoded is invalid.
func TestTakeLsaOfWrongFields(t *testing.T) {
	for _, bad := range badLsas() {
		l := bad.lsa
		wire := sealed(wordsOf(l), l.Age)
		// Where a number is cut off to its bytes, it may become a good one.
		if got, ok := impl.TakeLsa(wire); ok && (!impl.LsaOk(got) || equalLsas(got, l) || !bytes.Equal(impl.PutLsa(got), wire)) {
			t.Errorf("%s: TakeLsa of the encoding of %v is %v", bad.why, l, got)
		}
	}
	cases := []struct {
		why    string
		change func(l *impl.Lsa)
	}{
		{"Origin 10", func(l *impl.Lsa) { l.Origin = 10 }},
		{"Origin 255", func(l *impl.Lsa) { l.Origin = 255 }},
		{"Seq 0", func(l *impl.Lsa) { l.Seq = 0 }},
		{"Seq above its limit", func(l *impl.Lsa) { l.Seq = impl.MaxSeq + 1 }},
		{"the greatest Seq in three bytes", func(l *impl.Lsa) { l.Seq = 1<<24 - 1 }},
		{"Age 61", func(l *impl.Lsa) { l.Age = 61 }},
		{"Age 255", func(l *impl.Lsa) { l.Age = 255 }},
		{"To 10", func(l *impl.Lsa) { l.Links[2].To = 10 }},
		{"To 255", func(l *impl.Lsa) { l.Links[2].To = 255 }},
		{"the Origin as To", func(l *impl.Lsa) { l.Links[1].To = 4 }},
		{"equal To", func(l *impl.Lsa) { l.Links[1].To = 0 }},
		{"links in the wrong order", func(l *impl.Lsa) { slices.Reverse(l.Links) }},
		{"ten links", func(l *impl.Lsa) { l.Links = allLinks(-1, 1) }},
		{"255 links", func(l *impl.Lsa) { l.Links = slices.Repeat(l.Links[:1], 255) }},
		{"link Cost 0", func(l *impl.Lsa) { l.Links[0].Cost = 0 }},
		{"link Cost 1001", func(l *impl.Lsa) { l.Links[0].Cost = 1001 }},
		{"link Cost 65535", func(l *impl.Lsa) { l.Links[2].Cost = 65535 }},
		{"stub Cost 0", func(l *impl.Lsa) { l.Stubs[0].Cost = 0 }},
		{"stub Cost 1001", func(l *impl.Lsa) { l.Stubs[2].Cost = 1001 }},
		{"Len 17", func(l *impl.Lsa) { l.Stubs[2].Prefix.Len = 17 }},
		{"Len 255", func(l *impl.Lsa) { l.Stubs[2].Prefix.Len = 255 }},
		{"a Net that is no multiple", func(l *impl.Lsa) { l.Stubs[1].Prefix.Net = 1025 }},
		{"equal Prefixes", func(l *impl.Lsa) { l.Stubs[2].Prefix = l.Stubs[1].Prefix }},
		{"stubs in the wrong order", func(l *impl.Lsa) { slices.Reverse(l.Stubs) }},
		{"seven stubs", func(l *impl.Lsa) {
			l.Stubs = append(manyStubs(4), stub(65533, 16, 1), stub(65534, 16, 1), stub(65535, 16, 1))
		}},
		{"255 stubs", func(l *impl.Lsa) { l.Stubs = slices.Repeat(l.Stubs[:1], 255) }},
	}
	for _, c := range cases {
		l := changed(c.change)
		checkNotTaken(t, c.why, sealed(wordsOf(l), l.Age))
		checkNotTaken(t, c.why+", with the LsaSum -1", withTail(wordsOf(l), l.Age, -1))
	}
	l := ordinary()
	checkTaken(t, sealed(wordsOf(l), l.Age), l)
}

// TestTakeLsaOfWrongCounts: the right checksum does not help if the bytes do not end where the
// counts say.
func TestTakeLsaOfWrongCounts(t *testing.T) {
	for _, l := range goodLsas() {
		words := wordsOf(l)
		counts := []int{4, 5 + 3*len(l.Links)} // where they are
		for _, at := range counts {
			for x := range 256 {
				if byte(x) == words[at] {
					continue
				}
				other := slices.Clone(words)
				other[at] = byte(x)
				// By chance, the bytes may be those of another advertisement.
				wire := sealed(other, l.Age)
				if got, ok := impl.TakeLsa(wire); ok && !bytes.Equal(impl.PutLsa(got), wire) {
					t.Fatalf("TakeLsa(%v) is %v", wire, got)
				}
			}
		}
		sum := checksum(words)
		for n := range words {
			checkNotTaken(t, "too few bytes for the counts", sealed(words[:n], l.Age))
			checkNotTaken(t, "too few bytes, with the checksum of all", withTail(words[:n], l.Age, sum))
		}
		for _, more := range [][]byte{{0}, {1}, {0, 0, 0}, {9, 0, 1}, {255, 255, 16, 0, 1}, sealed(words, l.Age)} {
			checkNotTaken(t, "too many bytes for the counts", sealed(slices.Concat(words, more), l.Age))
			checkNotTaken(t, "too many bytes, with the checksum of the right ones", withTail(slices.Concat(words, more), l.Age, sum))
		}
	}
	cases := []struct {
		why   string
		words []byte
	}{
		{"a link that is not there", []byte{1, 0, 0, 3, 1, 0}},
		{"a link cut off", []byte{1, 0, 0, 3, 1, 2, 0}},
		{"no count of stubs", []byte{1, 0, 0, 3, 1, 2, 0, 7}},
		{"a stub that is not there", []byte{1, 0, 0, 3, 0, 1}},
		{"a stub cut off", []byte{1, 0, 0, 3, 0, 1, 1, 0, 8, 0}},
		{"more links than said", []byte{1, 0, 0, 3, 0, 2, 0, 7, 0}},
		{"more stubs than said", []byte{1, 0, 0, 3, 0, 0, 1, 0, 8, 0, 1}},
		{"a link that reaches into the count of stubs", []byte{1, 0, 0, 3, 2, 2, 0, 7, 3, 0}},
	}
	for _, c := range cases {
		checkNotTaken(t, c.why, sealed(c.words, 0))
		// With room behind it, which looks like the rest.
		wire := append(sealed(c.words, 0), 0, 1, 0, 1, 0, 1, 0, 0, 0, 0)
		checkNotTaken(t, c.why, wire[:len(c.words)+4])
	}
	checkTaken(t, sealed([]byte{1, 0, 0, 3, 1, 2, 0, 7, 0}, 0), impl.Lsa{Origin: 1, Seq: 3, Links: []impl.Link{{To: 2, Cost: 7}}})
	// The tail, of age 0 and sum 1, would pass for what is missing of the stub.
	checkNotTaken(t, "a stub within the tail", withTail([]byte{1, 0, 0, 3, 0, 1, 0}, 0, 1))
}

// TestTakeLsaAtRandom: what is taken encodes to what it was taken from.
func TestTakeLsaAtRandom(t *testing.T) {
	random := rand.New(rand.NewSource(51))
	taken := 0
	for range 200000 {
		words := []byte{byte(random.Intn(11)), 0, 0, byte(random.Intn(3))}
		for range 1 + random.Intn(8) {
			words = append(words, byte(random.Intn(3)))
		}
		wire := sealed(words, random.Intn(62))
		if got, ok := impl.TakeLsa(wire); ok {
			taken++
			if !impl.LsaOk(got) || !bytes.Equal(impl.PutLsa(got), wire) {
				t.Fatalf("TakeLsa(%v) is %v", wire, got)
			}
		} else if !isZeroLsa(got) {
			t.Fatalf("TakeLsa(%v) is %v and false", wire, got)
		}
	}
	if taken < 1000 {
		t.Errorf("only %d of the encodings were good", taken)
	}
}

// newer goes by the checksum and the conditions as they are listed.
func newer(a, b impl.Lsa) int {
	if a.Origin != b.Origin {
		return -2
	}
	sumA, sumB := checksum(wordsOf(a)), checksum(wordsOf(b))
	if a.Seq > b.Seq || a.Seq == b.Seq && sumA > sumB {
		return 1
	}
	if a.Seq < b.Seq || sumA < sumB {
		return -1
	}
	if a.Age == 60 && b.Age != 60 {
		return 1
	}
	if b.Age == 60 && a.Age != 60 {
		return -1
	}
	if a.Age+10 < b.Age {
		return 1
	}
	if b.Age+10 < a.Age {
		return -1
	}
	return 0
}

func checkNewer(t *testing.T, a, b impl.Lsa, want int) {
	t.Helper()
	if got, back := impl.Newer(a, b), impl.Newer(b, a); got != want || back != -want {
		t.Fatalf("Newer(%v, %v) is %d, and %d if exchanged, and not %d", a, b, got, back, want)
	}
}

// twins are advertisements of one Origin and Seq with different contents and equal checksums.
func twins(t *testing.T) [][2]impl.Lsa {
	random := rand.New(rand.NewSource(53))
	var found [][2]impl.Lsa
	seen := map[int]impl.Lsa{}
	for range 8000 {
		l := randomLsa(random, 0)
		l.Seq, l.Age = 12, 0
		sum := checksum(wordsOf(l))
		other, ok := seen[sum]
		if ok && !bytes.Equal(wordsOf(other), wordsOf(l)) {
			found = append(found, [2]impl.Lsa{other, l})
		}
		seen[sum] = l
	}
	if len(found) < 3 {
		t.Fatalf("only %d checksums occur twice", len(found))
	}
	return found
}

func TestNewerOfFew(t *testing.T) {
	at := func(seq, age int) impl.Lsa {
		return impl.Lsa{Origin: 3, Seq: seq, Age: age, Links: []impl.Link{{To: 1, Cost: 2}}}
	}
	cases := []struct {
		why  string
		a, b impl.Lsa
		want int
	}{
		{"the same", at(5, 0), at(5, 0), 0},
		{"a greater Seq", at(6, 0), at(5, 0), 1},
		{"a much greater Seq", at(impl.MaxSeq, 0), at(1, 0), 1},
		{"a greater Seq, but expired", at(6, 60), at(5, 0), 1},
		{"a greater Seq, the other expired", at(6, 0), at(5, 60), 1},
		{"a greater Seq, but much older", at(6, 59), at(5, 0), 1},
		{"a greater Seq and younger", at(6, 0), at(5, 59), 1},
		{"Ages that differ by 10", at(5, 0), at(5, 10), 0},
		{"Ages that differ by 11", at(5, 0), at(5, 11), 1},
		{"Ages that differ by 10, later", at(5, 49), at(5, 59), 0},
		{"Ages that differ by 11, later", at(5, 48), at(5, 59), 1},
		{"the greatest difference without an expired one", at(5, 0), at(5, 59), 1},
		{"expired, Ages that differ by 1", at(5, 60), at(5, 59), 1},
		{"expired, Ages that differ by 10", at(5, 60), at(5, 50), 1},
		{"expired, Ages that differ by 11", at(5, 60), at(5, 49), 1},
		{"expired, the greatest difference", at(5, 60), at(5, 0), 1},
		{"both expired", at(5, 60), at(5, 60), 0},
		{"the lowest Seq", at(1, 0), at(1, 0), 0},
		{"the greatest Seq", at(impl.MaxSeq, 3), at(impl.MaxSeq, 20), 1},
	}
	for _, c := range cases {
		t.Log(c.why)
		checkNewer(t, c.a, c.b, c.want)
	}
}

func TestNewerOfEveryAge(t *testing.T) {
	a, b := ordinary(), ordinary()
	for a.Age = range 61 {
		for b.Age = range 61 {
			checkNewer(t, a, b, newer(a, b))
		}
	}
}

// TestNewerBySum: for equal Seq the sum decides before the Ages do.
func TestNewerBySum(t *testing.T) {
	for _, l := range goodLsas() {
		other := cloneLsa(l)
		if len(other.Links) > 0 {
			other.Links[0].Cost = 1 + other.Links[0].Cost%1000
		} else {
			other.Links = allLinks(other.Origin, 1)[:1]
		}
		want := 1
		if checksum(wordsOf(l)) < checksum(wordsOf(other)) {
			want = -1
		}
		for _, ages := range [][2]int{{0, 0}, {0, 10}, {0, 11}, {11, 0}, {0, 59}, {59, 0}, {60, 0}, {0, 60}, {60, 59}, {59, 60}, {60, 60}} {
			l.Age, other.Age = ages[0], ages[1]
			checkNewer(t, l, other, want)
		}
	}
}

func TestNewerOfEqualSums(t *testing.T) {
	for _, pair := range twins(t) {
		a, b := pair[0], pair[1]
		if impl.LsaSum(a) != impl.LsaSum(b) || impl.SameWords(a, b) || bytes.Equal(impl.PutLsa(a), impl.PutLsa(b)) {
			t.Fatalf("%v and %v are no twins", a, b)
		}
		for a.Age = range 61 {
			for _, b.Age = range []int{0, 1, 10, 11, 30, 48, 49, 50, 59, 60} {
				checkNewer(t, a, b, newer(a, b))
			}
		}
		checkNewer(t, pair[0], pair[1], 0)
		checkTaken(t, impl.PutLsa(a), a)
		checkTaken(t, impl.PutLsa(b), b)
	}
}

func TestNewerOfMany(t *testing.T) {
	random := rand.New(rand.NewSource(52))
	list := goodLsas()
	for range 60 {
		l := randomLsa(random, 3)
		l.Seq = 1 + random.Intn(3)
		list = append(list, l)
	}
	for _, a := range list {
		for _, b := range list {
			if a.Origin == b.Origin {
				checkNewer(t, a, b, newer(a, b))
				checkOneIsNewer(t, a, b)
			} else if impl.Newer(a, b) != -2 {
				t.Fatalf("Newer(%v, %v) of different Origins is %d", a, b, impl.Newer(a, b))
			}
		}
	}
}

func checkOneIsNewer(t *testing.T, a, b impl.Lsa) {
	t.Helper()
	there, back := impl.Newer(a, b), impl.Newer(b, a)
	if (a.Seq != b.Seq || impl.LsaSum(a) != impl.LsaSum(b)) && (there*there != 1 || there+back != 0) {
		t.Fatalf("Newer(%v, %v) is %d, and %d if exchanged", a, b, there, back)
	}
}

func TestNewerRefuses(t *testing.T) {
	good := ordinary()
	for _, bad := range badLsas() {
		same := good
		same.Origin = bad.lsa.Origin
		for _, pair := range [][2]impl.Lsa{{bad.lsa, good}, {good, bad.lsa}, {bad.lsa, bad.lsa}, {bad.lsa, same}, {same, bad.lsa}} {
			if got := impl.Newer(pair[0], pair[1]); got != -2 {
				t.Errorf("%s: Newer(%v, %v) is %d", bad.why, pair[0], pair[1], got)
			}
		}
	}
	for a := range 10 {
		for b := range 10 {
			got := impl.Newer(impl.Lsa{Origin: a, Seq: 9}, impl.Lsa{Origin: b, Seq: 8})
			if a == b && got != 1 || a != b && got != -2 {
				t.Errorf("Newer of the Origins %d and %d is %d", a, b, got)
			}
		}
	}
}

func TestAgeLsa(t *testing.T) {
	for _, l := range goodLsas()[:20] {
		for age := range 61 {
			l.Age = age
			for by := range 61 {
				want := cloneLsa(l)
				want.Age = age + by
				if want.Age > 60 {
					want.Age = 60
				}
				if got, ok := impl.AgeLsa(l, by); !ok || !equalLsas(got, want) || !impl.LsaOk(got) {
					t.Fatalf("AgeLsa(%v, %d) is %v, %v", l, by, got, ok)
				}
			}
		}
	}
}

func TestAgeLsaRefuses(t *testing.T) {
	for _, l := range goodLsas() {
		for _, by := range []int{-1, 61, 62, -60, math.MinInt, math.MaxInt} {
			if got, ok := impl.AgeLsa(l, by); ok || !equalLsas(got, l) {
				t.Errorf("AgeLsa(%v, %d) is %v, %v", l, by, got, ok)
			}
		}
	}
	for _, bad := range badLsas() {
		for _, by := range []int{0, 1, 60, 61, -1} {
			if got, ok := impl.AgeLsa(bad.lsa, by); ok || !equalLsas(got, bad.lsa) {
				t.Errorf("%s: AgeLsa(%v, %d) is %v, %v", bad.why, bad.lsa, by, got, ok)
			}
		}
	}
}

func checkSameWords(t *testing.T, a, b impl.Lsa, want bool) {
	t.Helper()
	if impl.SameWords(a, b) != want || impl.SameWords(b, a) != want {
		t.Errorf("SameWords(%v, %v) is not %v", a, b, want)
	}
}

func TestSameWords(t *testing.T) {
	for _, l := range goodLsas() {
		checkSameWords(t, l, cloneLsa(l), true)
		for _, seq := range []int{1, l.Seq, impl.MaxSeq} {
			for _, age := range []int{0, 10, 60} {
				other := cloneLsa(l)
				other.Seq, other.Age = seq, age
				checkSameWords(t, l, other, true)
			}
		}
	}
	empty := impl.Lsa{Origin: 2, Seq: 1, Links: []impl.Link{}, Stubs: []impl.Stub{}}
	checkSameWords(t, impl.Lsa{Origin: 2, Seq: 1}, empty, true)
	checkSameWords(t, impl.Lsa{Origin: 3, Seq: 1}, empty, false)
	for _, pair := range twins(t) {
		checkSameWords(t, pair[0], pair[1], false)
	}
}

func TestSameWordsOfOthers(t *testing.T) {
	others := []func(l *impl.Lsa){
		func(l *impl.Lsa) { l.Origin = 5 },
		func(l *impl.Lsa) { l.Links[0].Cost++ },
		func(l *impl.Lsa) { l.Links[2].Cost-- },
		func(l *impl.Lsa) { l.Links[2].To++ },
		func(l *impl.Lsa) { l.Links = l.Links[:2] },
		func(l *impl.Lsa) { l.Links = l.Links[1:] },
		func(l *impl.Lsa) { l.Links = nil },
		func(l *impl.Lsa) { l.Links = append(l.Links, impl.Link{To: 9, Cost: 1}) },
		func(l *impl.Lsa) { l.Stubs[0].Cost++ },
		func(l *impl.Lsa) { l.Stubs[2].Cost++ },
		func(l *impl.Lsa) { l.Stubs[0].Prefix.Len = 2 },
		func(l *impl.Lsa) { l.Stubs[2].Prefix.Net++ },
		func(l *impl.Lsa) { l.Stubs = l.Stubs[:2] },
		func(l *impl.Lsa) { l.Stubs = l.Stubs[1:] },
		func(l *impl.Lsa) { l.Stubs = nil },
		func(l *impl.Lsa) { l.Stubs = append(l.Stubs, stub(65535, 16, 1)) },
	}
	for _, change := range others {
		other := changed(change)
		if !impl.LsaOk(other) {
			t.Errorf("%v is invalid", other)
		}
		checkSameWords(t, ordinary(), other, false)
	}
	list := goodLsas()
	for _, a := range list {
		for _, b := range list {
			same := a.Origin == b.Origin && slices.Equal(a.Links, b.Links) && slices.Equal(a.Stubs, b.Stubs)
			checkSameWords(t, a, b, same)
		}
	}
}

func TestSameWordsRefuses(t *testing.T) {
	for _, bad := range badLsas() {
		checkSameWords(t, bad.lsa, cloneLsa(bad.lsa), false)
		good := cloneLsa(bad.lsa)
		good.Seq, good.Age = 1, 0 // the same words, and valid if only one of these was wrong
		checkSameWords(t, bad.lsa, good, false)
		checkSameWords(t, bad.lsa, ordinary(), false)
	}
}

func TestNextLsa(t *testing.T) {
	list := goodLsas()
	for _, l := range list {
		for _, from := range list {
			if from.Origin != l.Origin && len(from.Links) > 0 {
				continue
			}
			want := impl.Lsa{Origin: l.Origin, Seq: l.Seq + 1, Links: from.Links, Stubs: from.Stubs}
			got, ok := impl.NextLsa(l, from.Links, from.Stubs)
			if l.Seq == impl.MaxSeq {
				if ok || !isZeroLsa(got) {
					t.Fatalf("NextLsa(%v) beyond the last Seq is %v, %v", l, got, ok)
				}
				continue
			}
			if !ok || !equalLsas(got, want) || !impl.LsaOk(got) {
				t.Fatalf("NextLsa(%v, %v, %v) is %v, %v", l, from.Links, from.Stubs, got, ok)
			}
			checkNewer(t, got, l, 1)
			expired, _ := impl.AgeLsa(l, 60)
			checkNewer(t, got, expired, 1)
		}
	}
}

func TestNextLsaToTheLastSeq(t *testing.T) {
	l := impl.Lsa{Origin: 8, Seq: impl.MaxSeq - 2, Age: 60}
	for range 2 {
		next, ok := impl.NextLsa(l, nil, nil)
		if !ok || next.Seq != l.Seq+1 || next.Age != 0 || next.Origin != 8 || !impl.SameWords(l, next) {
			t.Fatalf("NextLsa(%v) is %v, %v", l, next, ok)
		}
		checkNewer(t, next, l, 1)
		l = next
	}
	for _, age := range []int{0, 60} {
		l.Age = age
		if next, ok := impl.NextLsa(l, allLinks(8, 1), manyStubs(6)); ok || !isZeroLsa(next) {
			t.Errorf("NextLsa(%v) is %v, %v", l, next, ok)
		}
	}
}

func TestNextLsaRefuses(t *testing.T) {
	for _, bad := range badLsas() {
		if next, ok := impl.NextLsa(bad.lsa, nil, nil); ok || !isZeroLsa(next) {
			t.Errorf("%s: NextLsa(%v) is %v, %v", bad.why, bad.lsa, next, ok)
		}
		l := bad.lsa
		l.Origin, l.Seq, l.Age = 4, 1, 0
		if impl.LsaOk(l) { // only what stayed behind was wrong
			continue
		}
		for _, before := range []impl.Lsa{ordinary(), {Origin: 4, Seq: 1}, {Origin: 4, Seq: impl.MaxSeq - 1, Age: 60}} {
			if next, ok := impl.NextLsa(before, l.Links, l.Stubs); ok || !isZeroLsa(next) {
				t.Errorf("%s: NextLsa(%v, %v, %v) is %v, %v", bad.why, before, l.Links, l.Stubs, next, ok)
			}
		}
	}
	for origin := range 10 {
		for to := -1; to <= 10; to++ {
			_, ok := impl.NextLsa(impl.Lsa{Origin: origin, Seq: 1}, []impl.Link{{To: to, Cost: 1}}, nil)
			if ok != (to >= 0 && to <= 9 && to != origin) {
				t.Errorf("NextLsa of %d with a link to %d is %v", origin, to, ok)
			}
		}
	}
}

// roomyLsa holds an advertisement whose lists lie in the middle of arrays, so that a write beside
// them shows too.
type roomyLsa struct {
	lsa   impl.Lsa
	links []impl.Link
	stubs []impl.Stub
}

func roomy(l impl.Lsa) roomyLsa {
	r := roomyLsa{
		lsa:   l,
		links: slices.Repeat([]impl.Link{{To: 77, Cost: 77}}, len(l.Links)+6),
		stubs: slices.Repeat([]impl.Stub{stub(77, 77, 77)}, len(l.Stubs)+6),
	}
	copy(r.links[2:], l.Links)
	copy(r.stubs[2:], l.Stubs)
	r.lsa.Links = r.links[2 : 2+len(l.Links)]
	r.lsa.Stubs = r.stubs[2 : 2+len(l.Stubs)]
	return r
}

func (r roomyLsa) equal(s roomyLsa) bool {
	return slices.Equal(r.links, s.links) && slices.Equal(r.stubs, s.stubs)
}

// lsaResults are the results of all functions of chapter 5 that return slices, refused calls among
// them.
func lsaResults(l impl.Lsa) ([]impl.Lsa, [][]byte) {
	aged, _ := impl.AgeLsa(l, 5)
	same, _ := impl.AgeLsa(l, 0)
	stays, _ := impl.AgeLsa(l, -1)
	next, _ := impl.NextLsa(l, l.Links, l.Stubs)
	again, _ := impl.NextLsa(l, l.Links, l.Stubs)
	wire := impl.PutLsa(l)
	taken, _ := impl.TakeLsa(wire)
	return []impl.Lsa{aged, same, stays, next, again, taken}, [][]byte{wire, impl.PutLsa(l), impl.LsaBytes(l), impl.LsaBytes(l)}
}

func ownLsas(list []impl.Lsa) bool {
	for i, l := range list {
		fill(l.Links, impl.Link{To: -i, Cost: i})
		fill(l.Stubs, stub(-i, i, i))
	}
	for i, l := range list {
		if !filled(l.Links, impl.Link{To: -i, Cost: i}) || !filled(l.Stubs, stub(-i, i, i)) {
			return false
		}
	}
	return true
}

func ownBytes(list [][]byte) bool {
	for i, b := range list {
		fill(b, byte(200+i))
	}
	for i, b := range list {
		if !filled(b, byte(200+i)) {
			return false
		}
	}
	return true
}

func TestLsasAreNewMemory(t *testing.T) {
	list := goodLsas()
	for _, bad := range badLsas() {
		list = append(list, bad.lsa)
	}
	for _, l := range list {
		given, kept := roomy(l), roomy(l)
		lsas, encodings := lsaResults(given.lsa)
		impl.LsaOk(given.lsa)
		impl.LsaSum(given.lsa)
		impl.Newer(given.lsa, given.lsa)
		impl.SameWords(given.lsa, given.lsa)
		if !given.equal(kept) {
			t.Fatalf("the argument %v was changed", l)
		}
		if !ownLsas(lsas) || !ownBytes(encodings) {
			t.Fatalf("results for %v share memory with each other", l)
		}
		if !given.equal(kept) {
			t.Fatalf("a result shares memory with the argument %v", l)
		}
		again, _ := lsaResults(given.lsa)
		if impl.LsaOk(l) && (!equalLsas(again[1], l) || !equalLsas(again[5], l)) {
			t.Fatalf("a later result for %v shares memory with an earlier one", l)
		}
	}
}

// TestTakeLsaKeepsNothing: the bytes stay as they are, and what is done to them later does not show.
func TestTakeLsaKeepsNothing(t *testing.T) {
	for _, l := range goodLsas() {
		wire := impl.PutLsa(l)
		for _, n := range []int{len(wire), len(wire) - 1, len(wire) - 5} {
			array := bytes.Repeat([]byte{9}, len(wire)+8)
			copy(array[4:], wire)
			whole := slices.Clone(array)
			got, ok := impl.TakeLsa(array[4 : 4+n])
			if !bytes.Equal(array, whole) {
				t.Fatalf("TakeLsa(%v) changed its argument", wire[:n])
			}
			fill(array, 255)
			if ok != (n == len(wire)) || ok && !equalLsas(got, l) {
				t.Fatalf("TakeLsa(%v) is %v, %v", wire[:n], got, ok)
			}
		}
	}
}
