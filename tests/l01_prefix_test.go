package tests

import (
	"math"
	"math/rand"
	"slices"
	"strconv"
	"testing"

	"loop.example/g00681/impl"
)

const addrs = 65536

// addrSet marks the addresses that a list of prefixes contains, one by one.
type addrSet [addrs]bool

func setOf(list []impl.Prefix) *addrSet {
	set := new(addrSet)
	for _, p := range list {
		for i := range 1 << (16 - p.Len) {
			set[p.Net+i] = true
		}
	}
	return set
}

func (s *addrSet) count() int {
	n := 0
	for _, in := range s {
		if in {
			n++
		}
	}
	return n
}

// shortest returns the prefixes that lie in the set and whose parent does not, ascending by Net:
// it looks at every prefix, and has nothing in common with the way of the program.
func (s *addrSet) shortest() []impl.Prefix {
	full := make([][]bool, 17)
	full[16] = s[:]
	for l := 15; l >= 0; l-- {
		full[l] = make([]bool, 1<<l)
		for i := range full[l] {
			full[l][i] = full[l+1][2*i] && full[l+1][2*i+1]
		}
	}
	var out []impl.Prefix
	for l := range 17 {
		for i, in := range full[l] {
			if in && (l == 0 || !full[l-1][i/2]) {
				out = append(out, impl.Prefix{Net: i << (16 - l), Len: l})
			}
		}
	}
	slices.SortFunc(out, func(a, b impl.Prefix) int { return a.Net - b.Net })
	return out
}

func eachPrefix(visit func(p impl.Prefix)) {
	for l := range 17 {
		for i := range 1 << l {
			visit(impl.Prefix{Net: i << (16 - l), Len: l})
		}
	}
}

func badPrefixes() []impl.Prefix {
	return []impl.Prefix{
		{Net: 0, Len: -1}, {Net: 0, Len: 17}, {Net: 65536, Len: 17}, {Net: 0, Len: 64},
		{Net: -1, Len: 16}, {Net: 65536, Len: 16}, {Net: 65536, Len: 0}, {Net: -65536, Len: 0},
		{Net: 1, Len: 15}, {Net: 1, Len: 0}, {Net: 32768, Len: 0}, {Net: 128, Len: 8}, {Net: -256, Len: 8},
		{Net: math.MaxInt, Len: math.MaxInt}, {Net: math.MinInt, Len: math.MinInt},
		{Net: 0, Len: math.MaxInt}, {Net: 0, Len: math.MinInt},
		{Net: math.MaxInt, Len: 16}, {Net: math.MinInt, Len: 0},
	}
}

func repeated(p impl.Prefix, n int) []impl.Prefix {
	return slices.Repeat([]impl.Prefix{p}, n)
}

func TestPrefixLimits(t *testing.T) {
	if impl.MaxBits != 16 || impl.MaxList != 300 {
		t.Errorf("MaxBits is %d, MaxList is %d", impl.MaxBits, impl.MaxList)
	}
}

func TestPrefixOk(t *testing.T) {
	valid := map[impl.Prefix]bool{}
	eachPrefix(func(p impl.Prefix) { valid[p] = true })
	if len(valid) != 2*addrs-1 {
		t.Fatal("the test's own list of prefixes is wrong")
	}
	for l := -2; l <= 18; l++ {
		for net := -3; net <= addrs+3; net++ {
			p := impl.Prefix{Net: net, Len: l}
			if impl.PrefixOk(p) != valid[p] {
				t.Fatalf("PrefixOk(%v) is %v", p, !valid[p])
			}
		}
	}
	for _, p := range badPrefixes() {
		if impl.PrefixOk(p) {
			t.Errorf("PrefixOk(%v)", p)
		}
	}
}

func TestHasAddr(t *testing.T) {
	for _, p := range []impl.Prefix{{Net: 0, Len: 0}, {Net: 0, Len: 1}, {Net: 32768, Len: 1}, {Net: 2560, Len: 8}, {Net: 65280, Len: 8}, {Net: 6, Len: 15}, {Net: 0, Len: 16}, {Net: 7, Len: 16}, {Net: 65535, Len: 16}} {
		end := p.Net + 1<<(16-p.Len)
		for a := -3; a <= addrs+3; a++ {
			if impl.HasAddr(p, a) != (p.Net <= a && a < end) {
				t.Fatalf("HasAddr(%v, %d)", p, a)
			}
		}
		if impl.HasAddr(p, math.MinInt) || impl.HasAddr(p, math.MaxInt) {
			t.Errorf("HasAddr(%v) has an address beyond all", p)
		}
	}
	for _, p := range badPrefixes() {
		for _, a := range []int{math.MinInt, -256, -1, 0, 1, 128, 65535, 65536, math.MaxInt, p.Net} {
			if impl.HasAddr(p, a) {
				t.Errorf("HasAddr(%v, %d) of an invalid prefix", p, a)
			}
		}
	}
}

func TestCoversPrefix(t *testing.T) {
	var list []impl.Prefix
	eachPrefix(func(p impl.Prefix) {
		if p.Len < 5 || p.Net < 8 && p.Len > 12 || p.Net >= 65528 {
			list = append(list, p)
		}
	})
	for _, a := range list {
		for _, b := range list {
			want := a.Net <= b.Net && b.Net+1<<(16-b.Len) <= a.Net+1<<(16-a.Len)
			if impl.CoversPrefix(a, b) != want {
				t.Fatalf("CoversPrefix(%v, %v) is %v", a, b, !want)
			}
		}
	}
	for _, bad := range badPrefixes() {
		if impl.CoversPrefix(impl.Prefix{}, bad) || impl.CoversPrefix(bad, impl.Prefix{Net: 0, Len: 16}) || impl.CoversPrefix(bad, bad) {
			t.Errorf("CoversPrefix with %v", bad)
		}
	}
}

func TestPrefixTextAndParsePrefix(t *testing.T) {
	texts := map[string]impl.Prefix{"0.0/0": {Net: 0, Len: 0}, "128.0/1": {Net: 32768, Len: 1}, "10.0/8": {Net: 2560, Len: 8}, "1.4/14": {Net: 260, Len: 14}, "0.0/16": {Net: 0, Len: 16}, "255.255/16": {Net: 65535, Len: 16}}
	for text, p := range texts {
		if impl.PrefixText(p) != text {
			t.Errorf("PrefixText(%v) is %q, not %q", p, impl.PrefixText(p), text)
		}
	}
	eachPrefix(func(p impl.Prefix) {
		text := strconv.Itoa(p.Net/256) + "." + strconv.Itoa(p.Net%256) + "/" + strconv.Itoa(p.Len)
		if impl.PrefixText(p) != text {
			t.Fatalf("PrefixText(%v) is %q", p, impl.PrefixText(p))
		}
		if q, ok := impl.ParsePrefix(text); !ok || q != p {
			t.Fatalf("ParsePrefix(%q) is %v, %v", text, q, ok)
		}
	})
	for _, p := range badPrefixes() {
		if impl.PrefixText(p) != "" {
			t.Errorf("PrefixText(%v) is %q", p, impl.PrefixText(p))
		}
	}
}

func TestParsePrefixRefuses(t *testing.T) {
	bad := []string{
		"", ".", "/", "./", "0.0", "0/0", "0.0/", ".0/0", "0./0", "0.0.0/0", "0.0/0/0", "0.0.0.0/0", "0/0.0", "0,0/0",
		"10.0/08", "010.0/8", "10.00/8", "00.0/0", "0.0/00", "0.0/+0", "+0.0/0", "0.+0/0", "-0.0/0", "0.-0/0", "0.0/-0",
		" 0.0/0", "0.0/0 ", "0 .0/0", "0.0/0\n", "0.0/0\x00", "0x0.0/0", "0.0/0x8", "1_0.0/8", "0.0/1e0", "a.b/c", "٠.0/0",
		"10.1/8", "0.1/15", "128.0/0", "0.0/17", "0.0/-1", "-1.0/16", "0.-1/16", "256.0/16", "0.256/16", "1.-256/16",
		"9223372036854775807.0/16", "9223372036854775808.0/16", "72057594037927936.0/16", "0.18446744073709551616/16", "0.0/18446744073709551616",
	}
	for _, text := range bad {
		if p, ok := impl.ParsePrefix(text); ok || p != (impl.Prefix{}) {
			t.Errorf("ParsePrefix(%q) is %v, %v", text, p, ok)
		}
	}
}

func TestHalvesAndSiblingPartition(t *testing.T) {
	eachPrefix(func(p impl.Prefix) {
		low, high, ok := impl.Halves(p)
		if p.Len == 16 {
			if ok || low != (impl.Prefix{}) || high != (impl.Prefix{}) {
				t.Fatalf("Halves(%v) is %v, %v, %v", p, low, high, ok)
			}
			return
		}
		middle := p.Net + 1<<(15-p.Len)
		if !ok || low != (impl.Prefix{Net: p.Net, Len: p.Len + 1}) || high != (impl.Prefix{Net: middle, Len: p.Len + 1}) {
			t.Fatalf("Halves(%v) is %v, %v, %v", p, low, high, ok)
		}
		a, okA := impl.Sibling(low)
		b, okB := impl.Sibling(high)
		if !okA || !okB || a != high || b != low {
			t.Fatalf("Sibling of the halves of %v is %v, %v", p, a, b)
		}
	})
	if s, ok := impl.Sibling(impl.Prefix{}); ok || s != (impl.Prefix{}) {
		t.Error("all addresses have a sibling")
	}
	for _, p := range badPrefixes() {
		low, high, ok := impl.Halves(p)
		s, ok2 := impl.Sibling(p)
		if ok || ok2 || low != (impl.Prefix{}) || high != (impl.Prefix{}) || s != (impl.Prefix{}) {
			t.Errorf("halves or sibling of %v", p)
		}
	}
}

func checkAggregate(t *testing.T, list []impl.Prefix) {
	t.Helper()
	given := slices.Clone(list)
	got, ok := impl.Aggregate(list)
	count := impl.CountAddrs(list)
	set := setOf(given)
	if !slices.Equal(list, given) {
		t.Fatalf("Aggregate or CountAddrs changed its argument %v", given)
	}
	if !ok || !slices.Equal(got, set.shortest()) {
		t.Fatalf("Aggregate(%v) is %v, %v", list, got, ok)
	}
	if *setOf(got) != *set || count != set.count() {
		t.Fatalf("Aggregate(%v) or CountAddrs (%d) has other addresses", list, count)
	}
	for i, p := range got {
		for j, q := range got {
			if s, ok := impl.Sibling(p); i != j && (ok && s == q || impl.CoversPrefix(p, q)) {
				t.Fatalf("Aggregate(%v) has %v and %v", list, p, q)
			}
		}
	}
	if again, ok := impl.Aggregate(got); len(got) <= impl.MaxList && (!ok || !slices.Equal(again, got)) {
		t.Fatalf("the aggregate of an aggregate is %v", again)
	}
}

func TestAggregateOfFewPrefixes(t *testing.T) {
	lists := [][]impl.Prefix{
		nil,
		{},
		{{Net: 0, Len: 0}},
		{{Net: 0, Len: 0}, {Net: 0, Len: 0}},
		{{Net: 0, Len: 0}, {Net: 0, Len: 16}, {Net: 65535, Len: 16}, {Net: 2560, Len: 8}},
		{{Net: 0, Len: 16}, {Net: 0, Len: 0}},
		{{Net: 0, Len: 16}},
		{{Net: 65535, Len: 16}},
		{{Net: 65535, Len: 16}, {Net: 65535, Len: 16}, {Net: 65535, Len: 16}},
		{{Net: 65534, Len: 16}, {Net: 65535, Len: 16}},
		{{Net: 0, Len: 16}, {Net: 65535, Len: 16}},
		{{Net: 0, Len: 1}, {Net: 32768, Len: 1}},
		{{Net: 32768, Len: 1}, {Net: 0, Len: 1}, {Net: 32768, Len: 1}, {Net: 0, Len: 1}},
		{{Net: 1, Len: 16}, {Net: 2, Len: 16}},
		{{Net: 2, Len: 15}, {Net: 4, Len: 15}},
		{{Net: 4, Len: 14}, {Net: 3, Len: 16}, {Net: 2, Len: 16}, {Net: 1, Len: 16}, {Net: 0, Len: 16}},
		{{Net: 0, Len: 1}, {Net: 32768, Len: 2}, {Net: 49152, Len: 3}, {Net: 57344, Len: 4}, {Net: 61440, Len: 4}},
		{{Net: 2688, Len: 9}, {Net: 2560, Len: 9}, {Net: 2600, Len: 16}, {Net: 0, Len: 16}},
		{{Net: 2560, Len: 8}, {Net: 2600, Len: 16}, {Net: 2816, Len: 16}},
		{{Net: 2600, Len: 16}, {Net: 2560, Len: 8}, {Net: 2815, Len: 16}, {Net: 2816, Len: 8}},
	}
	for _, list := range lists {
		checkAggregate(t, list)
	}
	var cut []impl.Prefix
	for l := 1; l <= 16; l++ {
		cut = append(cut, impl.Prefix{Net: 0xFFFF << (16 - l + 1) & 0xFFFF, Len: l})
	}
	checkAggregate(t, cut)
	checkAggregate(t, append(cut, impl.Prefix{Net: 65535, Len: 16}))
}

func TestAggregateOfManyPrefixes(t *testing.T) {
	random := rand.New(rand.NewSource(1))
	for round := range 60 {
		from, room, shortest := 0, 16, 0
		if round%3 > 0 { // crowded, so that much is merged, covered and repeated
			room = 4 + random.Intn(5)
			from = random.Intn(1<<(16-room)) << room
			shortest = 16 - room + 2
		}
		list := make([]impl.Prefix, random.Intn(impl.MaxList+1))
		for i := range list {
			l := shortest + random.Intn(17-shortest)
			a := from + random.Intn(1<<room)
			list[i] = impl.Prefix{Net: a >> (16 - l) << (16 - l), Len: l}
		}
		if round%3 == 2 {
			list = slices.DeleteFunc(list, func(p impl.Prefix) bool { return p.Len < 16 })
		}
		checkAggregate(t, list)
	}
}

func TestAggregateAtTheLimit(t *testing.T) {
	var apart, row []impl.Prefix
	for i := range impl.MaxList {
		apart = append(apart, impl.Prefix{Net: 65535 - 2*i, Len: 16})
		row = append(row, impl.Prefix{Net: 1000 + i, Len: 16})
	}
	checkAggregate(t, apart)
	checkAggregate(t, row)
	checkAggregate(t, repeated(impl.Prefix{}, impl.MaxList))
	checkAggregate(t, repeated(impl.Prefix{Net: 9, Len: 16}, impl.MaxList))
	if got, _ := impl.Aggregate(apart); len(got) != impl.MaxList || impl.CountAddrs(apart) != impl.MaxList {
		t.Error("a full list of single addresses is not kept")
	}
}

func TestAggregateRefuses(t *testing.T) {
	bad := [][]impl.Prefix{repeated(impl.Prefix{}, impl.MaxList+1), repeated(impl.Prefix{Net: 1, Len: 16}, 2*impl.MaxList), repeated(impl.Prefix{Len: -1}, impl.MaxList+1)}
	for _, p := range badPrefixes() {
		bad = append(bad, []impl.Prefix{p}, []impl.Prefix{{}, p}, []impl.Prefix{p, {}}, append(repeated(impl.Prefix{}, impl.MaxList-1), p))
	}
	for _, list := range bad {
		if got, ok := impl.Aggregate(list); ok || len(got) != 0 {
			t.Errorf("Aggregate(%v) is %v, %v", list, got, ok)
		}
		if n := impl.CountAddrs(list); n != -1 {
			t.Errorf("CountAddrs(%v) is %d", list, n)
		}
	}
}

func TestAggregateIsNewMemory(t *testing.T) {
	list := []impl.Prefix{{Net: 4, Len: 16}, {Net: 8, Len: 16}}
	a, _ := impl.Aggregate(list)
	b, _ := impl.Aggregate(list)
	a[0], a[1] = impl.Prefix{}, impl.Prefix{}
	if want := []impl.Prefix{{Net: 4, Len: 16}, {Net: 8, Len: 16}}; !slices.Equal(list, want) || !slices.Equal(b, want) {
		t.Errorf("a result shares memory: %v, %v", list, b)
	}
}

func checkCover(t *testing.T, from, to int) {
	t.Helper()
	set := new(addrSet)
	for a := from; a <= to; a++ {
		set[a] = true
	}
	if got, ok := impl.Cover(from, to); !ok || !slices.Equal(got, set.shortest()) {
		t.Fatalf("Cover(%d, %d) is %v, %v", from, to, got, ok)
	}
}

func TestCover(t *testing.T) {
	ends := []int{0, 1, 2, 3, 5, 8, 255, 256, 2560, 32766, 32767, 32768, 32769, 49151, 65279, 65533, 65534, 65535}
	for i, from := range ends {
		for _, to := range ends[i:] {
			checkCover(t, from, to)
		}
	}
	if all, _ := impl.Cover(0, 65535); len(all) != 1 || all[0] != (impl.Prefix{}) {
		t.Errorf("Cover of all addresses is %v", all)
	}
	if most, _ := impl.Cover(1, 65534); len(most) != 30 {
		t.Errorf("Cover(1, 65534) has %d prefixes", len(most))
	}
	random := rand.New(rand.NewSource(2))
	for range 100 {
		from := random.Intn(addrs)
		checkCover(t, from, from+random.Intn(addrs-from))
	}
}

func TestCoverRefuses(t *testing.T) {
	bad := [][2]int{{5, 4}, {65535, 0}, {1, 0}, {-1, 0}, {-1, 65535}, {0, 65536}, {65535, 65536}, {-2, -1}, {65536, 65537}, {0, -1}, {65536, 0}, {math.MinInt, math.MaxInt}, {math.MaxInt, math.MinInt}, {0, math.MaxInt}, {math.MinInt, 0}}
	for _, r := range bad {
		if got, ok := impl.Cover(r[0], r[1]); ok || len(got) != 0 {
			t.Errorf("Cover(%d, %d) is %v, %v", r[0], r[1], got, ok)
		}
	}
}

func TestCommonPrefix(t *testing.T) {
	check := func(a, b int) {
		t.Helper()
		got, ok := impl.CommonPrefix(a, b)
		l := 16
		for a>>(16-l) != b>>(16-l) {
			l--
		}
		if want := (impl.Prefix{Net: a >> (16 - l) << (16 - l), Len: l}); !ok || got != want {
			t.Fatalf("CommonPrefix(%d, %d) is %v, %v", a, b, got, ok)
		}
	}
	ends := []int{0, 1, 2, 3, 4, 5, 6, 7, 8, 255, 256, 2560, 2815, 16383, 16384, 32767, 32768, 49152, 65534, 65535}
	for _, a := range ends {
		for _, b := range ends {
			check(a, b)
		}
	}
	random := rand.New(rand.NewSource(3))
	for range 2000 {
		a := random.Intn(addrs)
		check(a, a^random.Intn(1<<random.Intn(17)))
	}
	for _, bad := range []int{math.MinInt, -65536, -1, 65536, math.MaxInt} {
		for _, a := range []int{0, 65535, bad} {
			p, ok := impl.CommonPrefix(a, bad)
			q, ok2 := impl.CommonPrefix(bad, a)
			if ok || ok2 || p != (impl.Prefix{}) || q != (impl.Prefix{}) {
				t.Errorf("CommonPrefix of %d and %d", a, bad)
			}
		}
	}
}
