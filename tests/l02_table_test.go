package tests

import (
	"math"
	"math/rand"
	"slices"
	"strconv"
	"testing"

	"loop.example/g00681/impl"
)

func rt(net, length, hop int) impl.Route {
	return impl.Route{Prefix: impl.Prefix{Net: net, Len: length}, Hop: hop}
}

// tableOf sorts the routes by a way of its own.
func tableOf(routes ...impl.Route) impl.Table {
	sorted := slices.Clone(routes)
	slices.SortFunc(sorted, func(a, b impl.Route) int {
		return a.Prefix.Net*100 + a.Prefix.Len - b.Prefix.Net*100 - b.Prefix.Len
	})
	return impl.Table{Routes: sorted}
}

func equalTables(a, b impl.Table) bool {
	return slices.Equal(a.Routes, b.Routes)
}

// hopMap holds the hop of every address.
type hopMap [addrs]int

// paint lays the routes over each other, the longer ones over the shorter ones.
func paint(t impl.Table) *hopMap {
	hops := new(hopMap)
	for a := range hops {
		hops[a] = -1
	}
	for l := range 17 {
		for _, r := range t.Routes {
			if r.Prefix.Len == l {
				for i := range 1 << (16 - l) {
					hops[r.Prefix.Net+i] = r.Hop
				}
			}
		}
	}
	return hops
}

// lookUp asks FindHop for every address.
func lookUp(t impl.Table) *hopMap {
	hops := new(hopMap)
	for a := range hops {
		hops[a] = impl.FindHop(t, a)
	}
	return hops
}

// chain has a route of every length for the same Net, and so they lie in each other.
func chain(net int) impl.Table {
	var routes []impl.Route
	for l := range 17 {
		if net%(1<<(16-l)) == 0 {
			routes = append(routes, rt(net, l, 100+l))
		}
	}
	return tableOf(routes...)
}

// rowOf has n routes of single addresses that do not touch.
func rowOf(n int) impl.Table {
	var routes []impl.Route
	for i := range n {
		routes = append(routes, rt(2*i+1, 16, i))
	}
	return tableOf(routes...)
}

func goodTables() []impl.Table {
	return []impl.Table{
		{},
		{Routes: []impl.Route{}},
		tableOf(rt(0, 0, 0)),
		tableOf(rt(0, 0, 999)),
		tableOf(rt(0, 16, 5)),
		tableOf(rt(65535, 16, 5)),
		tableOf(rt(0, 0, 7), rt(0, 16, 8), rt(65535, 16, 9)),
		tableOf(rt(0, 1, 1), rt(32768, 1, 2)),
		tableOf(rt(2560, 8, 3), rt(2560, 9, 4), rt(2560, 16, 0), rt(2688, 9, 3), rt(0, 0, 1)),
		tableOf(rt(2560, 8, 3), rt(2561, 16, 3), rt(2815, 16, 4), rt(2816, 16, 3)),
		tableOf(rt(0, 0, 1), rt(0, 1, 1), rt(0, 2, 1), rt(0, 16, 1)),
		chain(0),
		chain(2560),
		chain(32768),
		chain(65535),
		rowOf(1),
		rowOf(impl.MaxRoutes - 1),
		rowOf(impl.MaxRoutes),
		randomTable(rand.New(rand.NewSource(10)), impl.MaxRoutes, 16, 5),
		randomTable(rand.New(rand.NewSource(11)), 100, 8, 2),
	}
}

// randomTable has up to n routes, all but some short ones within a range of 2^room addresses.
func randomTable(random *rand.Rand, n, room, hops int) impl.Table {
	from := random.Intn(1<<(16-room)) << room
	taken := map[impl.Prefix]bool{}
	var routes []impl.Route
	for range n {
		l := 16 - random.Intn(room+1)
		if random.Intn(20) == 0 {
			l = random.Intn(17)
		}
		a := from + random.Intn(1<<room)
		r := rt(a>>(16-l)<<(16-l), l, random.Intn(hops))
		if !taken[r.Prefix] {
			taken[r.Prefix] = true
			routes = append(routes, r)
		}
	}
	return tableOf(routes...)
}

func badTables() []impl.Table {
	bad := []impl.Table{
		rowOf(impl.MaxRoutes + 1),
		rowOf(2 * impl.MaxRoutes),
		{Routes: []impl.Route{rt(2560, 8, 3), rt(0, 0, 1)}},                     // by Net
		{Routes: []impl.Route{rt(0, 0, 1), rt(512, 16, 1), rt(256, 16, 1)}},     // by Net
		{Routes: []impl.Route{rt(0, 16, 1), rt(0, 0, 1)}},                       // by Len
		{Routes: []impl.Route{rt(2560, 8, 3), rt(2560, 10, 3), rt(2560, 9, 3)}}, // by Len
		{Routes: []impl.Route{rt(0, 1, 1), rt(32768, 1, 1), rt(0, 0, 1)}},       // by Net, though ascending by Len elsewhere
		{Routes: []impl.Route{rt(0, 0, 1), rt(32768, 1, 1), rt(0, 2, 1)}},       // by Len, but not by Net
		{Routes: []impl.Route{rt(0, 0, 1), rt(0, 0, 1)}},
		{Routes: []impl.Route{rt(0, 0, 1), rt(0, 0, 2)}},
		{Routes: []impl.Route{rt(0, 0, 1), rt(5, 16, 1), rt(5, 16, 1)}},
		{Routes: []impl.Route{{}, {}}},
	}
	for _, r := range badRoutes() {
		bad = append(bad, impl.Table{Routes: []impl.Route{r}}, tableOf(rt(0, 0, 1), r), tableOf(r, rt(65535, 16, 1)))
	}
	return bad
}

func badRoutes() []impl.Route {
	bad := []impl.Route{rt(2560, 8, -1), rt(2560, 8, 1000), rt(0, 0, 1000), rt(65535, 16, -1), rt(7, 16, math.MinInt), rt(7, 16, math.MaxInt)}
	for _, p := range badPrefixes() {
		bad = append(bad, impl.Route{Prefix: p, Hop: 1})
	}
	return bad
}

func badAddrs() []int {
	return []int{math.MinInt, -65536, -2, -1, 65536, 65537, 131072, math.MaxInt}
}

func TestTableLimits(t *testing.T) {
	if impl.MaxRoutes != 120 || impl.MaxHop != 999 {
		t.Errorf("MaxRoutes is %d, MaxHop is %d", impl.MaxRoutes, impl.MaxHop)
	}
}

func TestTableOk(t *testing.T) {
	for _, table := range goodTables() {
		if !impl.TableOk(table) {
			t.Errorf("TableOk(%v) is false", table)
		}
	}
	for _, table := range badTables() {
		if impl.TableOk(table) {
			t.Errorf("TableOk(%v) is true", table)
		}
	}
	full := rowOf(impl.MaxRoutes)
	for i, r := range full.Routes {
		for _, bad := range []impl.Route{{Prefix: r.Prefix, Hop: -1}, {Prefix: r.Prefix, Hop: 1000}, {Prefix: impl.Prefix{Net: r.Prefix.Net, Len: 15}}} {
			full.Routes[i] = bad
			if impl.TableOk(full) {
				t.Errorf("TableOk with %v as route %d", bad, i)
			}
		}
		full.Routes[i] = r
	}
}

func TestTableOkOfEveryOrder(t *testing.T) {
	routes := []impl.Route{rt(0, 0, 1), rt(0, 1, 1), rt(0, 16, 1), rt(1, 16, 1), rt(32768, 1, 1), rt(32768, 16, 1), rt(65535, 16, 1)}
	for i, a := range routes {
		for j, b := range routes {
			for k, c := range routes {
				if impl.TableOk(impl.Table{Routes: []impl.Route{a, b, c}}) != (i < j && j < k) {
					t.Errorf("TableOk of the routes %d, %d, %d", i, j, k)
				}
			}
		}
	}
}

func TestPutRouteAtEveryPlace(t *testing.T) {
	for _, table := range goodTables() {
		if len(table.Routes) == 0 {
			continue
		}
		for i, r := range table.Routes {
			rest := impl.Table{Routes: slices.Delete(slices.Clone(table.Routes), i, i+1)}
			if got, ok := impl.PutRoute(rest, r); !ok || !equalTables(got, table) {
				t.Errorf("PutRoute(%v, %v) is %v, %v", rest, r, got, ok)
			}
			other := slices.Clone(table.Routes)
			other[i].Hop = 321
			if got, ok := impl.PutRoute(table, other[i]); !ok || !slices.Equal(got.Routes, other) {
				t.Errorf("PutRoute(%v, %v) is %v, %v", table, other[i], got, ok)
			}
			if got, ok := impl.PutRoute(table, r); !ok || !equalTables(got, table) {
				t.Errorf("PutRoute(%v, %v) again is %v, %v", table, r, got, ok)
			}
			if got, ok := impl.DropRoute(table, r.Prefix); !ok || !equalTables(got, rest) {
				t.Errorf("DropRoute(%v, %v) is %v, %v", table, r.Prefix, got, ok)
			}
			if got, ok := impl.DropRoute(rest, r.Prefix); ok || !equalTables(got, rest) {
				t.Errorf("DropRoute(%v, %v) of no route is %v, %v", rest, r.Prefix, got, ok)
			}
		}
	}
}

func TestPutAndDropOneNet(t *testing.T) {
	table := impl.Table{}
	for _, l := range []int{12, 16, 8, 15, 9, 14, 10, 13, 11} {
		table, _ = impl.PutRoute(table, rt(2560, l, l))
	}
	want := "10.0/8 8\n10.0/9 9\n10.0/10 10\n10.0/11 11\n10.0/12 12\n10.0/13 13\n10.0/14 14\n10.0/15 15\n10.0/16 16\n"
	if text := impl.TableText(table); text != want {
		t.Errorf("the table is %q", text)
	}
	for _, no := range []impl.Prefix{{Net: 2560, Len: 7}, {Net: 2048, Len: 7}, {Net: 0, Len: 8}, {Net: 2816, Len: 8}, {Net: 2561, Len: 16}, {Net: 2688, Len: 9}} {
		if got, ok := impl.DropRoute(table, no); ok || !equalTables(got, table) {
			t.Errorf("DropRoute of %v is %v, %v", no, got, ok)
		}
	}
	table, _ = impl.DropRoute(table, impl.Prefix{Net: 2560, Len: 12})
	table, _ = impl.DropRoute(table, impl.Prefix{Net: 2560, Len: 16})
	table, _ = impl.DropRoute(table, impl.Prefix{Net: 2560, Len: 8})
	want = "10.0/9 9\n10.0/10 10\n10.0/11 11\n10.0/13 13\n10.0/14 14\n10.0/15 15\n"
	if text := impl.TableText(table); text != want {
		t.Errorf("the table is %q", text)
	}
}

func TestPutAndDropAtRandom(t *testing.T) {
	random := rand.New(rand.NewSource(12))
	table, model := impl.Table{}, map[impl.Prefix]int{}
	for step := range 4000 {
		l := 6 + random.Intn(11)
		p := impl.Prefix{Net: random.Intn(4096) >> (16 - l) << (16 - l), Len: l}
		_, has := model[p]
		var ok, want bool
		if step/500%2 == 0 || random.Intn(3) == 0 {
			hop := random.Intn(4)
			table, ok = impl.PutRoute(table, impl.Route{Prefix: p, Hop: hop})
			if want = has || len(model) < impl.MaxRoutes; want {
				model[p] = hop
			}
		} else {
			if len(table.Routes) > 0 {
				p = table.Routes[random.Intn(len(table.Routes))].Prefix
				has = true
			}
			table, ok = impl.DropRoute(table, p)
			want = has
			delete(model, p)
		}
		var routes []impl.Route
		for q, hop := range model {
			routes = append(routes, impl.Route{Prefix: q, Hop: hop})
		}
		if ok != want || !equalTables(table, tableOf(routes...)) {
			t.Fatalf("step %d at %v gives %v, %v", step, p, table, ok)
		}
	}
}

func TestPutRouteAtTheLimit(t *testing.T) {
	most := rowOf(impl.MaxRoutes - 1)
	full, ok := impl.PutRoute(most, rt(0, 0, 5))
	if !ok || len(full.Routes) != impl.MaxRoutes || full.Routes[0] != rt(0, 0, 5) {
		t.Fatalf("the last place is not given away: %v, %v", full, ok)
	}
	for _, r := range []impl.Route{rt(0, 1, 5), rt(1, 16, 5), rt(60000, 16, 5)} {
		got, ok := impl.PutRoute(full, r)
		if found := r.Prefix.Net == 1; ok != found || !found && !equalTables(got, full) {
			t.Errorf("PutRoute(%v) into a full table is %v, %v", r, got, ok)
		}
	}
	rest, ok := impl.DropRoute(full, impl.Prefix{})
	if !ok || !equalTables(rest, most) {
		t.Errorf("DropRoute of a full table is %v, %v", rest, ok)
	}
}

func TestPutRouteRefuses(t *testing.T) {
	for _, table := range goodTables() {
		for _, r := range badRoutes() {
			if got, ok := impl.PutRoute(table, r); ok || !equalTables(got, table) {
				t.Errorf("PutRoute(%v, %v) is %v, %v", table, r, got, ok)
			}
			if got, ok := impl.DropRoute(table, r.Prefix); r.Hop == 1 && (ok || !equalTables(got, table)) {
				t.Errorf("DropRoute(%v, %v) is %v, %v", table, r.Prefix, got, ok)
			}
		}
	}
	for _, table := range badTables() {
		routes := append([]impl.Route{rt(4096, 8, 1)}, table.Routes...)
		for _, r := range routes {
			if got, ok := impl.PutRoute(table, r); ok || !equalTables(got, table) {
				t.Errorf("PutRoute(%v, %v) is %v, %v", table, r, got, ok)
			}
			if got, ok := impl.DropRoute(table, r.Prefix); ok || !equalTables(got, table) {
				t.Errorf("DropRoute(%v, %v) is %v, %v", table, r.Prefix, got, ok)
			}
		}
	}
}

func TestPutRouteDoesNotRepair(t *testing.T) {
	// Replacing the invalid route, or dropping it, would leave a valid table.
	for _, table := range []impl.Table{tableOf(rt(0, 0, 1000)), tableOf(rt(0, 0, 1), rt(5, 16, -1))} {
		last := table.Routes[len(table.Routes)-1].Prefix
		put, ok := impl.PutRoute(table, impl.Route{Prefix: last, Hop: 1})
		drop, ok2 := impl.DropRoute(table, last)
		if ok || ok2 || !equalTables(put, table) || !equalTables(drop, table) {
			t.Errorf("%v becomes %v, %v or %v, %v", table, put, ok, drop, ok2)
		}
	}
}

func TestFindHopAtEveryAddress(t *testing.T) {
	for _, table := range goodTables() {
		want := paint(table)
		if *lookUp(table) != *want {
			t.Errorf("FindHop of %v is wrong", table)
		}
		for a, hop := range want {
			r, ok := impl.BestRoute(table, a)
			inside := a >= r.Prefix.Net && a < r.Prefix.Net+1<<(16-r.Prefix.Len)
			if ok != (hop != -1) || !ok && r != (impl.Route{}) || ok && (r.Hop != hop || !inside || !slices.Contains(table.Routes, r)) {
				t.Fatalf("BestRoute(%v, %d) is %v, %v", table, a, r, ok)
			}
			for _, q := range table.Routes {
				if q.Prefix.Len > r.Prefix.Len && a >= q.Prefix.Net && a < q.Prefix.Net+1<<(16-q.Prefix.Len) {
					t.Fatalf("BestRoute(%v, %d) is %v, not %v", table, a, r, q)
				}
			}
		}
	}
}

func TestBestRouteOfOneNet(t *testing.T) {
	table := chain(0)
	for l := range 17 {
		a := 1<<(16-l) - 1 // the last address of 0.0/l, and of no longer prefix of that Net
		r, ok := impl.BestRoute(table, a)
		if !ok || r != rt(0, l, 100+l) || impl.FindHop(table, a) != 100+l {
			t.Errorf("BestRoute at %d is %v, %v", a, r, ok)
		}
	}
}

func TestFindHopRefuses(t *testing.T) {
	none := func(table impl.Table, a int) {
		t.Helper()
		r, ok := impl.BestRoute(table, a)
		if hop := impl.FindHop(table, a); hop != -1 || ok || r != (impl.Route{}) {
			t.Errorf("at %d of %v: FindHop is %d, BestRoute is %v, %v", a, table, hop, r, ok)
		}
	}
	for _, table := range goodTables() {
		for _, a := range badAddrs() {
			none(table, a)
		}
	}
	for _, table := range badTables() {
		for _, a := range append(badAddrs(), 0, 1, 5, 2560, 2561, 32768, 65535) {
			none(table, a)
		}
	}
	for _, a := range []int{0, 1, 32768, 65535} {
		none(impl.Table{}, a)
		none(tableOf(rt(2560, 8, 0)), a)
	}
}

func checkPutOnlyInside(t *testing.T, table impl.Table, r impl.Route) {
	t.Helper()
	before := lookUp(table)
	put, ok := impl.PutRoute(table, r)
	if !ok {
		t.Fatalf("PutRoute(%v, %v) fails", table, r)
	}
	after := lookUp(put)
	end := r.Prefix.Net + 1<<(16-r.Prefix.Len)
	for a := range addrs {
		inside := a >= r.Prefix.Net && a < end
		best, _ := impl.BestRoute(table, a)
		if (!inside || best.Prefix.Len > r.Prefix.Len) && after[a] != before[a] {
			t.Fatalf("PutRoute(%v, %v) changes FindHop at %d from %d to %d", table, r, a, before[a], after[a])
		}
		if inside && best.Prefix.Len <= r.Prefix.Len && after[a] != r.Hop {
			t.Fatalf("after PutRoute(%v, %v) FindHop at %d is %d", table, r, a, after[a])
		}
	}
}

func TestPutRouteChangesOnlyItsAddresses(t *testing.T) {
	crowded := tableOf(rt(0, 0, 1), rt(2560, 8, 3), rt(2560, 9, 4), rt(2560, 16, 0), rt(2688, 9, 3), rt(2815, 16, 5), rt(2816, 8, 6))
	for _, table := range []impl.Table{{}, crowded, chain(2560)} {
		for _, r := range []impl.Route{rt(0, 0, 50), rt(2560, 8, 50), rt(2560, 10, 50), rt(2688, 9, 50), rt(2560, 16, 50), rt(2815, 16, 50), rt(32768, 1, 50), rt(0, 16, 0), rt(65535, 16, 50)} {
			checkPutOnlyInside(t, table, r)
		}
	}
	random := rand.New(rand.NewSource(13))
	for range 10 {
		table := randomTable(random, 110, 4+random.Intn(13), 4)
		r := randomTable(random, 1, 16, 4).Routes[0]
		checkPutOnlyInside(t, table, r)
		r.Prefix = table.Routes[random.Intn(len(table.Routes))].Prefix
		checkPutOnlyInside(t, table, r)
	}
}

func checkSame(t *testing.T, a, b impl.Table) {
	t.Helper()
	want := *paint(a) == *paint(b)
	if impl.SameTable(a, b) != want || impl.SameTable(b, a) != want {
		t.Fatalf("SameTable(%v, %v) is not %v", a, b, want)
	}
}

func TestSameTable(t *testing.T) {
	tables := append(goodTables(),
		tableOf(rt(0, 1, 7), rt(32768, 1, 7)),
		tableOf(rt(0, 0, 7)),
		tableOf(rt(0, 0, 3), rt(0, 1, 7), rt(32768, 1, 7)),
		tableOf(rt(0, 0, 7), rt(0, 1, 8)),
		tableOf(rt(0, 0, 7), rt(32768, 1, 8)),
		tableOf(rt(0, 0, 7), rt(0, 16, 8)),
		tableOf(rt(0, 0, 7), rt(65535, 16, 8)),
		tableOf(rt(0, 0, 7), rt(65535, 16, 0)),
		tableOf(rt(1, 16, 7)),
		tableOf(rt(1, 16, 0)),
		tableOf(rt(2560, 8, 1), rt(2816, 8, 2)),
		tableOf(rt(2560, 8, 1), rt(2816, 8, 1)),
		tableOf(rt(2560, 7, 1)),
		tableOf(rt(0, 1, 4)),
		tableOf(rt(0, 1, 4), rt(32768, 1, 0)),
	)
	for _, a := range tables {
		for _, b := range tables {
			checkSame(t, a, b)
		}
	}
	if !impl.SameTable(impl.Table{}, impl.Table{Routes: []impl.Route{}}) {
		t.Error("two empty tables are not the same")
	}
}

func TestSameTableAfterOneRoute(t *testing.T) {
	random := rand.New(rand.NewSource(14))
	for range 150 {
		a := randomTable(random, 60, 3+random.Intn(6), 2)
		i := random.Intn(len(a.Routes))
		checkSame(t, a, impl.Table{Routes: slices.Delete(slices.Clone(a.Routes), i, i+1)})
		b := impl.Table{Routes: slices.Clone(a.Routes)}
		b.Routes[i].Hop = random.Intn(2)
		checkSame(t, a, b)
	}
}

func TestSameTableRefuses(t *testing.T) {
	for _, bad := range badTables() {
		for _, table := range append(goodTables(), bad) {
			if impl.SameTable(bad, table) || impl.SameTable(table, bad) {
				t.Errorf("SameTable(%v, %v)", bad, table)
			}
		}
	}
}

// points returns addresses such that the hops of a table and of all parts of it are constant from
// each to the next.
func points(t impl.Table) []int {
	at := []int{0}
	for _, r := range t.Routes {
		at = append(at, r.Prefix.Net)
		if end := r.Prefix.Net + 1<<(16-r.Prefix.Len); end < addrs {
			at = append(at, end)
		}
	}
	slices.Sort(at)
	return slices.Compact(at)
}

func hopsAt(routes []impl.Route, at []int) []int {
	hops := make([]int, len(at))
	for i, a := range at {
		hops[i] = -1
		best := -1
		for _, r := range routes {
			if r.Prefix.Len > best && r.Prefix.Net <= a && a < r.Prefix.Net+1<<(16-r.Prefix.Len) {
				best, hops[i] = r.Prefix.Len, r.Hop
			}
		}
	}
	return hops
}

// squeezed follows the words of the document: it tries every route, and looks everywhere.
func squeezed(t impl.Table) impl.Table {
	at := points(t)
	want := hopsAt(t.Routes, at)
	routes := slices.Clone(t.Routes)
	for {
		pick := -1
		for i, r := range routes {
			better := pick < 0 || r.Prefix.Len > routes[pick].Prefix.Len // routes ascend by Net
			if better && slices.Equal(hopsAt(slices.Delete(slices.Clone(routes), i, i+1), at), want) {
				pick = i
			}
		}
		if pick < 0 {
			return impl.Table{Routes: routes}
		}
		routes = slices.Delete(routes, pick, pick+1)
	}
}

func checkSqueeze(t *testing.T, table impl.Table) impl.Table {
	t.Helper()
	given := slices.Clone(table.Routes)
	got, ok := impl.Squeeze(table)
	if !slices.Equal(table.Routes, given) {
		t.Fatalf("Squeeze changed its argument %v", given)
	}
	if want := squeezed(table); !ok || !equalTables(got, want) {
		t.Fatalf("Squeeze(%v) is %v, %v and not %v", table, got, ok, want)
	}
	if !impl.TableOk(got) || *paint(got) != *paint(table) || !impl.SameTable(got, table) {
		t.Fatalf("Squeeze(%v) is %v with other lookups", table, got)
	}
	for _, r := range got.Routes {
		less, _ := impl.DropRoute(got, r.Prefix)
		if *paint(less) == *paint(got) || impl.SameTable(less, got) {
			t.Fatalf("Squeeze(%v) leaves %v, which is redundant", table, r)
		}
	}
	if again, ok := impl.Squeeze(got); !ok || !equalTables(again, got) {
		t.Fatalf("Squeeze of the squeezed %v is %v", got, again)
	}
	return got
}

func TestSqueezeOfFewRoutes(t *testing.T) {
	cases := []struct {
		why   string
		table impl.Table
		want  impl.Table
	}{
		{"nothing to remove", impl.Table{}, impl.Table{}},
		{"one route is never redundant", tableOf(rt(0, 0, 0)), tableOf(rt(0, 0, 0))},
		{"one route of one address", tableOf(rt(9, 16, 0)), tableOf(rt(9, 16, 0))},
		{"the same hop as around it", tableOf(rt(0, 0, 7), rt(0, 16, 7), rt(65535, 16, 7)), tableOf(rt(0, 0, 7))},
		{"another hop than around it", tableOf(rt(0, 0, 7), rt(0, 16, 8)), tableOf(rt(0, 0, 7), rt(0, 16, 8))},
		{"hop 0 is not the same as no route", tableOf(rt(2560, 8, 0), rt(0, 1, 1), rt(40000, 16, 0)), tableOf(rt(0, 1, 1), rt(2560, 8, 0), rt(40000, 16, 0))},
		{"neighbors are not joined", tableOf(rt(0, 1, 7), rt(32768, 1, 7)), tableOf(rt(0, 1, 7), rt(32768, 1, 7))},
		{"shadowed by its halves", tableOf(rt(0, 0, 3), rt(0, 1, 1), rt(32768, 1, 2)), tableOf(rt(0, 1, 1), rt(32768, 1, 2))},
		{"shadowed in parts of several lengths", tableOf(rt(0, 0, 9), rt(0, 1, 1), rt(32768, 2, 2), rt(49152, 2, 3)), tableOf(rt(0, 1, 1), rt(32768, 2, 2), rt(49152, 2, 3))},
		{"the longer routes go first", tableOf(rt(2560, 8, 1), rt(2560, 9, 1), rt(2688, 9, 1)), tableOf(rt(2560, 8, 1))},
		{"the longer routes go first, down a chain", tableOf(rt(0, 0, 1), rt(0, 1, 1), rt(0, 2, 1), rt(0, 16, 1)), tableOf(rt(0, 0, 1))},
		{"the next route around decides, not the first", tableOf(rt(0, 0, 1), rt(0, 8, 2), rt(0, 16, 1)), tableOf(rt(0, 0, 1), rt(0, 8, 2), rt(0, 16, 1))},
		{"a shadowed route hides what is redundant below it", tableOf(rt(2560, 8, 1), rt(2560, 9, 2), rt(2560, 10, 1), rt(2624, 10, 1)), tableOf(rt(2560, 8, 1))},
		{"a part of it is not shadowed", tableOf(rt(2560, 8, 1), rt(2560, 9, 2), rt(2560, 10, 1), rt(2624, 11, 1)), tableOf(rt(2560, 8, 1), rt(2560, 9, 2), rt(2560, 10, 1), rt(2624, 11, 1))},
		{"routes of the same Net", tableOf(rt(2560, 8, 1), rt(2560, 9, 1), rt(2560, 10, 2), rt(2560, 11, 2), rt(2560, 16, 1)), tableOf(rt(2560, 8, 1), rt(2560, 10, 2), rt(2560, 16, 1))},
	}
	for _, c := range cases {
		if got := checkSqueeze(t, c.table); !equalTables(got, c.want) {
			t.Errorf("%s: %v", c.why, got)
		}
	}
}

func TestSqueezeOfFullTables(t *testing.T) {
	var same, pairs []impl.Route
	for i := range impl.MaxRoutes {
		same = append(same, rt(i, 16, 7))
		pairs = append(pairs, rt(i, 16, i%2))
	}
	if got := checkSqueeze(t, tableOf(same...)); len(got.Routes) != impl.MaxRoutes {
		t.Errorf("routes without any route around them are removed: %v", got)
	}
	same[0], pairs[0] = rt(0, 0, 7), rt(0, 0, 1)
	if got := checkSqueeze(t, tableOf(same...)); len(got.Routes) != 1 {
		t.Errorf("routes with the hop around them stay: %v", got)
	}
	if got := checkSqueeze(t, tableOf(pairs...)); len(got.Routes) != impl.MaxRoutes/2 {
		t.Errorf("every second route is redundant, but there are %d", len(got.Routes))
	}
	for _, table := range goodTables() {
		checkSqueeze(t, table)
	}
}

func TestSqueezeAtRandom(t *testing.T) {
	random := rand.New(rand.NewSource(15))
	removed := 0
	for range 400 {
		table := randomTable(random, 1+random.Intn(40), 2+random.Intn(4), 1+random.Intn(3))
		removed += len(table.Routes) - len(checkSqueeze(t, table).Routes)
	}
	if removed < 400 {
		t.Errorf("only %d routes were redundant", removed)
	}
}

func TestSqueezeRefuses(t *testing.T) {
	for _, bad := range badTables() {
		if got, ok := impl.Squeeze(bad); ok || !equalTables(got, bad) {
			t.Errorf("Squeeze(%v) is %v, %v", bad, got, ok)
		}
	}
}

func TestTableSpans(t *testing.T) {
	random := rand.New(rand.NewSource(16))
	tables := append(goodTables(), tableOf(rt(0, 0, 3), rt(0, 1, 7), rt(32768, 1, 7)), tableOf(rt(2560, 8, 1), rt(2816, 8, 1), rt(3072, 8, 2)))
	for range 60 {
		tables = append(tables, randomTable(random, 30, 2+random.Intn(8), 1+random.Intn(3)))
	}
	for _, table := range tables {
		want := []int{0}
		hops := paint(table)
		for a := 1; a < addrs; a++ {
			if hops[a] != hops[a-1] {
				want = append(want, a)
			}
		}
		if got := impl.TableSpans(table); !slices.Equal(got, want) {
			t.Fatalf("TableSpans(%v) is %v and not %v", table, got, want)
		}
	}
	if got := impl.TableSpans(tableOf(rt(0, 16, 0), rt(65535, 16, 0))); !slices.Equal(got, []int{0, 1, 65535}) {
		t.Errorf("TableSpans at the ends is %v", got)
	}
	for _, bad := range badTables() {
		if got := impl.TableSpans(bad); len(got) != 0 {
			t.Errorf("TableSpans(%v) is %v", bad, got)
		}
	}
}

func TestTableText(t *testing.T) {
	texts := map[string]impl.Table{
		"":                         {},
		"0.0/0 0\n":                tableOf(rt(0, 0, 0)),
		"255.255/16 999\n":         tableOf(rt(65535, 16, 999)),
		"0.0/0 1\n0.0/1 10\n":      tableOf(rt(0, 0, 1), rt(0, 1, 10)),
		"1.4/14 20\n10.0/16 100\n": tableOf(rt(260, 14, 20), rt(2560, 16, 100)),
		"128.0/1 5\n128.0/16 5\n":  tableOf(rt(32768, 1, 5), rt(32768, 16, 5)),
		"2.0/8 3\n10.0/8 3\n":      tableOf(rt(512, 8, 3), rt(2560, 8, 3)),
		"0.255/16 7\n1.0/16 8\n":   tableOf(rt(255, 16, 7), rt(256, 16, 8)),
	}
	for want, table := range texts {
		if got := impl.TableText(table); got != want {
			t.Errorf("TableText(%v) is %q and not %q", table, got, want)
		}
	}
	for _, table := range goodTables() {
		want := ""
		for _, r := range table.Routes {
			want += impl.PrefixText(r.Prefix) + " " + strconv.Itoa(r.Hop) + "\n"
		}
		if got := impl.TableText(table); got != want {
			t.Errorf("TableText(%v) is %q and not %q", table, got, want)
		}
	}
	for _, bad := range badTables() {
		if got := impl.TableText(bad); got != "" {
			t.Errorf("TableText(%v) is %q", bad, got)
		}
	}
}

// changers returns the results of all functions that return a table, refused calls among them.
func changers(t impl.Table) []impl.Table {
	var results []impl.Table
	for _, r := range []impl.Route{rt(0, 0, 1), rt(2560, 8, 77), rt(2560, 16, 77), rt(65535, 16, 77), rt(1, 0, 0), rt(0, 0, -1)} {
		put, _ := impl.PutRoute(t, r)
		drop, _ := impl.DropRoute(t, r.Prefix)
		results = append(results, put, drop)
	}
	squeeze, _ := impl.Squeeze(t)
	return append(results, squeeze)
}

func TestTablesAreNewMemory(t *testing.T) {
	for _, table := range append(goodTables(), badTables()...) {
		// The routes lie in the middle of an array, so that a write beside them shows too.
		n := len(table.Routes)
		array := make([]impl.Route, n+8)
		copy(array[2:], table.Routes)
		whole := slices.Clone(array)
		given := impl.Table{Routes: array[2 : n+2]}
		results := changers(given)
		if !slices.Equal(array, whole) {
			t.Fatalf("the argument %v was changed", table)
		}
		again := changers(given)
		for _, result := range results {
			every := result.Routes[:cap(result.Routes)]
			for i := range every {
				every[i] = rt(4, 4, 4)
			}
		}
		if !slices.Equal(array, whole) {
			t.Fatalf("a result shares memory with the argument %v", table)
		}
		for i, result := range changers(given) {
			if !equalTables(result, again[i]) {
				t.Fatalf("results for %v share memory with each other", table)
			}
		}
	}
}

func TestTableArgumentsStay(t *testing.T) {
	for _, table := range append(goodTables(), badTables()...) {
		given := slices.Clone(table.Routes)
		impl.TableOk(table)
		impl.FindHop(table, 2560)
		impl.BestRoute(table, 2560)
		impl.SameTable(table, table)
		impl.TableText(table)
		spans := impl.TableSpans(table)
		other := impl.TableSpans(table)
		for i := range spans {
			spans[i] = -5
		}
		if !slices.Equal(table.Routes, given) || slices.Contains(other, -5) {
			t.Fatalf("the argument %v was changed", given)
		}
	}
}
