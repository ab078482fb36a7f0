package tests

import (
	"fmt"
	"math"
	"math/rand"
	"slices"
	"strings"
	"testing"

	"loop.example/g00681/impl"
)

// sends has a table for each hop, with this hop for all addresses, or with no route where it is -1.
func sends(hops ...int) []impl.Table {
	var tables []impl.Table
	for _, hop := range hops {
		if hop < 0 {
			tables = append(tables, impl.Table{})
		} else {
			tables = append(tables, tableOf(rt(0, 0, hop)))
		}
	}
	return tables
}

// rowHome has n tables, each of which forwards to the next one; the last one has arrived.
func rowHome(n int) []impl.Table {
	var hops []int
	for x := range n - 1 {
		hops = append(hops, x+2)
	}
	return sends(append(hops, 0)...)
}

// asHops counts from 1, as hops do.
func asHops(nodes ...int) []int {
	var hops []int
	for _, x := range nodes {
		hops = append(hops, x+1)
	}
	return hops
}

func withTable(tables []impl.Table, x int, t impl.Table) []impl.Table {
	changed := slices.Clone(tables)
	changed[x] = t
	return changed
}

// longestRoute looks for every prefix in which the address lies, the longest one first.
func longestRoute(t impl.Table, a int) impl.Route {
	for l := 16; l >= 0; l-- {
		for _, r := range t.Routes {
			if r.Prefix == (impl.Prefix{Net: a >> (16 - l) << (16 - l), Len: l}) {
				return r
			}
		}
	}
	return impl.Route{Hop: -1}
}

// walked is the model of Walk for valid arguments.
func walked(tables []impl.Table, from, a, ttl int) ([]int, int) {
	hop := longestRoute(tables[from], a).Hop
	if hop == 0 {
		return []int{from}, 0
	}
	if hop < 0 || hop-1 >= len(tables) {
		return []int{from}, 1
	}
	if ttl == 0 {
		return []int{from}, 2
	}
	rest, code := walked(tables, hop-1, a, ttl-1)
	return append([]int{from}, rest...), code
}

func checkWalk(t *testing.T, tables []impl.Table, from, a, ttl int) ([]int, int) {
	t.Helper()
	way, code := walked(tables, from, a, ttl)
	got, end := impl.Walk(tables, from, a, ttl)
	if !slices.Equal(got, way) || end != code {
		t.Fatalf("Walk(%v, %d, %d, %d) is %v, %d and not %v, %d", tables, from, a, ttl, got, end, way, code)
	}
	return got, end
}

// checkEnds compares Sinks, LoopsAt and CountHome with the model, by which a packet that has passed as
// many nodes as there are goes on forever.
func checkEnds(t *testing.T, tables []impl.Table, a int) (sinks, loops []int, home int) {
	t.Helper()
	for x, table := range tables {
		if longestRoute(table, a).Hop == 0 {
			sinks = append(sinks, x)
		}
		switch _, code := walked(tables, x, a, len(tables)); code {
		case 0:
			home++
		case 2:
			loops = append(loops, x)
		}
	}
	if got := impl.Sinks(tables, a); !slices.Equal(got, sinks) {
		t.Fatalf("Sinks(%v, %d) is %v and not %v", tables, a, got, sinks)
	}
	if got := impl.LoopsAt(tables, a); !slices.Equal(got, loops) {
		t.Fatalf("LoopsAt(%v, %d) is %v and not %v", tables, a, got, loops)
	}
	if got := impl.CountHome(tables, a); got != home {
		t.Fatalf("CountHome(%v, %d) is %d and not %d", tables, a, got, home)
	}
	return sinks, loops, home
}

func TestWalkConstants(t *testing.T) {
	if impl.MaxTtl != 16 {
		t.Errorf("MaxTtl is %d", impl.MaxTtl)
	}
	if impl.WalkHome != 0 || impl.WalkNone != 1 || impl.WalkLoop != 2 || impl.WalkBad != 3 {
		t.Errorf("the codes are %d, %d, %d, %d", impl.WalkHome, impl.WalkNone, impl.WalkLoop, impl.WalkBad)
	}
}

// checkTable compares TableFor with the model of chapter 6.
func checkTable(t *testing.T, d impl.Db, x int) impl.Table {
	t.Helper()
	want := tableOf(shelvesOf(d).routes(x)...)
	got, ok := impl.TableFor(d, x)
	if !ok || !equalTables(got, want) || !impl.TableOk(got) {
		t.Fatalf("TableFor(%v, %d) is %v, %v and not %v", d, x, got, ok, want)
	}
	return got
}

func checkNoTable(t *testing.T, why string, d impl.Db, x int) {
	t.Helper()
	if got, ok := impl.TableFor(d, x); ok || len(got.Routes) != 0 {
		t.Errorf("%s: TableFor(%v, %d) is %v, %v", why, d, x, got, ok)
	}
}

func TestTableForFewOrigins(t *testing.T) {
	p := func(cost int) impl.Stub { return stub(256, 8, cost) }
	// Node 5 is between 1 and 8, at the same cost from both.
	fork := func(a, b int) impl.Db {
		return dbOf(ad(1, to(5, 2), p(a)), ad(5, to(1, 2, 8, 2)), ad(8, to(5, 2), p(b)))
	}
	pair := dbOf(ad(4, to(5, 1), p(1)), ad(5, to(4, 1)))
	cases := []struct {
		why  string
		db   impl.Db
		x    int
		want string
	}{
		{"no advertisement", impl.Db{}, 0, ""},
		{"no advertisement, at the last node", impl.Db{}, 9, ""},
		{"an origin without stubs", dbOf(ad(0, to(1, 1)), ad(1, to(0, 1))), 0, ""},
		{"an origin without stubs beside one with a stub", pair, 5, "1.0/8 5\n"},
		{"at the origin", pair, 4, "1.0/8 0\n"},
		{"two origins of one prefix, the first nearer", fork(6, 7), 5, "1.0/8 2\n"},
		{"two origins of one prefix, the last nearer", fork(7, 6), 5, "1.0/8 9\n"},
		{"two origins of one prefix, equally near", fork(7, 7), 5, "1.0/8 2\n"},
		{"at an origin that is farther than the other", fork(1, 100), 8, "1.0/8 6\n"},
		{"at an origin that is as near as the other", fork(1, 5), 8, "1.0/8 0\n"},
		{"an expired advertisement", dbOf(aged(ad(4, to(5, 1), p(1)), 3, 60), ad(5, to(4, 1))), 5, "1.0/8 5\n"},
		{"at the origin of an expired advertisement", dbOf(aged(ad(4, nil, p(1)), 3, 60)), 4, "1.0/8 0\n"},
		{"no path", dbOf(ad(4, nil, p(1)), ad(5, nil)), 5, ""},
		{"no path back", dbOf(ad(4, nil, p(1)), ad(5, to(4, 1))), 5, ""},
		{"no advertisement of the node", pair, 3, ""},
		{"a path to one of two origins", dbOf(ad(4, to(5, 9), p(900)), ad(5, to(4, 9)), ad(6, nil, p(1))), 5, "1.0/8 5\n"},
		{"several prefixes, one of them in another",
			dbOf(ad(0, to(9, 1), stub(512, 8, 4)), ad(9, to(0, 1), stub(0, 0, 3), stub(512, 16, 2))), 0, "0.0/0 10\n2.0/8 0\n2.0/16 10\n"},
		{"the same prefixes from the other side",
			dbOf(ad(0, to(9, 1), stub(512, 8, 4)), ad(9, to(0, 1), stub(0, 0, 3), stub(512, 16, 2))), 9, "0.0/0 0\n2.0/8 1\n2.0/16 0\n"},
	}
	for _, c := range cases {
		t.Log(c.why)
		if got := impl.TableText(checkTable(t, c.db, c.x)); got != c.want {
			t.Errorf("%s: TableFor(%v, %d) is %q and not %q", c.why, c.db, c.x, got, c.want)
		}
	}
}

// smallDb is a random database whose graph has no more edges than a graph may have.
func smallDb(random *rand.Rand) impl.Db {
	for {
		if d := busyDb(random); len(shelvesOf(d).costs().graph().Edges) <= impl.MaxEdges {
			return d
		}
	}
}

func TestTableFor(t *testing.T) {
	random := rand.New(rand.NewSource(90))
	list := goodDbs()[:13]
	for range 200 {
		list = append(list, smallDb(random))
	}
	for _, d := range list {
		for x := range 10 {
			table := checkTable(t, d, x)
			if routes, ok := impl.PrefixesOf(d, x); !ok || !slices.Equal(table.Routes, routes) {
				t.Fatalf("TableFor(%v, %d) has not the routes %v of PrefixesOf", d, x, routes)
			}
		}
	}
}

func TestTableForRefuses(t *testing.T) {
	for _, d := range append(goodDbs()[:20], dbOf(ad(0, nil, stub(0, 0, 1)))) {
		for _, x := range noOrigins() {
			checkNoTable(t, "no node", d, x)
		}
	}
	for x := -1; x <= 10; x++ {
		for _, bad := range badDbs() {
			checkNoTable(t, bad.why, bad.db, x)
		}
		checkNoTable(t, "62 edges", meshDb(31), x)
		checkNoTable(t, "90 edges", fullDb(true, always(0)), x)
	}
	checkTable(t, meshDb(30), 0)
}

// tablesText lists the tables, each with a stroke behind it.
func tablesText(tables []impl.Table) string {
	var text strings.Builder
	for _, table := range tables {
		text.WriteString(strings.ReplaceAll(impl.TableText(table), "\n", ";") + "|")
	}
	return text.String()
}

func TestTablesOfFewNodes(t *testing.T) {
	pair := dbOf(ad(0, to(1, 3), stub(0, 8, 1)), ad(1, to(0, 3), stub(256, 8, 1)))
	cases := []struct {
		why  string
		net  impl.Net
		want string
	}{
		{"one node that knows nothing", netOf(impl.Graph{Nodes: 1}), "|"},
		{"one node", netOf(impl.Graph{Nodes: 1}, dbOf(ad(0, nil, stub(0, 8, 1)))), "0.0/8 0;|"},
		{"one node that knows of others", netOf(impl.Graph{Nodes: 1}, pair), "0.0/8 0;1.0/8 2;|"},
		{"six nodes that know nothing", netOf(mesh(6)), "||||||"},
		{"two nodes that know the same", netOf(mesh(2), pair, pair), "0.0/8 0;1.0/8 2;|0.0/8 1;1.0/8 0;|"},
		{"the second node knows nothing", netOf(mesh(2), pair), "0.0/8 0;1.0/8 2;||"},
		{"the first node knows nothing", netOf(mesh(2), impl.Db{}, pair), "|0.0/8 1;1.0/8 0;|"},
		{"links that are not up", netOf(impl.Graph{Nodes: 2}, pair, pair), "0.0/8 0;1.0/8 2;|0.0/8 1;1.0/8 0;|"},
		{"each knows only itself", netOf(mesh(3), dbOf(ad(0, nil, stub(0, 8, 1))), dbOf(ad(1, nil, stub(256, 8, 1))), dbOf(ad(2, nil, stub(512, 8, 1)))),
			"0.0/8 0;|1.0/8 0;|2.0/8 0;|"},
		{"messages in transit do not count", wired(netOf(mesh(2)), msg(0, 1, ad(1, nil, stub(256, 8, 1)))), "||"},
	}
	for _, c := range cases {
		got, ok := impl.TablesOf(c.net)
		if !ok || len(got) != c.net.Up.Nodes || tablesText(got) != c.want {
			t.Errorf("%s: TablesOf(%v) is %s, %v and not %s", c.why, c.net, tablesText(got), ok, c.want)
		}
	}
}

func TestTablesOf(t *testing.T) {
	random := rand.New(rand.NewSource(91))
	list := goodNets()
	for range 200 {
		list = append(list, randomNet(random))
	}
	refused := 0
	for _, n := range list {
		var want []impl.Table
		for x, d := range n.Dbs {
			s := shelvesOf(d)
			if len(s.costs().graph().Edges) > impl.MaxEdges {
				want = nil
				break
			}
			want = append(want, tableOf(s.routes(x)...))
		}
		got, ok := impl.TablesOf(n)
		if ok != (want != nil) || !slices.EqualFunc(got, want, equalTables) {
			t.Fatalf("TablesOf(%v) is %v, %v and not %v", n, got, ok, want)
		}
		refused += one(!ok)
	}
	if refused < 3 || refused > len(list)/2 {
		t.Errorf("%d of %d networks are refused", refused, len(list))
	}
}

func TestTablesOfRefuses(t *testing.T) {
	for _, bad := range badNets() {
		if got, ok := impl.TablesOf(bad.net); ok || got != nil {
			t.Errorf("%s: TablesOf(%v) is %v, %v", bad.why, bad.net, got, ok)
		}
	}
	for nodes := 1; nodes <= 6; nodes++ {
		for x := range nodes {
			n := netOf(impl.Graph{Nodes: nodes}, slices.Repeat([]impl.Db{meshDb(30)}, nodes)...)
			if got, ok := impl.TablesOf(n); !ok || len(got) != nodes {
				t.Errorf("TablesOf of %d nodes is %v, %v", nodes, got, ok)
			}
			n.Dbs[x] = meshDb(31)
			if got, ok := impl.TablesOf(n); ok || got != nil {
				t.Errorf("TablesOf where node %d of %d has too many edges is %v, %v", x, nodes, got, ok)
			}
		}
	}
}

type walkCase struct {
	why    string
	tables []impl.Table
	from   int
	a      int
	ttl    int
	way    []int
	code   int
}

func checkWalkCases(t *testing.T, cases []walkCase) {
	t.Helper()
	for _, c := range cases {
		t.Log(c.why)
		if way, code := checkWalk(t, c.tables, c.from, c.a, c.ttl); !slices.Equal(way, c.way) || code != c.code {
			t.Errorf("%s: Walk(%v, %d, %d, %d) is %v, %d and not %v, %d", c.why, c.tables, c.from, c.a, c.ttl, way, code, c.way, c.code)
		}
	}
}

func TestWalkHomeAndNone(t *testing.T) {
	row := rowHome(4)
	checkWalkCases(t, []walkCase{
		{"arrived at once", sends(0), 0, 7, 16, []int{0}, impl.WalkHome},
		{"arrived at once, without a ttl", sends(0), 0, 7, 0, []int{0}, impl.WalkHome},
		{"arrived at once, at the last node", row, 3, 7, 0, []int{3}, impl.WalkHome},
		{"address 0", sends(2, 0), 0, 0, 16, []int{0, 1}, impl.WalkHome},
		{"the highest address", sends(2, 0), 0, 65535, 16, []int{0, 1}, impl.WalkHome},
		{"along a row", row, 0, 7, 16, []int{0, 1, 2, 3}, impl.WalkHome},
		{"from the middle of a row", row, 2, 7, 16, []int{2, 3}, impl.WalkHome},
		{"back to node 0", sends(0, 1, 2), 2, 7, 16, []int{2, 1, 0}, impl.WalkHome},
		{"by way of all ten nodes", rowHome(10), 0, 7, 16, []int{0, 1, 2, 3, 4, 5, 6, 7, 8, 9}, impl.WalkHome},
		{"no route", sends(-1), 0, 7, 16, []int{0}, impl.WalkNone},
		{"no route, and no ttl", sends(-1), 0, 7, 0, []int{0}, impl.WalkNone},
		{"no route at a later node", sends(2, -1), 0, 7, 16, []int{0, 1}, impl.WalkNone},
		{"no route at the last node of many", withTable(row, 3, impl.Table{}), 0, 7, 16, []int{0, 1, 2, 3}, impl.WalkNone},
		{"routes for other addresses only", []impl.Table{tableOf(rt(0, 8, 2), rt(512, 8, 0)), tableOf(rt(0, 0, 0))}, 0, 256, 16, []int{0}, impl.WalkNone},
		{"no table for the next node", sends(2), 0, 7, 16, []int{0}, impl.WalkNone},
		{"no table for the next node, and no ttl", sends(2), 0, 7, 0, []int{0}, impl.WalkNone},
		{"no table for the next node, far from it", sends(999), 0, 7, 16, []int{0}, impl.WalkNone},
		{"no table for the node after the next", sends(3, 4, 2), 0, 7, 16, []int{0, 2, 1}, impl.WalkNone},
		{"no table for a node of the graph", sends(10, 0), 0, 7, 16, []int{0}, impl.WalkNone},
		{"no table for the node after the tenth", withTable(rowHome(10), 9, tableOf(rt(0, 0, 11))), 8, 7, 16, []int{8, 9}, impl.WalkNone},
		{"a table for the last node", sends(10, -1, -1, -1, -1, -1, -1, -1, -1, 0), 0, 7, 16, []int{0, 9}, impl.WalkHome},
	})
}

// TestWalkByTheLongestPrefix: each node decides by its own table, for one and the same address.
func TestWalkByTheLongestPrefix(t *testing.T) {
	tables := []impl.Table{
		tableOf(rt(0, 0, 2), rt(2560, 8, 3), rt(2565, 16, 0)),
		tableOf(rt(0, 0, 0), rt(2560, 8, 1), rt(2688, 9, 3)),
		tableOf(rt(2560, 8, 0), rt(2566, 16, 2), rt(2816, 8, 1)),
	}
	checkWalkCases(t, []walkCase{
		{"only the longest route is home", tables, 0, 2565, 16, []int{0}, impl.WalkHome},
		{"the address before it", tables, 0, 2564, 16, []int{0, 2}, impl.WalkHome},
		{"another route of one address", tables, 0, 2566, 3, []int{0, 2, 1, 0}, impl.WalkLoop},
		{"the route of all addresses", tables, 0, 2559, 16, []int{0, 1}, impl.WalkHome},
		{"home only by the shortest route", tables, 1, 2816, 16, []int{1}, impl.WalkHome},
		{"by way of all nodes", tables, 2, 2817, 16, []int{2, 0, 1}, impl.WalkHome},
		{"two routes around each other", tables, 1, 2700, 16, []int{1, 2}, impl.WalkHome},
		{"the outer one of them", tables, 1, 2570, 16, []int{1, 0, 2}, impl.WalkHome},
		{"none where the others have one", tables, 2, 3072, 16, []int{2}, impl.WalkNone},
	})
}

func TestWalkUntilTheTtlEnds(t *testing.T) {
	two, self := sends(2, 1), sends(1)
	row := rowHome(10)
	checkWalkCases(t, []walkCase{
		{"ttl 0 where one is needed", sends(2, 0), 0, 7, 0, []int{0}, impl.WalkLoop},
		{"ttl 1 where one is needed", sends(2, 0), 0, 7, 1, []int{0, 1}, impl.WalkHome},
		{"ttl 1 where two are needed", rowHome(3), 0, 7, 1, []int{0, 1}, impl.WalkLoop},
		{"ttl 8 where nine are needed", row, 0, 7, 8, []int{0, 1, 2, 3, 4, 5, 6, 7, 8}, impl.WalkLoop},
		{"ttl 9 where nine are needed", row, 0, 7, 9, []int{0, 1, 2, 3, 4, 5, 6, 7, 8, 9}, impl.WalkHome},
		{"no route where the ttl ends", sends(2, -1), 0, 7, 1, []int{0, 1}, impl.WalkNone},
		{"no route behind where the ttl ends", sends(2, -1), 0, 7, 0, []int{0}, impl.WalkLoop},
		{"no table behind where the ttl ends", sends(2, 3), 0, 7, 1, []int{0, 1}, impl.WalkNone},
		{"a loop of two nodes", two, 0, 7, 16, []int{0, 1, 0, 1, 0, 1, 0, 1, 0, 1, 0, 1, 0, 1, 0, 1, 0}, impl.WalkLoop},
		{"a loop of two nodes, from the other one", two, 1, 7, 16, []int{1, 0, 1, 0, 1, 0, 1, 0, 1, 0, 1, 0, 1, 0, 1, 0, 1}, impl.WalkLoop},
		{"a loop of two nodes, with ttl 0", two, 0, 7, 0, []int{0}, impl.WalkLoop},
		{"a loop of two nodes, with ttl 1", two, 1, 7, 1, []int{1, 0}, impl.WalkLoop},
		{"a node that forwards to itself", self, 0, 7, 16, slices.Repeat([]int{0}, 17), impl.WalkLoop},
		{"a node that forwards to itself, with ttl 0", self, 0, 7, 0, []int{0}, impl.WalkLoop},
		{"a node that forwards to itself, with ttl 1", self, 0, 7, 1, []int{0, 0}, impl.WalkLoop},
		{"into a loop", sends(2, 3, 2), 0, 7, 5, []int{0, 1, 2, 1, 2, 1}, impl.WalkLoop},
		{"into a node that forwards to itself", sends(3, 0, 3), 0, 7, 4, []int{0, 2, 2, 2, 2}, impl.WalkLoop},
	})
	for nodes := 1; nodes <= 10; nodes++ {
		for from := range nodes {
			for ttl := range impl.MaxTtl + 1 {
				needed := nodes - 1 - from
				way, code := checkWalk(t, rowHome(nodes), from, 7, ttl)
				if (code == impl.WalkHome) != (ttl >= needed) || len(way) != 1+min(ttl, needed) {
					t.Errorf("with ttl %d, %d of %d needed, the walk is %v, %d", ttl, needed, nodes-1, way, code)
				}
			}
		}
	}
}

// randomTables have few hops, so that packets meet, and some hops to nodes without a table.
func randomTables(random *rand.Rand) []impl.Table {
	n := 1 + random.Intn(impl.MaxNodes)
	hops := n + 1 + random.Intn(2)
	var tables []impl.Table
	for range n {
		tables = append(tables, randomTable(random, random.Intn(12), 8, hops))
		if random.Intn(3) > 0 {
			tables[len(tables)-1], _ = impl.PutRoute(tables[len(tables)-1], rt(0, 0, random.Intn(hops)))
		}
	}
	return tables
}

// someAddrs are those at which a lookup may change, and those before them.
func someAddrs(tables []impl.Table) []int {
	list := []int{0, 65535}
	for _, table := range tables {
		for _, a := range points(table) {
			list = append(list, a, max(a-1, 0))
		}
	}
	slices.Sort(list)
	return slices.Compact(list)
}

func TestWalkAndItsEnds(t *testing.T) {
	random := rand.New(rand.NewSource(92))
	seen := map[string]int{}
	for range 400 {
		tables := randomTables(random)
		list := someAddrs(tables)
		for range 12 {
			a := list[random.Intn(len(list))]
			sinks, loops, home := checkEnds(t, tables, a)
			seen["sinks"] += len(sinks)
			seen["loops"] += len(loops)
			seen["home"] += home
			for from := range tables {
				for ttl := range impl.MaxTtl + 1 {
					way, code := checkWalk(t, tables, from, a, ttl)
					seen[fmt.Sprint("code ", code)]++
					seen["long"] += one(len(way) > 4 && code != impl.WalkLoop)
				}
			}
		}
	}
	for _, what := range []string{"sinks", "loops", "home", "code 0", "code 1", "code 2", "long"} {
		if seen[what] < 500 {
			t.Errorf("%s: only %d", what, seen[what])
		}
	}
}

func TestWalkCost(t *testing.T) {
	g := graphOf(4, edge(0, 1, 5), edge(1, 0, 7), edge(1, 2, 1000), edge(2, 3, 1))
	cases := []struct {
		why  string
		g    impl.Graph
		way  []int
		want int
	}{
		{"an empty way", g, nil, -1},
		{"an empty way", g, []int{}, -1},
		{"a single node", g, []int{0}, 0},
		{"the last node", g, []int{3}, 0},
		{"the only node", impl.Graph{Nodes: 1}, []int{0}, 0},
		{"an edge", g, []int{0, 1}, 5},
		{"its reverse", g, []int{1, 0}, 7},
		{"all edges", g, []int{1, 0, 1, 2, 3}, 1013},
		{"back and forth", g, []int{0, 1, 0, 1, 0}, 24},
		{"no edge", g, []int{0, 2}, -1},
		{"no reverse edge", g, []int{2, 1}, -1},
		{"no edge at the end", g, []int{0, 1, 2, 3, 0}, -1},
		{"no edge at the beginning", g, []int{3, 1, 2}, -1},
		{"one node twice", g, []int{0, 0}, -1},
		{"a node outside", g, []int{4}, -1},
		{"a node below 0", g, []int{-1}, -1},
		{"a node outside at the end", g, []int{0, 1, 4}, -1},
		{"a node outside at the beginning", g, []int{math.MaxInt, 0}, -1},
		{"a node below 0 in the middle", g, []int{0, -1, 1}, -1},
		{"the longest way", g, slices.Repeat([]int{0, 1}, 150), 150*5 + 149*7},
		{"a longer way", g, slices.Repeat([]int{0, 1}, 151), -1},
		{"the zero value", impl.Graph{}, []int{0}, -1},
	}
	for _, c := range cases {
		if got := impl.WalkCost(c.g, c.way); got != c.want {
			t.Errorf("%s: WalkCost(%v, %v) is %d and not %d", c.why, c.g, c.way, got, c.want)
		}
	}
	for _, bad := range badGraphs() {
		for _, way := range [][]int{nil, {0}, {0, 1}, {1, 0}, {0, 0}, {1, 2}} {
			if got := impl.WalkCost(bad, way); got != -1 {
				t.Errorf("WalkCost(%v, %v) is %d", bad, way, got)
			}
		}
	}
	for _, g := range manyGraphs(93, 40) {
		eachPath(g, 0, func(way []int, cost int) {
			longer := append(slices.Clone(way), way[0])
			if impl.WalkCost(g, way) != cost || impl.WalkCost(g, longer) != wayCost(g, longer) {
				t.Fatalf("WalkCost(%v) of %v is %d, and %d back again", g, way, impl.WalkCost(g, way), impl.WalkCost(g, longer))
			}
		})
	}
}

func TestEndsOfFewTables(t *testing.T) {
	cases := []struct {
		why    string
		tables []impl.Table
		a      int
		sinks  []int
		loops  []int
		home   int
	}{
		{"arrived", sends(0), 7, []int{0}, nil, 1},
		{"arrived at all nodes", sends(0, 0, 0), 0, []int{0, 1, 2}, nil, 3},
		{"arrived at all of ten nodes", sends(0, 0, 0, 0, 0, 0, 0, 0, 0, 0), 65535, []int{0, 1, 2, 3, 4, 5, 6, 7, 8, 9}, nil, 10},
		{"arrived at none, by loops", sends(2, 1), 7, nil, []int{0, 1}, 0},
		{"arrived at none, without a route", sends(-1, -1), 7, nil, nil, 0},
		{"arrived at none, without a table", sends(3, 4), 7, nil, nil, 0},
		{"arrived at the last node", rowHome(10), 7, []int{9}, nil, 10},
		{"arrived at the first node", sends(0, 1, 2), 7, []int{0}, nil, 3},
		{"arrived at two nodes", sends(0, 1, -1, 0, 3), 7, []int{0, 3}, nil, 3},
		{"a loop of one node", sends(1), 7, nil, []int{0}, 0},
		{"a loop of all ten nodes", sends(asHops(1, 2, 3, 4, 5, 6, 7, 8, 9, 0)...), 7, nil, []int{0, 1, 2, 3, 4, 5, 6, 7, 8, 9}, 0},
		{"a loop, and nodes from which it is reached", sends(asHops(1, 2, 1, 0)...), 7, nil, []int{0, 1, 2, 3}, 0},
		{"a loop at some nodes", sends(0, 3, 2, 1, -1, 9), 7, []int{0}, []int{1, 2}, 2},
		{"two loops", sends(2, 1, 3, 0), 7, []int{3}, []int{0, 1, 2}, 1},
		{"other addresses", []impl.Table{tableOf(rt(0, 8, 0)), tableOf(rt(256, 8, 2)), tableOf(rt(0, 0, 1))}, 256, nil, []int{1}, 0},
		{"one address", []impl.Table{tableOf(rt(0, 8, 0)), tableOf(rt(256, 8, 2)), tableOf(rt(0, 0, 1))}, 255, []int{0}, nil, 2},
	}
	for _, c := range cases {
		t.Log(c.why)
		sinks, loops, home := checkEnds(t, c.tables, c.a)
		if !slices.Equal(sinks, c.sinks) || !slices.Equal(loops, c.loops) || home != c.home {
			t.Errorf("%s: the ends of %v at %d are %v, %v, %d", c.why, c.tables, c.a, sinks, loops, home)
		}
	}
}

// checkBadWalk expects that Walk refuses the tables or the address, and so do the others.
func checkBadWalk(t *testing.T, why string, tables []impl.Table, a int) {
	t.Helper()
	for _, from := range []int{0, 1, len(tables) - 1, -1} {
		for _, ttl := range []int{0, 1, 16, 17} {
			if way, code := impl.Walk(tables, from, a, ttl); way != nil || code != impl.WalkBad {
				t.Errorf("%s: Walk(%v, %d, %d, %d) is %v, %d", why, tables, from, a, ttl, way, code)
			}
		}
	}
	if got := impl.Sinks(tables, a); got != nil {
		t.Errorf("%s: Sinks(%v, %d) is %v", why, tables, a, got)
	}
	if got := impl.LoopsAt(tables, a); got != nil {
		t.Errorf("%s: LoopsAt(%v, %d) is %v", why, tables, a, got)
	}
	if got := impl.CountHome(tables, a); got != -1 {
		t.Errorf("%s: CountHome(%v, %d) is %d", why, tables, a, got)
	}
}

func TestWalksOfBadTables(t *testing.T) {
	for _, a := range []int{0, 7, 2560, 65535} {
		checkBadWalk(t, "no tables", nil, a)
		checkBadWalk(t, "no tables", []impl.Table{}, a)
		for _, n := range []int{11, 12, 300} {
			checkBadWalk(t, "too many tables, all home", slices.Repeat(sends(0), n), a)
			checkBadWalk(t, "too many tables, all loops", slices.Repeat(sends(1), n), a)
			checkBadWalk(t, "too many tables without routes", make([]impl.Table, n), a)
		}
		checkEnds(t, rowHome(10), a)
		for _, bad := range badTables() {
			for _, good := range [][]impl.Table{sends(0), sends(2, 1), sends(0, 0, 0), rowHome(10)} {
				for _, x := range []int{0, len(good) / 2, len(good) - 1} {
					checkBadWalk(t, fmt.Sprint("an invalid table ", x), withTable(good, x, bad), a)
				}
			}
		}
	}
	// The packet does not come to the invalid table, or the table is wrong elsewhere only.
	for x := 1; x < 10; x++ {
		tables := slices.Repeat(sends(0), 10)
		tables[x] = tableOf(rt(0, 0, 0), rt(65535, 16, impl.MaxHop+1))
		checkBadWalk(t, "an invalid table", tables, 7)
	}
}

func TestWalksToBadAddrs(t *testing.T) {
	for _, tables := range [][]impl.Table{sends(0), sends(1), sends(-1), sends(2, 1), rowHome(10)} {
		for _, a := range badAddrs() {
			checkBadWalk(t, "no address", tables, a)
		}
		for _, a := range []int{0, 1, 65534, 65535} {
			checkEnds(t, tables, a)
		}
	}
}

func TestWalksOfBadNodesAndTtls(t *testing.T) {
	refused := func(why string, tables []impl.Table, from, a, ttl int) {
		t.Helper()
		if way, code := impl.Walk(tables, from, a, ttl); way != nil || code != impl.WalkBad {
			t.Errorf("%s: Walk(%v, %d, %d, %d) is %v, %d", why, tables, from, a, ttl, way, code)
		}
	}
	for n := 1; n <= 10; n++ {
		for _, tables := range [][]impl.Table{rowHome(n), slices.Repeat(sends(0), n), slices.Repeat(sends(1), n), make([]impl.Table, n)} {
			for _, from := range []int{-1, -2, -n, n, n + 1, 2 * n, 10, 11, math.MinInt, math.MaxInt} {
				refused("from no node", tables, from, 7, 16)
				refused("from no node, without a ttl", tables, from, 7, 0)
			}
			for _, ttl := range []int{-1, -2, -16, 17, 18, 100, math.MinInt, math.MaxInt} {
				for from := range n {
					refused("ttl", tables, from, 7, ttl)
				}
				refused("from and ttl", tables, n, 7, ttl)
			}
			for from := range n {
				checkWalk(t, tables, from, 7, 0)
				checkWalk(t, tables, from, 7, impl.MaxTtl)
			}
		}
	}
}

// rangedDb is a random database in which each origin has a prefix of its own and shares others, some of
// which lie in each other.
func rangedDb(random *rand.Rand) impl.Db {
	shared := []impl.Prefix{{Net: 0, Len: 0}, {Net: 0, Len: 4}, {Net: 512, Len: 7}, {Net: 514, Len: 16}, {Net: 40000, Len: 11}}
	d := smallDb(random)
	few := []int{1, 3, 20, 1000}[random.Intn(4)]
	for i, l := range d.Lsas {
		routes := []impl.Route{rt(256*l.Origin, 8, 1+random.Intn(few))}
		for _, p := range shared {
			if random.Intn(6) == 0 {
				routes = append(routes, impl.Route{Prefix: p, Hop: 1 + random.Intn(few)})
			}
		}
		d.Lsas[i].Stubs = nil
		for _, r := range tableOf(routes...).Routes {
			d.Lsas[i].Stubs = append(d.Lsas[i].Stubs, impl.Stub{Prefix: r.Prefix, Cost: r.Hop})
		}
	}
	return d
}

// stubsFor holds, by origin, the Cost of the stub of the longest prefix with the address that from can
// reach, or 0.
func stubsFor(s *shelves, d *costs, from, a int) (sums [10]int) {
	longest := -1
	for x, l := range s {
		if l == nil || d[from][x] >= impl.Far {
			continue
		}
		for _, k := range l.Stubs {
			if k.Prefix.Net>>(16-k.Prefix.Len) != a>>(16-k.Prefix.Len) || k.Prefix.Len < longest {
				continue
			}
			if k.Prefix.Len > longest {
				longest, sums = k.Prefix.Len, [10]int{}
			}
			sums[x] = k.Cost
		}
	}
	return sums
}

// checkDelivery walks from a node by the tables of one database and expects what chapter 9 promises. It
// returns the number of origins of the prefix.
func checkDelivery(t *testing.T, d impl.Db, tables []impl.Table, from, a int) int {
	t.Helper()
	s := shelvesOf(d)
	distances := s.costs().distances()
	stubs := stubsFor(s, distances, from, a)
	least, origins := math.MaxInt, 0
	for x, cost := range stubs {
		if cost > 0 {
			origins++
			least = min(least, distances[from][x]+cost)
		}
	}
	way, code := impl.Walk(tables, from, a, impl.MaxTtl)
	if origins == 0 {
		if code != impl.WalkNone || !slices.Equal(way, []int{from}) {
			t.Fatalf("without an origin, the walk from %d to %d in %v is %v, %d", from, a, d, way, code)
		}
		return 0
	}
	if code != impl.WalkHome {
		t.Fatalf("the walk from %d to %d in %v is %v, %d", from, a, d, way, code)
	}
	g, ok := impl.GraphOf(d)
	end := way[len(way)-1]
	cost := impl.WalkCost(g, way)
	if !ok || stubs[end] == 0 || cost != distances[from][end] || cost+stubs[end] != least {
		t.Fatalf("the walk from %d to %d in %v is %v at cost %d, with the stubs %v", from, a, d, way, cost, stubs)
	}
	if got := impl.Distances(g, from); got[end] != cost {
		t.Fatalf("the walk from %d to %d in %v costs %d, and the distance is %d", from, a, d, cost, got[end])
	}
	return origins
}

// TestTablesOfOneDatabaseDeliver: no packet loops, it arrives only at an origin of the prefix, and its
// way costs the distance to it, which with one origin is the only one there is.
func TestTablesOfOneDatabaseDeliver(t *testing.T) {
	random := rand.New(rand.NewSource(94))
	list := goodDbs()[:13]
	for range 150 {
		list = append(list, smallDb(random), rangedDb(random), rangedDb(random))
	}
	var seen [3]int
	for _, d := range list {
		var tables []impl.Table
		for x := range 10 {
			tables = append(tables, checkTable(t, d, x))
		}
		for _, a := range someAddrs(tables) {
			if got := impl.LoopsAt(tables, a); len(got) != 0 {
				t.Fatalf("packets for %d loop at %v in %v", a, got, d)
			}
			home := 0
			for from := range tables {
				origins := checkDelivery(t, d, tables, from, a)
				home += min(origins, 1)
				seen[min(origins, 2)]++
			}
			if got := impl.CountHome(tables, a); got != home {
				t.Fatalf("packets for %d arrive from %d nodes and not from %d in %v", a, got, home, d)
			}
		}
	}
	if slices.Min(seen[:]) < 3000 {
		t.Errorf("there were no, one and more origins for %v walks", seen)
	}
}

// TestSettledNetworksDeliver: each node reaches every node that a path leads to, at the distance, and no
// other one.
func TestSettledNetworksDeliver(t *testing.T) {
	random := rand.New(rand.NewSource(95))
	walks := 0
	for i := range 150 {
		n, _ := impl.NewNet(1 + i%6)
		for range 3 + random.Intn(30) {
			n, _ = liveStep(random, n, false).run(n)
		}
		for x := range n.Up.Nodes { // without links, a node may not have announced itself
			n, _ = impl.Announce(n, x)
		}
		n, ok := checkSettled(t, n, 0)
		tables, found := impl.TablesOf(n)
		if !ok || !found {
			t.Fatalf("TablesOf(%v) is %v, %v", n, tables, found)
		}
		for from, distances := range impl.AllDistances(n.Up) {
			for x, distance := range distances {
				way, code := impl.Walk(tables, from, 256*x+random.Intn(256), impl.MaxTtl)
				if distance == impl.Far {
					if code != impl.WalkNone {
						t.Fatalf("the walk from %d to %d in %v is %v, %d", from, x, n, way, code)
					}
					continue
				}
				walks++
				if code != impl.WalkHome || way[len(way)-1] != x || impl.WalkCost(n.Up, way) != distance {
					t.Fatalf("the walk from %d to %d in %v is %v, %d and not at cost %d", from, x, n, way, code, distance)
				}
			}
		}
	}
	if walks < 1000 {
		t.Errorf("there were only %d walks", walks)
	}
}

// TestDatabasesThatDifferLoop: node 0 has not heard that the link between 1 and 2 is cut.
func TestDatabasesThatDifferLoop(t *testing.T) {
	n, _ := impl.NewNet(3)
	for _, link := range [][3]int{{0, 1, 1}, {1, 2, 1}, {0, 2, 5}} {
		n, _ = impl.SetLink(n, link[0], link[1], link[2])
	}
	n, _ = impl.Settle(n)
	n, _ = impl.SetLink(n, 1, 2, 0)
	before, ok := impl.TablesOf(n)
	if way, code := impl.Walk(before, 0, 512, 3); !ok || code != impl.WalkLoop || !slices.Equal(way, []int{0, 1, 0, 1}) {
		t.Errorf("before it is settled, the walk is %v, %d", way, code)
	}
	if sinks, loops, home := checkEnds(t, before, 512); !slices.Equal(sinks, []int{2}) || !slices.Equal(loops, []int{0, 1}) || home != 1 {
		t.Errorf("before it is settled, the ends are %v, %v, %d", sinks, loops, home)
	}
	n, _ = impl.Settle(n)
	after, ok := impl.TablesOf(n)
	if way, code := impl.Walk(after, 1, 512, 3); !ok || code != impl.WalkHome || !slices.Equal(way, []int{1, 0, 2}) || impl.WalkCost(n.Up, way) != 6 {
		t.Errorf("once it is settled, the walk is %v, %d", way, code)
	}
}

// roomyTables holds tables whose lists all lie in the middle of arrays.
type roomyTables struct {
	tables []impl.Table
	rows   []impl.Table
	arrays [][]impl.Route
}

func roomyTablesOf(tables []impl.Table) roomyTables {
	beside := tableOf(rt(77, 77, 77))
	r := roomyTables{rows: []impl.Table{beside, beside}}
	for _, table := range tables {
		array := slices.Concat(slices.Repeat(beside.Routes, 2), table.Routes, slices.Repeat(beside.Routes, 8))
		r.arrays = append(r.arrays, array)
		r.rows = append(r.rows, impl.Table{Routes: array[2 : 2+len(table.Routes)]})
	}
	r.rows = append(r.rows, beside, beside, beside)
	r.tables = r.rows[2 : 2+len(tables)]
	return r
}

func (r roomyTables) equal(s roomyTables) bool {
	return slices.EqualFunc(r.rows, s.rows, equalTables) && slices.EqualFunc(r.arrays, s.arrays, slices.Equal[[]impl.Route])
}

// walkLists returns all lists that the functions of chapter 9 return for tables, refused calls among them.
func walkLists(tables []impl.Table) [][]int {
	var lists [][]int
	for _, a := range []int{7, 2560, 65535, 7, -1} {
		lists = append(lists, impl.Sinks(tables, a), impl.LoopsAt(tables, a), impl.Sinks(tables, a), impl.LoopsAt(tables, a))
		lists = append(lists, []int{impl.CountHome(tables, a)})
		for from := range len(tables) + 1 {
			for _, ttl := range []int{0, 2, 16, 17} {
				way, code := impl.Walk(tables, from, a, ttl)
				lists = append(lists, way, []int{code})
			}
		}
	}
	return lists
}

func TestWalksAreNewMemory(t *testing.T) {
	random := rand.New(rand.NewSource(96))
	list := [][]impl.Table{nil, sends(0), sends(2, 1), sends(0, 0, 1), rowHome(10), slices.Repeat(sends(0), 11), goodTables()[:10], badTables()[:5]}
	for range 30 {
		list = append(list, randomTables(random))
	}
	for _, tables := range list {
		argument := roomyTablesOf(tables)
		results := graphResults{lists: walkLists(argument.tables)}
		if !argument.equal(roomyTablesOf(tables)) {
			t.Fatalf("the argument %v was changed", tables)
		}
		if !results.ownMemory() {
			t.Fatalf("results for %v share memory with each other", tables)
		}
		if !argument.equal(roomyTablesOf(tables)) || !equalLists(walkLists(argument.tables), walkLists(tables)) {
			t.Fatalf("results for %v depend on what was done with earlier ones", tables)
		}
	}
	for _, g := range goodGraphs() {
		edges, way := slices.Clone(g.Edges), slices.Repeat([]int{0, 1}, 4)
		impl.WalkCost(g, way[:2])
		if !slices.Equal(g.Edges, edges) || !slices.Equal(way, slices.Repeat([]int{0, 1}, 4)) {
			t.Fatalf("WalkCost changed an argument: %v, %v", g, way)
		}
	}
}

// tablesFor returns the tables that the functions of chapter 9 return, refused calls among them.
func tablesFor(n impl.Net) []impl.Table {
	var tables []impl.Table
	for range 2 {
		all, _ := impl.TablesOf(n)
		// The list itself is written to as well, up to its capacity.
		tables = append(tables, slices.Clone(all)...)
		fill(all, impl.Table{})
	}
	for _, d := range n.Dbs {
		for _, x := range []int{0, 1, 9, 0, 10} {
			table, _ := impl.TableFor(d, x)
			tables = append(tables, table)
		}
	}
	return tables
}

func TestTablesOfNetsAreNewMemory(t *testing.T) {
	list := goodNets()
	for i, bad := range badNets() {
		if i%9 == 0 {
			list = append(list, bad.net)
		}
	}
	for _, n := range list {
		argument := roomyNetOf(n)
		results := tablesFor(argument.net)
		if !argument.equal(roomyNetOf(n)) {
			t.Fatalf("the argument %v was changed", n)
		}
		for i, table := range results {
			fill(table.Routes, rt(i, i, -i))
		}
		for i, table := range results {
			if !filled(table.Routes, rt(i, i, -i)) {
				t.Fatalf("results for %v share memory with each other", n)
			}
		}
		if !argument.equal(roomyNetOf(n)) || !slices.EqualFunc(tablesFor(argument.net), tablesFor(n), equalTables) {
			t.Fatalf("results for %v depend on what was done with earlier ones", n)
		}
	}
}
