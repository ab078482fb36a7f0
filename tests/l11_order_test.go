package tests

import (
	"math"
	"math/rand"
	"slices"
	"testing"

	"loop.example/g00681/impl"
)

// view is what the model knows about a graph, the nodes of which are the first of ten.
type view struct {
	nodes     int
	edges     *costs
	distances *costs
}

// migration is the model of chapter 11: an update from a to b.
type migration struct {
	a, b          impl.Graph
	before, after view
}

func viewOf(g impl.Graph) view {
	edges := new(costs)
	for _, e := range g.Edges {
		edges[e.From][e.To] = e.Cost
	}
	return view{nodes: g.Nodes, edges: edges, distances: edges.distances()}
}

func migrationOf(a, b impl.Graph) *migration {
	return &migration{a: a, b: b, before: viewOf(a), after: viewOf(b)}
}

func (m *migration) back() *migration {
	return &migration{a: m.b, b: m.a, before: m.after, after: m.before}
}

func (v view) reaches(x, d int) bool {
	return v.distances[x][d] < impl.Far
}

// hop expects two nodes.
func (v view) hop(x, d int) int {
	switch {
	case x == d:
		return d
	case !v.reaches(x, d):
		return -1
	}
	return v.edges.firstHop(v.distances, x, d) - 1
}

// order sorts numbers that hold both the distance and the node.
func (v view) order(d int) []int {
	var order []int
	for x := range v.nodes {
		order = append(order, v.distances[x][d]*10+x)
	}
	slices.Sort(order)
	for i := range order {
		order[i] %= 10
	}
	return order
}

func (m *migration) mixed(done []int, d int) []int {
	var hops []int
	for x := range m.a.Nodes {
		if slices.Contains(done, x) {
			hops = append(hops, m.after.hop(x, d))
		} else {
			hops = append(hops, m.before.hop(x, d))
		}
	}
	return hops
}

// looping spreads backward from the nodes where a packet ends, where the program follows each packet.
func looping(hops []int, d int) []int {
	ends := map[int]bool{}
	for grown := true; grown; {
		grown = false
		for x, hop := range hops {
			if !ends[x] && (x == d || hop < 0 || hop >= len(hops) || ends[hop]) {
				ends[x], grown = true, true
			}
		}
	}
	var loops []int
	for x := range hops {
		if !ends[x] {
			loops = append(loops, x)
		}
	}
	return loops
}

func (m *migration) firstLoop(order []int, d int) int {
	for k := 0; k <= len(order); k++ {
		if len(looping(m.mixed(order[:k], d), d)) > 0 {
			return k
		}
	}
	return -1
}

func orders(nodes int) int {
	n := 1
	for x := range nodes {
		n *= x + 1
	}
	return n
}

// bad counts the orders without a loop by the sets of nodes that they update first, where the program
// looks at each order.
func (m *migration) bad(d int) int {
	full := 1<<m.a.Nodes - 1
	good := make([]int, full+1)
	for set := range full + 1 {
		var done []int
		for x := range m.a.Nodes {
			if set>>x&1 == 1 {
				done = append(done, x)
				good[set] += good[set-1<<x]
			}
		}
		good[set] += 1 - min(1, set) // the empty set, which is reached in one way
		if len(looping(m.mixed(done, d), d)) > 0 {
			good[set] = 0
		}
	}
	return orders(m.a.Nodes) - good[full]
}

// losses counts the nodes that have a path to d in a and none in b.
func (m *migration) losses(d int) int {
	n := 0
	for x := range m.a.Nodes {
		if m.before.reaches(x, d) && !m.after.reaches(x, d) {
			n++
		}
	}
	return n
}

// square has two equally good ways from 0 to 3, and loses one of them as cutSquare.
func square() impl.Graph {
	return roadsOf(4, edge(0, 1, 1), edge(0, 2, 1), edge(0, 3, 3), edge(1, 3, 1), edge(2, 3, 1))
}

func cutSquare() impl.Graph {
	return cut(square(), 1, 3)
}

func cut(g impl.Graph, x, y int) impl.Graph {
	less, _ := impl.Without(g, x, y)
	return less
}

// roads is a line in both directions over the nodes of the list.
func roads(nodes int, list ...int) impl.Graph {
	var edges []impl.Edge
	for i := range len(list) - 1 {
		edges = append(edges, edge(list[i], list[i+1], 1))
	}
	return roadsOf(nodes, edges...)
}

// smaller is the part of the graph with the nodes below that number.
func smaller(g impl.Graph, nodes int) impl.Graph {
	var edges []impl.Edge
	for _, e := range g.Edges {
		if e.From < nodes && e.To < nodes {
			edges = append(edges, e)
		}
	}
	return graphOf(min(nodes, g.Nodes), edges...)
}

func randomOfSize(random *rand.Rand, nodes, most int) impl.Graph {
	var edges []impl.Edge
	for from := range nodes {
		for to := range nodes {
			if from != to && random.Intn(10) < 3 {
				edges = append(edges, edge(from, to, 1+random.Intn(most)))
			}
		}
	}
	random.Shuffle(len(edges), func(i, j int) { edges[i], edges[j] = edges[j], edges[i] })
	return graphOf(nodes, edges[:min(len(edges), impl.MaxEdges)]...)
}

// graphPairs are pairs of graphs with as many nodes, at most that many: graphs that lost a link, or all,
// or have other costs, and graphs that have nothing in common.
func graphPairs(seed int64, n, most int) [][2]impl.Graph {
	random := rand.New(rand.NewSource(seed))
	var pairs [][2]impl.Graph
	for i, g := range hopGraphs(seed, n) {
		g = smaller(g, most)
		list := variants(g)
		for _, k := range []int{i, 5*i + 1, random.Intn(len(list)), len(list) - 1, len(list) - 2} {
			pairs = append(pairs, [2]impl.Graph{g, list[k%len(list)]})
		}
		other := randomOfSize(random, g.Nodes, []int{1, 3, 1000}[i%3])
		pairs = append(pairs, [2]impl.Graph{g, other}, [2]impl.Graph{other, g})
	}
	for i := range n {
		nodes := 2 + random.Intn(most-1)
		a, b := randomOfSize(random, nodes, []int{1, 3, 1000}[i%3]), randomOfSize(random, nodes, 3)
		pairs = append(pairs, [2]impl.Graph{a, b})
	}
	return pairs
}

func TestGraphPairsAreGood(t *testing.T) {
	for _, most := range []int{4, 6, 10} {
		for _, pair := range graphPairs(110, 20, most) {
			if !impl.GraphOk(pair[0]) || !impl.GraphOk(pair[1]) || pair[0].Nodes != pair[1].Nodes || pair[0].Nodes > most {
				t.Errorf("%v is no pair", pair)
			}
		}
	}
}

func TestHopOfFewNodes(t *testing.T) {
	cases := []struct {
		why  string
		g    impl.Graph
		x, d int
		want int
	}{
		{"a single node", impl.Graph{Nodes: 1}, 0, 0, 0},
		{"x is d", square(), 3, 3, 3},
		{"x is d, the lowest one", square(), 0, 0, 0},
		{"x is d, without edges", impl.Graph{Nodes: 10}, 9, 9, 9},
		{"x is d, with edges away from it only", graphOf(3, edge(1, 0, 1), edge(1, 2, 1)), 1, 1, 1},
		{"one hop, which is d", square(), 1, 3, 3},
		{"one hop, which is not d", line(10, 1000), 0, 9, 1},
		{"one hop, since the other way is cut", cutSquare(), 0, 3, 2},
		{"two hops", square(), 0, 3, 1},
		{"two hops, back", square(), 3, 0, 1},
		{"two hops, the smaller of which has the dearer edge", graphOf(4, edge(0, 1, 5), edge(0, 2, 1), edge(1, 3, 1), edge(2, 3, 5)), 0, 3, 1},
		{"two hops, the greater of which is d", graphOf(3, edge(0, 1, 1), edge(0, 2, 2), edge(1, 2, 1)), 0, 2, 1},
		{"two hops, the smaller of which is d", graphOf(3, edge(0, 1, 2), edge(0, 2, 1), edge(2, 1, 1)), 0, 1, 1},
		{"two hops, and a smaller neighbor that is none", graphOf(5, edge(4, 0, 1), edge(0, 3, 9), edge(4, 1, 1), edge(4, 2, 1), edge(1, 3, 1), edge(2, 3, 1)), 4, 3, 1},
		{"the most hops", fan(10, 1000), 0, 9, 1},
		{"the most hops, back", fan(10, 1000), 9, 0, 1},
		{"hop 0", fan(10, 1), 3, 5, 0},
		{"no edges", impl.Graph{Nodes: 3}, 0, 2, -1},
		{"only a way back", line(3, 1), 2, 0, -1},
		{"in another part", roadsOf(4, edge(0, 3, 4), edge(1, 2, 1)), 0, 2, -1},
		{"x is below the nodes", square(), -1, 3, -1},
		{"x is above the nodes", square(), 4, 3, -1},
		{"d is below the nodes", square(), 0, -1, -1},
		{"d is above the nodes", square(), 0, 4, -1},
		{"x is d, below the nodes", square(), -1, -1, -1},
		{"x is d, above the nodes", square(), 4, 4, -1},
		{"x is d, above all nodes", impl.Graph{Nodes: 10}, 10, 10, -1},
		{"x is d, in an invalid graph", impl.Graph{}, 0, 0, -1},
		{"x is d, in a graph of too many nodes", impl.Graph{Nodes: 11}, 3, 3, -1},
	}
	for _, c := range cases {
		if got := impl.HopOf(c.g, c.x, c.d); got != c.want {
			t.Errorf("%s: HopOf(%v, %d, %d) is %d and not %d", c.why, c.g, c.x, c.d, got, c.want)
		}
	}
}

func TestHopOfByThePaths(t *testing.T) {
	for _, g := range hopGraphs(111, 100) {
		ways, v := waysIn(g), viewOf(g)
		for x := range g.Nodes {
			for d := range g.Nodes {
				want := -1
				if x == d {
					want = d
				} else if hops := ways[x][d].hops; len(hops) > 0 {
					want = slices.Min(hops)
				}
				if got := impl.HopOf(g, x, d); got != want {
					t.Fatalf("HopOf(%v, %d, %d) is %d and not %d", g, x, d, got, want)
				}
				if got := v.hop(x, d); got != want {
					t.Fatalf("the model has %d and not %d as hop from %d to %d in %v", got, want, x, d, g)
				}
			}
		}
	}
}

func TestMixedHopsOfFewNodes(t *testing.T) {
	a, b := square(), cutSquare()
	// In split, 0 and 1 have no path to 3; in joined all nodes have one, over the others; in back, none.
	split, joined, back := graphOf(4, edge(0, 1, 1), edge(1, 0, 1), edge(2, 3, 1)), line(4, 1), line(3, 1)
	back.Nodes = 4
	many := slices.Repeat([]int{1}, impl.MaxList)
	cases := []struct {
		why  string
		a, b impl.Graph
		done []int
		d    int
		want []int
	}{
		{"nothing is done", a, b, nil, 3, []int{1, 3, 3, 3}},
		{"nothing is done, in an empty list", a, b, []int{}, 3, []int{1, 3, 3, 3}},
		{"all are done", a, b, []int{0, 1, 2, 3}, 3, []int{2, 0, 3, 3}},
		{"all are done, in another order", a, b, []int{2, 3, 1, 0}, 3, []int{2, 0, 3, 3}},
		{"one is done", a, b, []int{1}, 3, []int{1, 0, 3, 3}},
		{"the other one is done", a, b, []int{0}, 3, []int{2, 3, 3, 3}},
		{"both that differ are done", a, b, []int{1, 0}, 3, []int{2, 0, 3, 3}},
		{"one is done that does not differ", a, b, []int{2}, 3, []int{1, 3, 3, 3}},
		{"d is done", a, b, []int{3}, 3, []int{1, 3, 3, 3}},
		{"one is done, back", b, a, []int{1}, 3, []int{2, 3, 3, 3}},
		{"to another node", a, b, []int{3}, 1, []int{1, 1, 0, 2}},
		{"to another node, before", a, b, nil, 1, []int{1, 1, 0, 1}},
		{"one is done twice", a, b, []int{1, 1}, 3, []int{1, 0, 3, 3}},
		{"one is done often, among others", a, b, []int{1, 2, 1, 3, 2, 1}, 3, []int{1, 0, 3, 3}},
		{"no node is done", a, b, []int{-1, 4, 10, math.MinInt, math.MaxInt}, 3, []int{1, 3, 3, 3}},
		{"one is done, among no nodes", a, b, []int{4, 1, -1}, 3, []int{1, 0, 3, 3}},
		{"as many as allowed", a, b, many, 3, []int{1, 0, 3, 3}},
		{"as many as allowed, and the last one counts", a, b, append(slices.Repeat([]int{4}, 299), 1), 3, []int{1, 0, 3, 3}},
		{"no path before, none done", split, joined, nil, 3, []int{-1, -1, 3, 3}},
		{"no path before, one done", split, joined, []int{0}, 3, []int{1, -1, 3, 3}},
		{"no path before, the other done", split, joined, []int{1}, 3, []int{-1, 2, 3, 3}},
		{"no path before, all done", split, joined, []int{0, 1, 2, 3}, 3, []int{1, 2, 3, 3}},
		{"no path afterwards, none done", joined, split, nil, 3, []int{1, 2, 3, 3}},
		{"no path afterwards, one done", joined, split, []int{0}, 3, []int{-1, 2, 3, 3}},
		{"no path afterwards, the other done", joined, split, []int{1}, 3, []int{1, -1, 3, 3}},
		{"no path afterwards, all done", joined, split, []int{3, 2, 1, 0}, 3, []int{-1, -1, 3, 3}},
		{"no path before or afterwards, none done", split, back, nil, 3, []int{-1, -1, 3, 3}},
		{"no path before or afterwards, all done", split, back, []int{0, 1, 2, 3}, 3, []int{-1, -1, -1, 3}},
		{"no path before or afterwards, one done", split, back, []int{1}, 3, []int{-1, -1, 3, 3}},
		{"a single node", impl.Graph{Nodes: 1}, impl.Graph{Nodes: 1}, []int{0}, 0, []int{0}},
		{"the most nodes", loop(10), cut(loop(10), 0, 1), []int{1, 3, 5}, 0, []int{0, 2, 1, 4, 3, 6, 7, 8, 9, 0}},
		{"one more than allowed", a, b, append(slices.Clone(many), 1), 3, nil},
		{"one more than allowed, all no nodes", a, b, slices.Repeat([]int{-1}, 301), 3, nil},
		{"many more than allowed", a, b, slices.Repeat([]int{0, 1, 2, 3}, 200), 3, nil},
		{"the second has one node less", a, smaller(b, 3), []int{0}, 2, nil},
		{"the first has one node less", smaller(a, 3), b, []int{0}, 2, nil},
		{"d is below the nodes", a, b, []int{0}, -1, nil},
		{"d is above the nodes", a, b, []int{0}, 4, nil},
		{"the first is invalid", impl.Graph{}, b, nil, 3, nil},
		{"the second is invalid", a, impl.Graph{}, nil, 3, nil},
		{"both are invalid", impl.Graph{}, impl.Graph{}, nil, 0, nil},
	}
	for _, c := range cases {
		if got := impl.MixedHops(c.a, c.b, c.done, c.d); !slices.Equal(got, c.want) {
			t.Errorf("%s: MixedHops(%v, %v, %v, %d) is %v and not %v", c.why, c.a, c.b, c.done, c.d, got, c.want)
		}
	}
}

// someDone are lists of nodes in any order, often repeated and among numbers that are no nodes.
func someDone(random *rand.Rand, nodes, n int) [][]int {
	var lists [][]int
	for range n {
		var done []int
		for range random.Intn(2 * nodes) {
			done = append(done, random.Intn(nodes+4)-2)
		}
		lists = append(lists, done)
	}
	return append(lists, nil, []int{math.MinInt, math.MaxInt}, slices.Repeat([]int{nodes - 1}, 300))
}

func TestMixedHopsByTheModel(t *testing.T) {
	random := rand.New(rand.NewSource(112))
	for _, pair := range graphPairs(112, 40, impl.MaxNodes) {
		m := migrationOf(pair[0], pair[1])
		for d := range m.a.Nodes {
			for _, done := range someDone(random, m.a.Nodes, 6) {
				if got, want := impl.MixedHops(m.a, m.b, done, d), m.mixed(done, d); !slices.Equal(got, want) {
					t.Fatalf("MixedHops(%v, %v, %v, %d) is %v and not %v", m.a, m.b, done, d, got, want)
				}
			}
		}
	}
}

func TestLoopsInFewHops(t *testing.T) {
	ten := []int{1, 2, 3, 4, 5, 6, 7, 8, 9, 0}
	cases := []struct {
		why  string
		hops []int
		d    int
		want []int
	}{
		{"no nodes", nil, 0, nil},
		{"no nodes, in an empty list", []int{}, -1, nil},
		{"a loop of one node", []int{0}, 1, []int{0}},
		{"a loop of one node that is d", []int{0}, 0, nil},
		{"a loop of one node among others", []int{2, 1, 2}, 2, []int{1}},
		{"a loop of two", []int{1, 0, 2}, 2, []int{0, 1}},
		{"a loop of two, of which one is d", []int{1, 0, 0}, 1, nil},
		{"a loop of two, of which the lower one is d", []int{1, 0, 0}, 0, nil},
		{"two loops of two", []int{2, 3, 0, 1, 4}, 4, []int{0, 1, 2, 3}},
		{"two loops of two, one of which has d", []int{2, 3, 0, 1, 4}, 3, []int{0, 2, 4}},
		{"a loop of three", []int{1, 2, 0, 3}, 3, []int{0, 1, 2}},
		{"a loop of three, of which one is d", []int{1, 2, 0, 3}, 0, []int{3}},
		{"a chain into a loop of one", []int{1, 2, 2, 4, 4}, 4, []int{0, 1, 2}},
		{"a chain into a loop of two", []int{1, 2, 3, 2, 4}, 4, []int{0, 1, 2, 3}},
		{"a chain into a loop, and one that is delivered", []int{5, 0, 3, 2, 3, 5}, 5, []int{2, 3, 4}},
		{"d is on the chain into a loop", []int{1, 2, 3, 2, 4}, 1, []int{2, 3, 4}},
		{"d is the first of the loop", []int{1, 2, 3, 2, 4}, 2, []int{4}},
		{"d is behind the first of the loop", []int{1, 2, 3, 2, 4}, 3, []int{4}},
		{"d would forward into a loop", []int{1, 0, 0, 2}, 2, []int{0, 1}},
		{"d would forward to what forwards to it", []int{1, 2, 0}, 0, nil},
		{"a chain to d", []int{1, 2, 3, 3}, 3, nil},
		{"the hop of d is no node", []int{1, -1, 0}, 1, nil},
		{"no node below", []int{-1, 0, 1}, 5, nil},
		{"no node above", []int{3, 0, 1}, 5, nil},
		{"no node far below", []int{math.MinInt, 0, 1}, -1, nil},
		{"no node far above", []int{math.MaxInt, 0, 1}, -1, nil},
		{"no nodes at all", []int{-1, 3, 4}, 0, nil},
		{"no node, and a loop beside it", []int{-1, 2, 1, 0}, 0, []int{1, 2}},
		{"no node, which is d", []int{5, 0, 1}, 5, nil},
		{"no node, which is d, below", []int{-1, 0, 1}, -1, nil},
		{"d is just above", []int{1, 2, 1}, 3, []int{0, 1, 2}},
		{"d is just below", []int{1, 2, 1}, -1, []int{0, 1, 2}},
		{"d is far below", []int{1, 1}, math.MinInt, []int{0, 1}},
		{"d is far above", []int{1, 1}, math.MaxInt, []int{0, 1}},
		{"the most nodes, all in one loop", ten, 10, []int{0, 1, 2, 3, 4, 5, 6, 7, 8, 9}},
		{"the most nodes, with d in the loop", ten, 4, nil},
		{"the most nodes, with d the first of the loop", ten, 0, nil},
		{"the most nodes, with d the last of the loop", ten, 9, nil},
		{"the longest chain, which is discarded", []int{1, 2, 3, 4, 5, 6, 7, 8, 9, 10}, 10, nil},
		{"the longest chain, which is discarded, downward", []int{-1, 0, 1, 2, 3, 4, 5, 6, 7, 8}, -1, nil},
		{"the longest chain, which is delivered", []int{1, 2, 3, 4, 5, 6, 7, 8, 9, 9}, 9, nil},
		{"the longest chain into a loop", []int{1, 2, 3, 4, 5, 6, 7, 8, 9, 9}, 10, []int{0, 1, 2, 3, 4, 5, 6, 7, 8, 9}},
		{"one node more than allowed", slices.Repeat([]int{0}, 11), 5, nil},
		{"one node more than allowed, in one loop", append(slices.Clone(ten[:9]), 10, 0), 11, nil},
		{"many nodes more than allowed", slices.Repeat([]int{3}, 1000), 5, nil},
	}
	for _, c := range cases {
		if got := impl.LoopsIn(c.hops, c.d); !slices.Equal(got, c.want) {
			t.Errorf("%s: LoopsIn(%v, %d) is %v and not %v", c.why, c.hops, c.d, got, c.want)
		}
	}
}

// eachHops visits all forwarding functions on that many nodes, discarding below and above among them.
func eachHops(nodes int, visit func(hops []int)) {
	all := [][]int{nil}
	for range nodes {
		var longer [][]int
		for _, hops := range all {
			for hop := -1; hop <= nodes; hop++ {
				longer = append(longer, append(slices.Clone(hops), hop))
			}
		}
		all = longer
	}
	for _, hops := range all {
		visit(hops)
	}
}

func checkLoops(t *testing.T, hops []int, d int) {
	t.Helper()
	given, want := slices.Clone(hops), looping(hops, d)
	if got := impl.LoopsIn(hops, d); !slices.Equal(got, want) {
		t.Fatalf("LoopsIn(%v, %d) is %v and not %v", hops, d, got, want)
	}
	if !slices.Equal(hops, given) {
		t.Fatalf("LoopsIn changed its argument %v to %v", given, hops)
	}
}

func TestLoopsInAllHops(t *testing.T) {
	for nodes := range 6 {
		eachHops(nodes, func(hops []int) {
			for d := -1; d <= nodes; d++ {
				checkLoops(t, hops, d)
			}
		})
	}
}

func TestLoopsInHopsAtRandom(t *testing.T) {
	random := rand.New(rand.NewSource(113))
	for range 5000 {
		nodes := 5 + random.Intn(6)
		var hops []int
		for range nodes {
			hops = append(hops, random.Intn(nodes))
		}
		for range random.Intn(3) {
			hops[random.Intn(nodes)] = []int{-1, nodes, math.MinInt, math.MaxInt}[random.Intn(4)]
		}
		for d := -1; d <= nodes; d++ {
			checkLoops(t, hops, d)
		}
	}
}

func TestSafeOrderOfFewNodes(t *testing.T) {
	cases := []struct {
		why  string
		g    impl.Graph
		d    int
		want []int
	}{
		{"a single node", impl.Graph{Nodes: 1}, 0, []int{0}},
		{"no edges", impl.Graph{Nodes: 4}, 2, []int{2, 0, 1, 3}},
		{"no edges, to the first", impl.Graph{Nodes: 4}, 0, []int{0, 1, 2, 3}},
		{"no edges, to the last", impl.Graph{Nodes: 10}, 9, []int{9, 0, 1, 2, 3, 4, 5, 6, 7, 8}},
		{"all distances differ", cutSquare(), 3, []int{3, 2, 0, 1}},
		{"equal distances", square(), 3, []int{3, 1, 2, 0}},
		{"equal distances, to another node", square(), 1, []int{1, 0, 3, 2}},
		{"all at the same distance", complete(7, 3), 4, []int{4, 0, 1, 2, 3, 5, 6}},
		{"equal distances between others", fan(10, 2), 9, []int{9, 1, 2, 3, 4, 5, 6, 7, 8, 0}},
		{"equal distances by different ways", graphOf(5, edge(0, 4, 6), edge(1, 2, 3), edge(2, 4, 3), edge(3, 4, 6)), 4, []int{4, 2, 0, 1, 3}},
		{"two pairs of equal distances", loop(5), 2, []int{2, 1, 3, 0, 4}},
		{"a line", line(5, 1), 4, []int{4, 3, 2, 1, 0}},
		{"the distance to d counts, and not that from d", graphOf(3, edge(1, 0, 3), edge(2, 0, 1), edge(0, 1, 1), edge(0, 2, 3)), 0, []int{0, 2, 1}},
		{"only a way from d", line(5, 1), 0, []int{0, 1, 2, 3, 4}},
		{"the cost counts, and not the number of edges", graphOf(4, edge(0, 3, 9), edge(1, 2, 1), edge(2, 3, 1)), 3, []int{3, 2, 1, 0}},
		{"unreachable nodes", graphOf(6, edge(5, 3, 7), edge(1, 5, 7), edge(3, 0, 1), edge(2, 4, 1)), 3, []int{3, 5, 1, 0, 2, 4}},
		{"unreachable nodes, behind one in the middle", graphOf(6, edge(4, 2, 1000), edge(5, 4, 1000), edge(0, 1, 1), edge(1, 3, 1)), 2, []int{2, 4, 5, 0, 1, 3}},
		{"only one unreachable node", graphOf(3, edge(0, 2, 1), edge(1, 2, 1), edge(2, 0, 1)), 0, []int{0, 2, 1}},
		{"the longest way, and an unreachable node", graphOf(10, line(9, 1000).Edges...), 8, []int{8, 7, 6, 5, 4, 3, 2, 1, 0, 9}},
		{"the longest way", line(10, 1000), 9, []int{9, 8, 7, 6, 5, 4, 3, 2, 1, 0}},
		{"d is just below", square(), -1, nil},
		{"d is just above", square(), 4, nil},
		{"d is above all nodes", impl.Graph{Nodes: 10}, 10, nil},
		{"an invalid graph", impl.Graph{}, 0, nil},
		{"too many nodes", impl.Graph{Nodes: 11}, 3, nil},
	}
	for _, c := range cases {
		if got := impl.SafeOrder(c.g, c.d); !slices.Equal(got, c.want) {
			t.Errorf("%s: SafeOrder(%v, %d) is %v and not %v", c.why, c.g, c.d, got, c.want)
		}
	}
}

func TestSafeOrderByTheModel(t *testing.T) {
	for _, g := range hopGraphs(114, 300) {
		v := viewOf(g)
		for d := range g.Nodes {
			if got, want := impl.SafeOrder(g, d), v.order(d); !slices.Equal(got, want) {
				t.Fatalf("SafeOrder(%v, %d) is %v and not %v", g, d, got, want)
			}
		}
	}
}

func TestFirstLoopOfFewNodes(t *testing.T) {
	a, b := square(), cutSquare()
	// In the ring, 1 to 5 forward downward and 6 to 9 upward; once it is cut, all forward upward.
	ten, tenCut := loop(10), cut(loop(10), 0, 1)
	// To 0, all turn round; 3 has no path afterwards, or before.
	there, back := roads(4, 3, 2, 1, 0), roads(4, 0, 2, 1)
	cases := []struct {
		why   string
		a, b  impl.Graph
		order []int
		d     int
		want  int
	}{
		{"at the first node", a, b, []int{1, 0, 2, 3}, 3, 1},
		{"at the first node, which is the only one", a, b, []int{1}, 3, 1},
		{"at the first node, and not any more at the end", ten, tenCut, []int{4, 5, 3, 2, 1}, 0, 1},
		{"in the middle", a, b, []int{3, 1, 0, 2}, 3, 2},
		{"in the middle, next to the end", a, b, []int{3, 2, 1, 0}, 3, 3},
		{"in the middle, at the second of three loops", ten, tenCut, []int{5, 1, 3, 2, 4, 0, 6, 7, 8, 9}, 0, 2},
		{"in the middle of the most nodes", ten, tenCut, []int{0, 9, 8, 7, 5, 4, 2, 3, 1, 6}, 0, 7},
		{"late among the most nodes", ten, tenCut, []int{0, 9, 8, 7, 6, 5, 4, 3, 1, 2}, 0, 9},
		{"only at the whole order", a, b, []int{2, 1}, 3, 2},
		{"only at the whole order of three", a, b, []int{3, 2, 1}, 3, 3},
		{"only at the whole order of the longest", a, b, append(slices.Repeat([]int{2}, 9), 1), 3, 10},
		{"the part before it has none", a, b, []int{3, 2}, 3, -1},
		{"never", a, b, []int{0, 1, 2, 3}, 3, -1},
		{"never, in the safe order", a, b, []int{3, 2, 0, 1}, 3, -1},
		{"never, since the two nodes change after all", a, b, []int{0, 1}, 3, -1},
		{"never, of the most nodes", ten, tenCut, []int{0, 9, 8, 7, 6, 5, 4, 3, 2, 1}, 0, -1},
		{"never, of the most nodes in another order", ten, tenCut, []int{5, 4, 6, 3, 2, 9, 1, 0, 7, 8}, 0, -1},
		{"never, to another node", a, b, []int{1, 0, 2, 3}, 2, -1},
		{"never, as the graphs are equal", a, a, []int{1, 0, 2, 3}, 3, -1},
		{"never, back", b, a, []int{1, 0, 2, 3}, 3, -1},
		{"back, at the other node", b, a, []int{0, 1, 2, 3}, 3, 1},
		{"never, as nothing is done", a, b, nil, 3, -1},
		{"never, in an empty order", a, b, []int{}, 3, -1},
		{"never, with a single node", impl.Graph{Nodes: 1}, impl.Graph{Nodes: 1}, []int{0}, 0, -1},
		{"never, as no path is left", a, impl.Graph{Nodes: 4}, []int{1, 0, 2, 3}, 3, -1},
		{"never, as there was no path", impl.Graph{Nodes: 4}, a, []int{1, 0, 2, 3}, 3, -1},
		{"a node without a path afterwards, at the end", there, back, []int{1, 2, 0, 3}, 0, 1},
		{"a node without a path afterwards, first", there, back, []int{3, 1, 2, 0}, 0, 2},
		{"a node without a path afterwards, never", there, back, []int{3, 0, 2, 1}, 0, -1},
		{"a node without a path afterwards, in the safe order", there, back, []int{0, 2, 1, 3}, 0, -1},
		{"a node without a path before", back, there, []int{2, 1, 0, 3}, 0, 1},
		{"a node without a path before, first", back, there, []int{3, 2, 1, 0}, 0, 2},
		{"a node without a path before, in the safe order", back, there, []int{0, 1, 2, 3}, 0, -1},
		{"elements that are no nodes", a, b, []int{-1, 4, 1}, 3, 3},
		{"elements that are no nodes, and no others", a, b, []int{-1, 4, math.MinInt, math.MaxInt, 10}, 3, -1},
		{"an element that is no node, in between", a, b, []int{0, 9, 1}, 3, -1},
		{"repeated elements", a, b, []int{2, 2, 1, 1}, 3, 3},
		{"repeated elements, never", a, b, []int{0, 0, 1, 1, 0, 1}, 3, -1},
		{"the longest order", a, b, slices.Repeat([]int{2}, 10), 3, -1},
		{"the longest order, at the first node", a, b, slices.Repeat([]int{1}, 10), 3, 1},
		{"one longer", a, b, slices.Repeat([]int{2}, 11), 3, -2},
		{"one longer, with a loop at the first node", a, b, slices.Repeat([]int{1}, 11), 3, -2},
		{"one longer, all no nodes", a, b, slices.Repeat([]int{-1}, 11), 3, -2},
		{"much longer", a, b, slices.Repeat([]int{1}, 400), 3, -2},
		{"the first graph is invalid", impl.Graph{}, b, []int{1}, 3, -2},
		{"the second graph is invalid", a, impl.Graph{}, nil, 3, -2},
		{"both graphs are invalid", impl.Graph{}, impl.Graph{}, nil, 0, -2},
		{"the second graph has one node less", a, smaller(b, 3), []int{1}, 2, -2},
		{"the first graph has one node less", smaller(a, 3), b, []int{1}, 2, -2},
		{"d is just below", a, b, []int{1}, -1, -2},
		{"d is just above", a, b, []int{1}, 4, -2},
		{"d is just above, in an empty order", a, b, nil, 4, -2},
	}
	for _, c := range cases {
		if got := impl.FirstLoop(c.a, c.b, c.order, c.d); got != c.want {
			t.Errorf("%s: FirstLoop(%v, %v, %v, %d) is %d and not %d", c.why, c.a, c.b, c.order, c.d, got, c.want)
		}
	}
}

func TestFirstLoopByTheModel(t *testing.T) {
	random := rand.New(rand.NewSource(115))
	found := map[int]int{}
	for _, pair := range graphPairs(115, 50, impl.MaxNodes) {
		m := migrationOf(pair[0], pair[1])
		for d := range m.a.Nodes {
			lists := append(someDone(random, m.a.Nodes, 3), random.Perm(m.a.Nodes), random.Perm(m.a.Nodes))
			for _, order := range lists {
				order = order[:min(len(order), impl.MaxNodes)]
				got, want := impl.FirstLoop(m.a, m.b, order, d), m.firstLoop(order, d)
				if got != want {
					t.Fatalf("FirstLoop(%v, %v, %v, %d) is %d and not %d", m.a, m.b, order, d, got, want)
				}
				found[got]++
			}
		}
	}
	for k := 1; k < 9; k++ {
		if found[k] == 0 {
			t.Errorf("no loop came first at %d", k)
		}
	}
	// Nothing is updated then, and the ways of one graph have no loop.
	if found[0] > 0 || found[-1] == 0 {
		t.Errorf("%d loops came first at 0, and %d orders have none", found[0], found[-1])
	}
}

func TestCountBadOfFewNodes(t *testing.T) {
	down := roads(4, 3, 2, 1, 0)
	cases := []struct {
		why  string
		a, b impl.Graph
		d    int
		want int
	}{
		{"a single node", impl.Graph{Nodes: 1}, impl.Graph{Nodes: 1}, 0, 0},
		{"two nodes", roads(2, 0, 1), impl.Graph{Nodes: 2}, 1, 0},
		{"equal graphs", square(), square(), 3, 0},
		{"equal graphs of six nodes", complete(6, 1), complete(6, 1), 5, 0},
		{"no path is left", complete(6, 1), impl.Graph{Nodes: 6}, 5, 0},
		{"there was no path", impl.Graph{Nodes: 6}, complete(6, 1), 5, 0},
		{"two nodes turn to each other", square(), cutSquare(), 3, 12},
		{"two nodes turn to each other, back", cutSquare(), square(), 3, 12},
		{"no loop to another node", square(), cutSquare(), 2, 0},
		{"three nodes turn round", down, roads(4, 1, 2, 3, 0), 0, 20},
		{"three nodes turn round, back", roads(4, 1, 2, 3, 0), down, 0, 20},
		{"two nodes turn round and one is lost", down, roads(4, 0, 2, 1), 0, 12},
		{"two nodes turn round and one is found", roads(4, 0, 2, 1), down, 0, 12},
		{"three of six nodes turn round", loop(6), cut(loop(6), 0, 1), 0, 600},
		{"five of six nodes turn round", roads(6, 5, 4, 3, 2, 1, 0), roads(6, 1, 2, 3, 4, 5, 0), 0, 714},
		{"seven nodes", loop(7), cut(loop(7), 0, 1), 0, -1},
		{"seven nodes, equal graphs", complete(7, 1), complete(7, 1), 0, -1},
		{"seven nodes, without edges", impl.Graph{Nodes: 7}, impl.Graph{Nodes: 7}, 0, -1},
		{"the most nodes", loop(10), cut(loop(10), 0, 1), 0, -1},
		{"six and seven nodes", loop(6), loop(7), 0, -1},
		{"five and six nodes", loop(5), loop(6), 0, -1},
		{"six and five nodes", loop(6), loop(5), 0, -1},
		{"the first graph is invalid", impl.Graph{}, square(), 3, -1},
		{"the second graph is invalid", square(), impl.Graph{}, 3, -1},
		{"both graphs are invalid", impl.Graph{}, impl.Graph{}, 0, -1},
		{"d is just below", square(), cutSquare(), -1, -1},
		{"d is just above", square(), cutSquare(), 4, -1},
	}
	for _, c := range cases {
		if got := impl.CountBad(c.a, c.b, c.d); got != c.want {
			t.Errorf("%s: CountBad(%v, %v, %d) is %d and not %d", c.why, c.a, c.b, c.d, got, c.want)
		}
	}
}

// TestCountBadByTheSets also holds that there is always an order without a loop.
func TestCountBadByTheSets(t *testing.T) {
	some := 0
	for _, pair := range graphPairs(116, 40, 6) {
		m := migrationOf(pair[0], pair[1])
		for d := range m.a.Nodes {
			got, want := impl.CountBad(m.a, m.b, d), m.bad(d)
			if got != want {
				t.Fatalf("CountBad(%v, %v, %d) is %d and not %d", m.a, m.b, d, got, want)
			}
			if got == orders(m.a.Nodes) {
				t.Fatalf("CountBad(%v, %v, %d) is %d: all orders are bad", m.a, m.b, d, got)
			}
			some += min(got, 1)
		}
	}
	if some < 100 {
		t.Errorf("only %d updates have bad orders", some)
	}
}

func permutations(list []int) [][]int {
	if len(list) == 0 {
		return [][]int{{}}
	}
	var all [][]int
	for _, shorter := range permutations(list[1:]) {
		for i := range len(shorter) + 1 {
			all = append(all, slices.Insert(slices.Clone(shorter), i, list[0]))
		}
	}
	return all
}

// TestCountBadByFirstLoop asks the program itself about each order.
func TestCountBadByFirstLoop(t *testing.T) {
	for _, pair := range graphPairs(117, 5, 5) {
		a, b := pair[0], pair[1]
		d := len(a.Edges) % a.Nodes
		want := 0
		for _, order := range permutations(impl.SafeOrder(b, d)) {
			if impl.FirstLoop(a, b, order, d) != -1 {
				want++
			}
		}
		if got := impl.CountBad(a, b, d); got != want {
			t.Fatalf("CountBad(%v, %v, %d) is %d and not %d", a, b, d, got, want)
		}
	}
}

// checkSafe is promise 11, and looks at each step of the order as well.
func checkSafe(t *testing.T, m *migration, d int) {
	t.Helper()
	order := impl.SafeOrder(m.b, d)
	if sorted := slices.Sorted(slices.Values(order)); len(sorted) != m.b.Nodes || sorted[0] != 0 || len(slices.Compact(sorted)) != m.b.Nodes || slices.Max(order) != m.b.Nodes-1 {
		t.Fatalf("SafeOrder(%v, %d) is %v and not all nodes", m.b, d, order)
	}
	if got := impl.FirstLoop(m.a, m.b, order, d); got != -1 {
		t.Fatalf("FirstLoop(%v, %v, %v, %d) is %d, though the order is safe", m.a, m.b, order, d, got)
	}
	for k := range len(order) + 1 {
		hops := impl.MixedHops(m.a, m.b, order[:k], d)
		if loops := append(impl.LoopsIn(hops, d), looping(m.mixed(order[:k], d), d)...); len(loops) > 0 {
			t.Fatalf("after %d of %v there are loops at %v from %v to %v, to %d", k, order, loops, m.a, m.b, d)
		}
	}
}

func TestSafeOrderNeverLoops(t *testing.T) {
	updates, losses, loops := 0, 0, 0
	for _, pair := range append(graphPairs(118, 40, impl.MaxNodes), graphPairs(119, 100, 6)...) {
		there := migrationOf(pair[0], pair[1])
		for _, m := range []*migration{there, there.back()} {
			for d := range m.a.Nodes {
				checkSafe(t, m, d)
				updates++
				losses += min(1, m.losses(d))
				turned := impl.SafeOrder(m.b, d)
				slices.Reverse(turned)
				loops += min(1, 1+impl.FirstLoop(m.a, m.b, turned, d))
			}
		}
	}
	if updates < 5000 || losses < 1000 || loops < 1000 {
		t.Errorf("of %d updates, %d lose paths and %d loop if the order is reversed", updates, losses, loops)
	}
}

// TestSafeOrderOfAllSmallGraphs looks at all pairs of graphs with three nodes and two costs.
func TestSafeOrderOfAllSmallGraphs(t *testing.T) {
	links := [][2]int{{0, 1}, {0, 2}, {1, 0}, {1, 2}, {2, 0}, {2, 1}}
	var graphs []impl.Graph
	for code := range 729 {
		g := impl.Graph{Nodes: 3}
		for _, link := range links {
			if cost := code % 3; cost > 0 {
				g.Edges = append(g.Edges, edge(link[0], link[1], cost))
			}
			code /= 3
		}
		graphs = append(graphs, g)
	}
	for i, a := range graphs {
		for j := i % 7; j < len(graphs); j += 7 {
			d := (i + j) % 3
			if got := impl.FirstLoop(a, graphs[j], impl.SafeOrder(graphs[j], d), d); got != -1 {
				t.Fatalf("FirstLoop(%v, %v, %v, %d) is %d", a, graphs[j], impl.SafeOrder(graphs[j], d), d, got)
			}
		}
	}
}

// checkNoUpdate expects arguments that no function of two graphs accepts.
func checkNoUpdate(t *testing.T, why string, a, b impl.Graph, d int) {
	t.Helper()
	for _, list := range [][]int{nil, {0}, {d}, {1, 0}, {0, 1, 2, 3, 4, 5, 6, 7, 8, 9}, slices.Repeat([]int{0}, 11), slices.Repeat([]int{0}, 301)} {
		if got := impl.MixedHops(a, b, list, d); len(got) != 0 {
			t.Errorf("%s: MixedHops(%v, %v, %v, %d) is %v", why, a, b, list, d, got)
		}
		if got := impl.FirstLoop(a, b, list, d); got != -2 {
			t.Errorf("%s: FirstLoop(%v, %v, %v, %d) is %d", why, a, b, list, d, got)
		}
	}
	if got := impl.CountBad(a, b, d); got != -1 {
		t.Errorf("%s: CountBad(%v, %v, %d) is %d", why, a, b, d, got)
	}
}

func TestOrdersOfBadGraphs(t *testing.T) {
	for _, g := range badGraphs() {
		for _, d := range []int{0, 1, 2, 9, -1, 10, g.Nodes, math.MinInt, math.MaxInt} {
			for _, x := range []int{0, 1, d, 9} {
				if got := impl.HopOf(g, x, d); got != -1 {
					t.Errorf("HopOf(%v, %d, %d) is %d", g, x, d, got)
				}
			}
			if got := impl.SafeOrder(g, d); len(got) != 0 {
				t.Errorf("SafeOrder(%v, %d) is %v", g, d, got)
			}
			checkNoUpdate(t, "two bad graphs", g, g, d)
			for _, good := range []impl.Graph{{Nodes: 1}, {Nodes: 2}, {Nodes: 3}, {Nodes: 10}, ring(3, 1), ring(10, 1)} {
				checkNoUpdate(t, "the second graph is bad", good, g, d)
				checkNoUpdate(t, "the first graph is bad", g, good, d)
			}
		}
	}
}

func TestOrdersAtNoNodes(t *testing.T) {
	for _, g := range goodGraphs() {
		for _, no := range noNodes(g.Nodes) {
			for _, x := range []int{0, g.Nodes - 1, no} {
				if impl.HopOf(g, no, x) != -1 || impl.HopOf(g, x, no) != -1 {
					t.Errorf("HopOf(%v) of %d and %d, which is not a node, is not -1", g, x, no)
				}
			}
			if got := impl.SafeOrder(g, no); len(got) != 0 {
				t.Errorf("SafeOrder(%v, %d) is %v", g, no, got)
			}
			checkNoUpdate(t, "d is no node", g, g, no)
			checkNoUpdate(t, "d is no node", impl.Graph{Nodes: g.Nodes}, g, no)
		}
	}
}

func TestOrdersOfDifferentSizes(t *testing.T) {
	for _, g := range goodGraphs() {
		for _, h := range goodGraphs() {
			if g.Nodes == h.Nodes {
				continue
			}
			for _, d := range []int{0, min(g.Nodes, h.Nodes) - 1, max(g.Nodes, h.Nodes) - 1} {
				checkNoUpdate(t, "different sizes", g, h, d)
			}
		}
	}
}

// orderLists are the results of all functions of chapter 11, refused calls among them.
func orderLists(a, b impl.Graph, done, hops []int) [][]int {
	var numbers []int
	var lists [][]int
	for _, d := range []int{-1, 0, 1, 2, 3, 10} {
		lists = append(lists, impl.MixedHops(a, b, done, d), impl.MixedHops(b, a, nil, d))
		lists = append(lists, impl.LoopsIn(hops, d), impl.LoopsIn(done, d), impl.SafeOrder(a, d), impl.SafeOrder(b, d))
		numbers = append(numbers, impl.FirstLoop(a, b, done, d), impl.FirstLoop(b, a, hops, d), impl.HopOf(a, 1, d), impl.HopOf(b, d, 0))
	}
	numbers = append(numbers, impl.CountBad(a, b, 0), impl.CountBad(b, a, 1))
	return append(lists, numbers)
}

// padded has the list in the middle of its array, so that a write beside it shows too.
func padded[T any](list []T, pad T) (array, middle []T) {
	n := len(list)
	array = slices.Repeat([]T{pad}, n+6)
	copy(array[2:], list)
	return array, array[2 : n+2]
}

func TestOrdersAreNewMemory(t *testing.T) {
	pairs := append(graphPairs(120, 10, impl.MaxNodes), graphPairs(121, 10, 5)...)
	for _, bad := range badGraphs() {
		pairs = append(pairs, [2]impl.Graph{bad, bad}, [2]impl.Graph{ring(3, 1), bad})
	}
	for _, pair := range pairs {
		aEdges, aList := padded(pair[0].Edges, edge(8, 8, 8))
		bEdges, bList := padded(pair[1].Edges, edge(9, 9, 9))
		doneArray, done := padded([]int{1, 0, 2, 1, -1, 10}, 77)
		hopsArray, hops := padded([]int{1, 0, 1, -1, 3, 4}, 78)
		aWhole, bWhole, doneWhole, hopsWhole := slices.Clone(aEdges), slices.Clone(bEdges), slices.Clone(doneArray), slices.Clone(hopsArray)
		unchanged := func() bool {
			return slices.Equal(aEdges, aWhole) && slices.Equal(bEdges, bWhole) && slices.Equal(doneArray, doneWhole) && slices.Equal(hopsArray, hopsWhole)
		}
		a, b := impl.Graph{Nodes: pair[0].Nodes, Edges: aList}, impl.Graph{Nodes: pair[1].Nodes, Edges: bList}
		results := graphResults{lists: orderLists(a, b, done, hops)}
		if !unchanged() {
			t.Fatalf("an argument was changed, at %v", pair)
		}
		if !results.ownMemory() {
			t.Fatalf("results for %v share memory with each other", pair)
		}
		if !unchanged() {
			t.Fatalf("a result shares memory with an argument, at %v", pair)
		}
		if !equalLists(orderLists(a, b, done, hops), orderLists(pair[0], pair[1], slices.Clone(done), slices.Clone(hops))) {
			t.Fatalf("results for %v depend on what was done with earlier ones", pair)
		}
	}
}

// TestOrdersKeepNothing: what was found out about one update is not used for another one, even if its
// graphs lie in the same memory.
func TestOrdersKeepNothing(t *testing.T) {
	pairs := graphPairs(122, 10, 6)
	done, hops := []int{0, 2, 1}, []int{2, 0, 1}
	var first [][][]int
	for _, pair := range pairs {
		first = append(first, orderLists(pair[0], pair[1], done, hops))
	}
	aEdges, bEdges := make([]impl.Edge, impl.MaxEdges), make([]impl.Edge, impl.MaxEdges)
	for i := len(pairs) - 1; i >= 0; i-- {
		a, b := pairs[i][0], pairs[i][1]
		a.Edges, b.Edges = aEdges[:copy(aEdges, a.Edges)], bEdges[:copy(bEdges, b.Edges)]
		if again := orderLists(a, b, done, hops); !equalLists(again, first[i]) {
			t.Fatalf("the results for %v are %v and then %v", pairs[i], first[i], again)
		}
	}
}
