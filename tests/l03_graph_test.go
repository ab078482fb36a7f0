package tests

import (
	"math"
	"math/rand"
	"slices"
	"testing"

	"loop.example/g00681/impl"
)

func edge(from, to, cost int) impl.Edge {
	return impl.Edge{From: from, To: to, Cost: cost}
}

// graphOf sorts the edges by a way of its own.
func graphOf(nodes int, edges ...impl.Edge) impl.Graph {
	sorted := slices.Clone(edges)
	slices.SortFunc(sorted, func(a, b impl.Edge) int { return a.From*100 + a.To - b.From*100 - b.To })
	return impl.Graph{Nodes: nodes, Edges: sorted}
}

// roadsOf has an edge of the same cost in both directions for every edge.
func roadsOf(nodes int, edges ...impl.Edge) impl.Graph {
	both := slices.Clone(edges)
	for _, e := range edges {
		both = append(both, edge(e.To, e.From, e.Cost))
	}
	return graphOf(nodes, both...)
}

func equalGraphs(a, b impl.Graph) bool {
	return a.Nodes == b.Nodes && slices.Equal(a.Edges, b.Edges)
}

// someEdges has n of all pairs of distinct nodes, taken in steps so that they are spread. The number
// of all pairs is no multiple of 11, so that none is taken twice.
func someEdges(nodes, n int, cost func(i int) int) impl.Graph {
	var all []impl.Edge
	for from := range nodes {
		for to := range nodes {
			if from != to {
				all = append(all, edge(from, to, 1))
			}
		}
	}
	var edges []impl.Edge
	for i := range n {
		e := all[i*11%len(all)]
		edges = append(edges, edge(e.From, e.To, cost(i)))
	}
	return graphOf(nodes, edges...)
}

func always(cost int) func(int) int {
	return func(int) int { return cost }
}

// forward has an edge from each node to each later one, and it costs as much as they are apart: all
// paths between two nodes cost the same.
func forward(nodes int) impl.Graph {
	var edges []impl.Edge
	for to := range nodes {
		for from := range to {
			edges = append(edges, edge(from, to, to-from))
		}
	}
	return graphOf(nodes, edges...)
}

// line leads from node 0 to the last one.
func line(nodes, cost int) impl.Graph {
	var edges []impl.Edge
	for x := range nodes - 1 {
		edges = append(edges, edge(x, x+1, cost))
	}
	return graphOf(nodes, edges...)
}

func ring(nodes, cost int) impl.Graph {
	g := line(nodes, cost)
	return graphOf(nodes, append(g.Edges, edge(nodes-1, 0, cost))...)
}

func randomGraph(random *rand.Rand, most int) impl.Graph {
	nodes := 1 + random.Intn(impl.MaxNodes)
	n := random.Intn(min(nodes*(nodes-1), impl.MaxEdges) + 1)
	taken := map[[2]int]bool{}
	var edges []impl.Edge
	for len(edges) < n {
		from, to := random.Intn(nodes), random.Intn(nodes)
		if from != to && !taken[[2]int{from, to}] {
			taken[[2]int{from, to}] = true
			edges = append(edges, edge(from, to, 1+random.Intn(most)))
		}
	}
	return graphOf(nodes, edges...)
}

func goodGraphs() []impl.Graph {
	return []impl.Graph{
		{Nodes: 1},
		{Nodes: 1, Edges: []impl.Edge{}},
		{Nodes: 2},
		{Nodes: impl.MaxNodes},
		graphOf(2, edge(0, 1, 1)),
		graphOf(2, edge(1, 0, 1000)),
		graphOf(2, edge(0, 1, 3), edge(1, 0, 5)),
		graphOf(4, edge(2, 3, 1), edge(3, 2, 1)), // node 0 has no edge
		roadsOf(4, edge(0, 1, 1), edge(0, 2, 1), edge(0, 3, 3), edge(1, 3, 1), edge(2, 3, 1)),
		roadsOf(5, edge(0, 1, 2), edge(1, 2, 2), edge(3, 4, 7)), // two parts
		graphOf(3, edge(0, 2, 2), edge(0, 1, 1), edge(1, 2, 1)), // ties of different lengths
		line(10, 1),
		line(10, 1000),
		ring(10, 1),
		ring(3, 1000),
		forward(2),
		forward(6),
		forward(10),
		someEdges(8, 56, always(1)),
		someEdges(10, 59, always(1)),
		someEdges(10, impl.MaxEdges, always(1)),
		someEdges(10, impl.MaxEdges, always(1000)),
		someEdges(10, impl.MaxEdges, func(i int) int { return 1 + i%3 }),
		someEdges(10, impl.MaxEdges, func(i int) int { return 1 + i*i*37%1000 }),
	}
}

// manyGraphs adds random graphs with many ties and with few.
func manyGraphs(seed int64, n int) []impl.Graph {
	random := rand.New(rand.NewSource(seed))
	graphs := goodGraphs()
	for i := range n {
		graphs = append(graphs, randomGraph(random, []int{1, 2, 4, 30, 1000}[i%5]))
	}
	return graphs
}

func badEdges(nodes int) []impl.Edge {
	return []impl.Edge{
		edge(0, 1, 0), edge(0, 1, -1), edge(0, 1, 1001), edge(0, 1, impl.Far), edge(0, 1, math.MinInt), edge(0, 1, math.MaxInt),
		edge(0, 0, 1), edge(1, 1, 1), edge(nodes-1, nodes-1, 1),
		edge(-1, 0, 1), edge(0, -1, 1), edge(nodes, 0, 1), edge(0, nodes, 1), edge(nodes, nodes+1, 1), edge(-2, -1, 1),
		edge(math.MinInt, 0, 1), edge(0, math.MinInt, 1), edge(math.MaxInt, 0, 1), edge(0, math.MaxInt, 1),
		{},
	}
}

func badGraphs() []impl.Graph {
	bad := []impl.Graph{
		{},
		{Nodes: -1},
		{Nodes: impl.MaxNodes + 1},
		{Nodes: math.MinInt},
		{Nodes: math.MaxInt},
		{Nodes: 0, Edges: []impl.Edge{edge(0, 1, 1)}},
		{Nodes: 1, Edges: []impl.Edge{edge(0, 1, 1)}},
		{Nodes: 11, Edges: line(11, 1).Edges},
		someEdges(10, impl.MaxEdges+1, always(1)),
		someEdges(10, 90, always(1)),
		{Nodes: 3, Edges: []impl.Edge{edge(1, 2, 1), edge(0, 1, 1)}},                // by From
		{Nodes: 3, Edges: []impl.Edge{edge(0, 2, 1), edge(0, 1, 1)}},                // by To
		{Nodes: 3, Edges: []impl.Edge{edge(0, 1, 1), edge(2, 0, 1), edge(1, 2, 1)}}, // by From, but not by To
		{Nodes: 3, Edges: []impl.Edge{edge(1, 0, 1), edge(2, 0, 1), edge(0, 1, 1)}}, // by To, but not by From
		{Nodes: 3, Edges: []impl.Edge{edge(0, 1, 1), edge(0, 1, 1)}},
		{Nodes: 3, Edges: []impl.Edge{edge(0, 1, 1), edge(0, 1, 2)}},
		{Nodes: 3, Edges: []impl.Edge{edge(0, 1, 2), edge(0, 1, 1), edge(1, 2, 1)}},
	}
	for _, nodes := range []int{2, 3, 10} {
		for _, e := range badEdges(nodes) {
			bad = append(bad, impl.Graph{Nodes: nodes, Edges: []impl.Edge{e}}, graphOf(nodes, e, edge(1, 0, 1)))
		}
	}
	return bad
}

// noNodes are numbers that are no nodes of a graph.
func noNodes(nodes int) []int {
	return []int{math.MinInt, -nodes, -2, -1, nodes, nodes + 1, 2 * nodes, impl.MaxNodes, impl.MaxNodes + 1, impl.Far, math.MaxInt}
}

// eachPath visits every path from a node in which no node occurs twice. All paths of smallest cost
// are among them, since every edge has a cost.
func eachPath(g impl.Graph, from int, visit func(path []int, cost int)) {
	var on func(path []int, cost int)
	on = func(path []int, cost int) {
		visit(path, cost)
		for _, e := range g.Edges {
			if e.From == path[len(path)-1] && !slices.Contains(path, e.To) {
				on(append(slices.Clone(path), e.To), cost+e.Cost)
			}
		}
	}
	on([]int{from}, 0)
}

// best is what looking at all paths shows about those to one node.
type best struct {
	cost int
	ways int
	path []int
}

func bestPaths(g impl.Graph, from int) []best {
	found := slices.Repeat([]best{{cost: impl.Far}}, g.Nodes)
	eachPath(g, from, func(path []int, cost int) {
		b := &found[path[len(path)-1]]
		if cost < b.cost {
			*b = best{cost: cost}
		}
		if cost > b.cost {
			return
		}
		b.ways++
		shorter := b.path == nil || len(path) < len(b.path)
		if shorter || len(path) == len(b.path) && slices.Compare(path, b.path) < 0 {
			b.path = path
		}
	})
	return found
}

func TestGraphLimits(t *testing.T) {
	if impl.MaxNodes != 10 || impl.MaxCost != 1000 || impl.MaxEdges != 60 || impl.Far != 1000000 {
		t.Errorf("the limits are %d, %d, %d, %d", impl.MaxNodes, impl.MaxCost, impl.MaxEdges, impl.Far)
	}
}

func TestGraphOk(t *testing.T) {
	for _, g := range manyGraphs(20, 100) {
		if !impl.GraphOk(g) {
			t.Errorf("GraphOk(%v) is false", g)
		}
	}
	for _, g := range badGraphs() {
		if impl.GraphOk(g) {
			t.Errorf("GraphOk(%v) is true", g)
		}
	}
	for nodes := -3; nodes <= 15; nodes++ {
		if impl.GraphOk(impl.Graph{Nodes: nodes}) != (nodes >= 1 && nodes <= 10) {
			t.Errorf("GraphOk with %d nodes", nodes)
		}
	}
	for n := range 91 {
		if impl.GraphOk(someEdges(10, n, always(5))) != (n <= 60) {
			t.Errorf("GraphOk with %d edges", n)
		}
	}
}

func TestGraphOkOfEveryOrder(t *testing.T) {
	edges := someEdges(3, 6, always(4)).Edges
	for i, a := range edges {
		for j, b := range edges {
			for k, c := range edges {
				if impl.GraphOk(impl.Graph{Nodes: 3, Edges: []impl.Edge{a, b, c}}) != (i < j && j < k) {
					t.Errorf("GraphOk of the edges %d, %d, %d", i, j, k)
				}
			}
		}
	}
}

func TestGraphOkOfEveryEdge(t *testing.T) {
	for from := -2; from <= 12; from++ {
		for to := -2; to <= 12; to++ {
			for _, cost := range []int{-1, 0, 1, 2, 999, 1000, 1001, impl.Far} {
				for nodes := 1; nodes <= 10; nodes++ {
					want := from >= 0 && from < nodes && to >= 0 && to < nodes && from != to && cost >= 1 && cost <= 1000
					if impl.GraphOk(graphOf(nodes, edge(from, to, cost))) != want {
						t.Fatalf("GraphOk of %d nodes with the edge %d, %d, %d is not %v", nodes, from, to, cost, want)
					}
				}
			}
		}
	}
	full := someEdges(10, impl.MaxEdges, always(3))
	for i, e := range full.Edges {
		for _, bad := range []impl.Edge{edge(e.From, e.To, 0), edge(e.From, e.To, 1001), edge(e.From, e.From, 3), edge(e.From, 10, 3), edge(-1, e.To, 3)} {
			full.Edges[i] = bad
			if impl.GraphOk(full) {
				t.Errorf("GraphOk with %v as edge %d", bad, i)
			}
		}
		full.Edges[i] = e
	}
}

func TestCostOf(t *testing.T) {
	for _, g := range manyGraphs(21, 40) {
		for from := -2; from <= 12; from++ {
			for to := -2; to <= 12; to++ {
				want := impl.Far
				if from == to && from >= 0 && from < g.Nodes {
					want = 0
				}
				for _, e := range g.Edges {
					if e.From == from && e.To == to {
						want = e.Cost
					}
				}
				if got := impl.CostOf(g, from, to); got != want {
					t.Fatalf("CostOf(%v, %d, %d) is %d and not %d", g, from, to, got, want)
				}
			}
		}
		for _, no := range noNodes(g.Nodes) {
			for _, x := range []int{0, g.Nodes - 1, no} {
				if impl.CostOf(g, no, x) != impl.Far || impl.CostOf(g, x, no) != impl.Far {
					t.Errorf("CostOf(%v) of %d and %d, which is not a node, is not Far", g, x, no)
				}
			}
		}
	}
}

func TestFewNodes(t *testing.T) {
	cases := []struct {
		why       string
		g         impl.Graph
		distances []int // from node 0
		ways      int   // from node 0 to the last one
		way       []int
	}{
		{"a single node", impl.Graph{Nodes: 1}, []int{0}, 1, []int{0}},
		{"no edges", impl.Graph{Nodes: 3}, []int{0, impl.Far, impl.Far}, 0, nil},
		{"an edge of the wrong direction", graphOf(2, edge(1, 0, 4)), []int{0, impl.Far}, 0, nil},
		{"an edge", graphOf(2, edge(0, 1, 4), edge(1, 0, 2)), []int{0, 4}, 1, []int{0, 1}},
		{"a part that cannot be reached", roadsOf(4, edge(0, 3, 4), edge(1, 2, 1)), []int{0, impl.Far, impl.Far, 4}, 1, []int{0, 3}},
		{"a part that only leads here", graphOf(3, edge(1, 0, 1), edge(2, 1, 1), edge(1, 2, 1)), []int{0, impl.Far, impl.Far}, 0, nil},
		{"a detour is cheaper", graphOf(4, edge(0, 3, 10), edge(0, 2, 3), edge(2, 1, 3), edge(1, 3, 3)), []int{0, 6, 3, 9}, 1, []int{0, 2, 1, 3}},
		{"a tie of equally many nodes", graphOf(4, edge(0, 1, 5), edge(0, 2, 1), edge(1, 3, 1), edge(2, 3, 5)), []int{0, 5, 1, 6}, 2, []int{0, 1, 3}},
		{"a tie of fewer nodes", graphOf(4, edge(0, 1, 1), edge(1, 2, 1), edge(2, 3, 1), edge(0, 3, 3)), []int{0, 1, 2, 3}, 2, []int{0, 3}},
		{"fewer nodes, though greater ones", graphOf(5, edge(0, 1, 1), edge(1, 2, 1), edge(2, 4, 1), edge(0, 3, 2), edge(3, 4, 1)), []int{0, 1, 2, 2, 3}, 2, []int{0, 3, 4}},
		{"fewer nodes, but at a greater cost", graphOf(4, edge(0, 1, 1), edge(1, 2, 1), edge(2, 3, 1), edge(0, 3, 4)), []int{0, 1, 2, 3}, 1, []int{0, 1, 2, 3}},
		{"a smaller node later decides less than a smaller one at first", graphOf(6, edge(0, 1, 1), edge(0, 2, 1), edge(1, 4, 1), edge(2, 3, 1), edge(3, 5, 1), edge(4, 5, 1)), []int{0, 1, 1, 2, 2, 3}, 2, []int{0, 1, 4, 5}},
		{"ties of both kinds, one after the other", graphOf(6, edge(0, 1, 1), edge(0, 2, 1), edge(1, 3, 1), edge(2, 3, 1), edge(3, 4, 1), edge(4, 5, 1), edge(3, 5, 2)), []int{0, 1, 1, 2, 3, 4}, 4, []int{0, 1, 3, 5}},
		{"the last edge makes up for more nodes", graphOf(5, edge(0, 1, 4), edge(0, 2, 1), edge(2, 3, 1), edge(3, 1, 1), edge(1, 4, 1)), []int{0, 3, 1, 2, 4}, 1, []int{0, 2, 3, 1, 4}},
		{"the greatest cost", line(10, 1000), []int{0, 1000, 2000, 3000, 4000, 5000, 6000, 7000, 8000, 9000}, 1, []int{0, 1, 2, 3, 4, 5, 6, 7, 8, 9}},
		{"the most paths", forward(10), []int{0, 1, 2, 3, 4, 5, 6, 7, 8, 9}, 256, []int{0, 9}},
	}
	for _, c := range cases {
		last := c.g.Nodes - 1
		if got := impl.Distances(c.g, 0); !slices.Equal(got, c.distances) {
			t.Errorf("%s: Distances is %v", c.why, got)
		}
		if got := impl.CountWays(c.g, 0, last); got != c.ways {
			t.Errorf("%s: CountWays is %d", c.why, got)
		}
		if got, ok := impl.CheapestWay(c.g, 0, last); ok != (c.way != nil) || !slices.Equal(got, c.way) {
			t.Errorf("%s: CheapestWay is %v, %v", c.why, got, ok)
		}
		if impl.Linked(c.g) == slices.Contains(c.distances, impl.Far) {
			t.Errorf("%s: Linked is %v", c.why, impl.Linked(c.g))
		}
	}
}

// TestShortestPaths compares all that is said of shortest paths with a look at all paths.
func TestShortestPaths(t *testing.T) {
	for _, g := range manyGraphs(22, 300) {
		all := impl.AllDistances(g)
		if len(all) != g.Nodes {
			t.Fatalf("AllDistances(%v) is %v", g, all)
		}
		for from := range g.Nodes {
			distances := impl.Distances(g, from)
			if len(distances) != g.Nodes || !slices.Equal(all[from], distances) {
				t.Fatalf("Distances(%v, %d) is %v, but %v in AllDistances", g, from, distances, all[from])
			}
			for to, want := range bestPaths(g, from) {
				if distances[to] != want.cost {
					t.Fatalf("Distances(%v, %d) is %v, but to %d it is %d", g, from, distances, to, want.cost)
				}
				if got := impl.CountWays(g, from, to); got != want.ways {
					t.Fatalf("CountWays(%v, %d, %d) is %d and not %d", g, from, to, got, want.ways)
				}
				if got, ok := impl.CheapestWay(g, from, to); ok != (want.path != nil) || !slices.Equal(got, want.path) {
					t.Fatalf("CheapestWay(%v, %d, %d) is %v, %v and not %v", g, from, to, got, ok, want.path)
				}
			}
		}
	}
}

func TestDistancesGuarantee(t *testing.T) {
	for _, g := range manyGraphs(23, 200) {
		d := impl.AllDistances(g)
		for x := range g.Nodes {
			if d[x][x] != 0 {
				t.Fatalf("in %v node %d is %d from itself", g, x, d[x][x])
			}
			for y := range g.Nodes {
				if d[x][y] > impl.CostOf(g, x, y) {
					t.Fatalf("in %v the distance from %d to %d is %d, more than the edge", g, x, y, d[x][y])
				}
				for z := range g.Nodes {
					if d[x][z] > d[x][y]+d[y][z] {
						t.Fatalf("in %v the distance from %d to %d is %d, but less by way of %d", g, x, z, d[x][z], y)
					}
				}
				way, ok := impl.CheapestWay(g, x, y)
				if ok != (d[x][y] != impl.Far) {
					t.Fatalf("in %v the distance from %d to %d is %d, but CheapestWay returns %v", g, x, y, d[x][y], ok)
				}
				if ok && (way[0] != x || way[len(way)-1] != y || impl.WayCost(g, way) != d[x][y]) {
					t.Fatalf("in %v the distance from %d to %d is %d, but CheapestWay is %v", g, x, y, d[x][y], way)
				}
			}
		}
	}
}

func TestNoNodes(t *testing.T) {
	for _, g := range goodGraphs() {
		for _, no := range noNodes(g.Nodes) {
			if got := impl.Distances(g, no); len(got) != 0 {
				t.Errorf("Distances(%v, %d) is %v", g, no, got)
			}
			if got := impl.WayCost(g, []int{no}); got != -1 {
				t.Errorf("WayCost(%v) of %d alone is %d", g, no, got)
			}
			for _, x := range []int{0, g.Nodes - 1, no} {
				for _, pair := range [][2]int{{x, no}, {no, x}} {
					from, to := pair[0], pair[1]
					if got, ok := impl.CheapestWay(g, from, to); ok || len(got) != 0 {
						t.Errorf("CheapestWay(%v, %d, %d) is %v, %v", g, from, to, got, ok)
					}
					if got := impl.CountWays(g, from, to); got != -1 {
						t.Errorf("CountWays(%v, %d, %d) is %d", g, from, to, got)
					}
					if got := impl.WayCost(g, []int{from, to}); got != -1 {
						t.Errorf("WayCost(%v) from %d to %d is %d", g, from, to, got)
					}
					if got, ok := impl.Without(g, from, to); ok || !equalGraphs(got, g) {
						t.Errorf("Without(%v, %d, %d) is %v, %v", g, from, to, got, ok)
					}
				}
			}
		}
	}
}

// wayCost knows only that each node of the way must exist and have an edge to the next one.
func wayCost(g impl.Graph, way []int) int {
	if len(way) == 0 || len(way) > 300 {
		return -1
	}
	costs := map[[2]int]int{}
	for _, e := range g.Edges {
		costs[[2]int{e.From, e.To}] = e.Cost
	}
	sum := 0
	for i, x := range way {
		if x < 0 || x >= g.Nodes {
			return -1
		}
		if i > 0 {
			cost, ok := costs[[2]int{way[i-1], x}]
			if !ok {
				return -1
			}
			sum += cost
		}
	}
	return sum
}

func checkWay(t *testing.T, g impl.Graph, way []int, want int) {
	t.Helper()
	given := slices.Clone(way)
	if got := impl.WayCost(g, way); got != want {
		t.Fatalf("WayCost(%v, %v) is %d and not %d", g, way, got, want)
	}
	if !slices.Equal(way, given) {
		t.Fatalf("WayCost changed its argument %v to %v", given, way)
	}
}

func TestWayCostOfShortWays(t *testing.T) {
	for _, g := range manyGraphs(24, 20) {
		for _, none := range [][]int{nil, {}} {
			checkWay(t, g, none, -1)
		}
		ways := [][]int{{}}
		for len(ways[0]) < 4 {
			var longer [][]int
			for _, way := range ways {
				for x := -1; x <= min(g.Nodes, 5); x++ {
					longer = append(longer, append(slices.Clone(way), x))
				}
			}
			ways = longer
			for _, way := range ways {
				checkWay(t, g, way, wayCost(g, way))
			}
		}
	}
}

func TestWayCostOfLongWays(t *testing.T) {
	g := graphOf(3, edge(0, 1, 1000), edge(1, 0, 7))
	there := slices.Repeat([]int{0, 1}, 200)
	checkWay(t, g, there[:299], 149*1007)
	checkWay(t, g, there[:300], 149*1007+1000)
	checkWay(t, g, there[1:301], 149*1007+7)
	checkWay(t, g, there[:301], -1)
	checkWay(t, g, there, -1)
	checkWay(t, g, slices.Repeat([]int{0}, 300), -1)
	for _, x := range []int{-1, 2, 3, 10, math.MaxInt, math.MinInt} {
		for _, at := range []int{0, 1, 150, 298, 299} {
			way := slices.Clone(there[:300])
			way[at] = x
			checkWay(t, g, way, -1)
		}
	}
	checkWay(t, ring(10, 1000), slices.Repeat([]int{0, 1, 2, 3, 4, 5, 6, 7, 8, 9}, 30), 299000)
	checkWay(t, impl.Graph{Nodes: 1}, []int{0}, 0)
	checkWay(t, impl.Graph{Nodes: 1}, []int{0, 0}, -1) // CostOf is 0, but there is no edge
}

func TestWayCostOfPathsAtRandom(t *testing.T) {
	random := rand.New(rand.NewSource(25))
	for _, g := range manyGraphs(25, 100) {
		for range 30 {
			way := []int{random.Intn(g.Nodes)}
			for range random.Intn(310) {
				var next []int
				for _, e := range g.Edges {
					if e.From == way[len(way)-1] {
						next = append(next, e.To)
					}
				}
				if len(next) == 0 {
					break
				}
				way = append(way, next[random.Intn(len(next))])
			}
			checkWay(t, g, way, wayCost(g, way))
			checkWay(t, g, append(slices.Clone(way), way[len(way)-1]), -1)
		}
	}
}

func TestWithout(t *testing.T) {
	for _, g := range manyGraphs(26, 60) {
		for from := range g.Nodes {
			for to := range g.Nodes {
				want := impl.Graph{Nodes: g.Nodes}
				for _, e := range g.Edges {
					if (e.From != from || e.To != to) && (e.From != to || e.To != from) {
						want.Edges = append(want.Edges, e)
					}
				}
				got, ok := impl.Without(g, from, to)
				if ok != (len(want.Edges) < len(g.Edges)) || !equalGraphs(got, want) {
					t.Fatalf("Without(%v, %d, %d) is %v, %v", g, from, to, got, ok)
				}
				if again, ok := impl.Without(got, from, to); ok || !equalGraphs(again, got) {
					t.Fatalf("Without(%v, %d, %d) again is %v, %v", got, from, to, again, ok)
				}
				if ok && (impl.CostOf(got, from, to) != impl.Far || impl.CostOf(got, to, from) != impl.Far) {
					t.Fatalf("Without(%v, %d, %d) leaves an edge", g, from, to)
				}
			}
		}
	}
}

func TestWithoutOneDirection(t *testing.T) {
	g := graphOf(4, edge(0, 1, 1), edge(1, 0, 2), edge(1, 2, 3), edge(3, 2, 4))
	cases := []struct {
		from, to int
		want     impl.Graph
		ok       bool
	}{
		{0, 1, graphOf(4, edge(1, 2, 3), edge(3, 2, 4)), true},
		{1, 0, graphOf(4, edge(1, 2, 3), edge(3, 2, 4)), true},
		{1, 2, graphOf(4, edge(0, 1, 1), edge(1, 0, 2), edge(3, 2, 4)), true},
		{2, 1, graphOf(4, edge(0, 1, 1), edge(1, 0, 2), edge(3, 2, 4)), true},
		{2, 3, graphOf(4, edge(0, 1, 1), edge(1, 0, 2), edge(1, 2, 3)), true},
		{0, 2, g, false},
		{0, 3, g, false},
		{1, 1, g, false},
	}
	for _, c := range cases {
		if got, ok := impl.Without(g, c.from, c.to); ok != c.ok || !equalGraphs(got, c.want) {
			t.Errorf("Without %d, %d is %v, %v", c.from, c.to, got, ok)
		}
	}
}

func TestBothWays(t *testing.T) {
	for _, g := range manyGraphs(27, 200) {
		want := impl.Graph{Nodes: g.Nodes}
		for _, e := range g.Edges {
			if slices.ContainsFunc(g.Edges, func(f impl.Edge) bool { return f.From == e.To && f.To == e.From }) {
				want.Edges = append(want.Edges, e)
			}
		}
		got, ok := impl.BothWays(g)
		if !ok || !equalGraphs(got, want) {
			t.Fatalf("BothWays(%v) is %v, %v", g, got, ok)
		}
		if again, ok := impl.BothWays(got); !ok || !equalGraphs(again, got) {
			t.Fatalf("BothWays(%v) again is %v, %v", got, again, ok)
		}
	}
	mixed := graphOf(4, edge(0, 1, 1), edge(1, 0, 9), edge(1, 2, 3), edge(2, 3, 1), edge(3, 2, 1), edge(3, 0, 5))
	want := graphOf(4, edge(0, 1, 1), edge(1, 0, 9), edge(2, 3, 1), edge(3, 2, 1))
	if got, ok := impl.BothWays(mixed); !ok || !equalGraphs(got, want) {
		t.Errorf("BothWays(%v) is %v, %v", mixed, got, ok)
	}
}

func TestLinked(t *testing.T) {
	linked := []impl.Graph{{Nodes: 1}, graphOf(2, edge(0, 1, 1000)), line(10, 1000), ring(4, 1), forward(10), roadsOf(3, edge(0, 2, 5), edge(1, 2, 5)), someEdges(10, 60, always(1))}
	apart := []impl.Graph{{Nodes: 2}, {Nodes: 10}, graphOf(2, edge(1, 0, 1)), graphOf(3, edge(0, 1, 1), edge(1, 0, 1), edge(2, 0, 1), edge(2, 1, 1)), roadsOf(4, edge(0, 1, 1), edge(2, 3, 1)), {Nodes: 10, Edges: line(9, 1).Edges}}
	for _, g := range linked {
		if !impl.Linked(g) {
			t.Errorf("Linked(%v) is false", g)
		}
	}
	for _, g := range apart {
		if impl.Linked(g) {
			t.Errorf("Linked(%v) is true", g)
		}
	}
	for _, g := range manyGraphs(28, 200) {
		reached := 0
		for _, b := range bestPaths(g, 0) {
			reached += min(b.ways, 1)
		}
		if impl.Linked(g) != (reached == g.Nodes) {
			t.Errorf("Linked(%v), but %d nodes can be reached", g, reached)
		}
	}
}

func TestBadGraphs(t *testing.T) {
	for _, g := range badGraphs() {
		for _, pair := range [][2]int{{0, 0}, {0, 1}, {1, 0}, {1, 2}, {-1, 0}, {10, 11}, {11, 11}, {math.MinInt, math.MaxInt}} {
			from, to := pair[0], pair[1]
			if got := impl.CostOf(g, from, to); got != -1 {
				t.Errorf("CostOf(%v, %d, %d) is %d", g, from, to, got)
			}
			if got := impl.Distances(g, from); len(got) != 0 {
				t.Errorf("Distances(%v, %d) is %v", g, from, got)
			}
			if got, ok := impl.CheapestWay(g, from, to); ok || len(got) != 0 {
				t.Errorf("CheapestWay(%v, %d, %d) is %v, %v", g, from, to, got, ok)
			}
			if got := impl.CountWays(g, from, to); got != -1 {
				t.Errorf("CountWays(%v, %d, %d) is %d", g, from, to, got)
			}
			if got, ok := impl.Without(g, from, to); ok || !equalGraphs(got, g) {
				t.Errorf("Without(%v, %d, %d) is %v, %v", g, from, to, got, ok)
			}
		}
		for _, way := range [][]int{nil, {0}, {0, 1}, {1, 0}, {0, 0}, slices.Repeat([]int{0, 1}, 200)} {
			if got := impl.WayCost(g, way); got != -1 {
				t.Errorf("WayCost(%v, %v) is %d", g, way, got)
			}
		}
		if got := impl.AllDistances(g); len(got) != 0 {
			t.Errorf("AllDistances(%v) is %v", g, got)
		}
		if got, ok := impl.BothWays(g); ok || !equalGraphs(got, impl.Graph{}) {
			t.Errorf("BothWays(%v) is %v, %v", g, got, ok)
		}
		if impl.Linked(g) {
			t.Errorf("Linked(%v) is true", g)
		}
	}
}

// graphResults are the results of all functions that return slices, refused calls among them.
type graphResults struct {
	graphs []impl.Graph
	lists  [][]int
}

func resultsOf(g impl.Graph) graphResults {
	var r graphResults
	both, _ := impl.BothWays(g)
	r.graphs = append(r.graphs, both)
	r.lists = append(r.lists, impl.AllDistances(g)...)
	for from := range min(max(g.Nodes, 0), 4) + 1 {
		r.lists = append(r.lists, impl.Distances(g, from))
		for to := range 4 {
			less, _ := impl.Without(g, from, to)
			way, _ := impl.CheapestWay(g, from, to)
			r.graphs = append(r.graphs, less)
			r.lists = append(r.lists, way)
			impl.GraphOk(g)
			impl.CostOf(g, from, to)
			impl.CountWays(g, from, to)
			impl.WayCost(g, []int{from, to})
			impl.Linked(g)
		}
	}
	return r
}

// ownMemory overwrites every slice with a value of its own, and reports whether each still holds
// its value afterwards.
func (r graphResults) ownMemory() bool {
	for i, g := range r.graphs {
		fill(g.Edges, edge(20+i, i, i))
	}
	for i, list := range r.lists {
		fill(list, -20-i)
	}
	for i, g := range r.graphs {
		if !filled(g.Edges, edge(20+i, i, i)) {
			return false
		}
	}
	for i, list := range r.lists {
		if !filled(list, -20-i) {
			return false
		}
	}
	return true
}

// fill writes as far as the memory of the slice reaches.
func fill[T any](list []T, by T) {
	whole := list[:cap(list)]
	for i := range whole {
		whole[i] = by
	}
}

func filled[T comparable](list []T, by T) bool {
	return !slices.ContainsFunc(list[:cap(list)], func(x T) bool { return x != by })
}

func TestGraphsAreNewMemory(t *testing.T) {
	for _, g := range append(goodGraphs(), badGraphs()...) {
		// The edges lie in the middle of an array, so that a write beside them shows too.
		n := len(g.Edges)
		array := slices.Repeat([]impl.Edge{edge(8, 8, 8)}, n+6)
		copy(array[2:], g.Edges)
		whole := slices.Clone(array)
		results := resultsOf(impl.Graph{Nodes: g.Nodes, Edges: array[2 : n+2]})
		if !slices.Equal(array, whole) {
			t.Fatalf("the argument %v was changed", g)
		}
		if !results.ownMemory() {
			t.Fatalf("results for %v share memory with each other", g)
		}
		if !slices.Equal(array, whole) {
			t.Fatalf("a result shares memory with the argument %v", g)
		}
	}
}
