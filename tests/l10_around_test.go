package tests

import (
	"math"
	"math/rand"
	"slices"
	"testing"

	"loop.example/g00681/impl"
)

// detours is the model of chapter 10. Where the program compares sums of distances, this looks at the
// paths themselves.
type detours struct {
	g    impl.Graph
	cost [10][10]int // 0 where there is no edge
	ways *allWays
}

func detoursIn(g impl.Graph) *detours {
	m := &detours{g: g, ways: waysIn(g)}
	for _, e := range g.Edges {
		m.cost[e.From][e.To] = e.Cost
	}
	return m
}

// avoids reports whether there are paths from x to d and y is on none of the cheapest ones.
func (m *detours) avoids(x, y, d int) bool {
	b := &m.ways[x][d]
	return len(b.paths) > 0 && !b.on[y]
}

func (m *detours) loopFree(s, n, d int) bool {
	return m.cost[s][n] > 0 && m.avoids(n, s, d)
}

func (m *detours) alternates(s, f, d int) []int {
	var nodes []int
	for n := range m.g.Nodes {
		if m.cost[s][f] > 0 && n != f && m.loopFree(s, n, d) {
			nodes = append(nodes, n)
		}
	}
	return nodes
}

func (m *detours) best(s, f, d int) int {
	best, least := -1, math.MaxInt
	for _, n := range m.alternates(s, f, d) {
		if cost := m.cost[s][n] + m.ways[n][d].cost; cost < least {
			best, least = n, cost
		}
	}
	return best
}

func (m *detours) nodeSafe(s, n, f, d int) bool {
	return slices.Contains(m.alternates(s, f, d), n) && m.avoids(n, f, d)
}

// walk returns nil if there is no way around.
func (m *detours) walk(s, f, d int) []int {
	n := m.best(s, f, d)
	if n < 0 {
		return nil
	}
	return append([]int{s}, m.ways[n][d].preferred()...)
}

func (m *detours) coverage() (have, all int) {
	for s := range m.g.Nodes {
		for d := range m.g.Nodes {
			hops := m.ways[s][d].hops
			if len(hops) > 0 && m.best(s, hops[0], d) >= 0 {
				have++
			}
			all += min(1, len(hops))
		}
	}
	return have, all
}

// spared reports whether there are paths from x to y and none of the cheapest ones uses the link.
func (m *detours) spared(x, y, s, f int) bool {
	paths := m.ways[x][y].paths
	return len(paths) > 0 && !slices.ContainsFunc(paths, func(path []int) bool { return usesLink(path, s, f) })
}

func (m *detours) remote(s, f, d int) []int {
	var nodes []int
	for p := range m.g.Nodes {
		if m.cost[s][f] > 0 && s != d && p != s && p != f && m.spared(s, p, s, f) && m.spared(p, d, s, f) {
			nodes = append(nodes, p)
		}
	}
	return nodes
}

func usesLink(path []int, s, f int) bool {
	for i, x := range path[1:] {
		if path[i] == s && x == f || path[i] == f && x == s {
			return true
		}
	}
	return false
}

// skew is a triangle whose links cost differently in their two directions.
func skew(there, back int) impl.Graph {
	return graphOf(3,
		edge(0, 1, there), edge(1, 0, back),
		edge(0, 2, 10), edge(2, 0, 10), edge(1, 2, 15), edge(2, 1, 15))
}

// threeLinks has the links 0-1 at cost a, 0-2 at cost b and 1-2 at cost c.
func threeLinks(a, b, c int) impl.Graph {
	return roadsOf(3, edge(0, 1, a), edge(0, 2, b), edge(1, 2, c))
}

// complete has a link between any two nodes.
func complete(nodes, cost int) impl.Graph {
	var edges []impl.Edge
	for y := range nodes {
		for x := range y {
			edges = append(edges, edge(x, y, cost))
		}
	}
	return roadsOf(nodes, edges...)
}

// pairedGraph is a random graph in which every edge has a reverse edge, often at another cost.
func pairedGraph(random *rand.Rand, links, most int) impl.Graph {
	nodes := 1 + random.Intn(impl.MaxNodes)
	var edges []impl.Edge
	for _, e := range complete(nodes, 1).Edges {
		if e.From < e.To {
			edges = append(edges, e)
		}
	}
	random.Shuffle(len(edges), func(i, j int) { edges[i], edges[j] = edges[j], edges[i] })
	even := random.Intn(2) == 0
	var both []impl.Edge
	for _, e := range edges[:min(len(edges), random.Intn(links+1))] {
		there, back := 1+random.Intn(most), 1+random.Intn(most)
		if even {
			back = there
		}
		both = append(both, edge(e.From, e.To, there), edge(e.To, e.From, back))
	}
	return graphOf(nodes, both...)
}

// fewPairedGraphs are made for the cases of chapter 10.
func fewPairedGraphs() []impl.Graph {
	graphs := []impl.Graph{
		{Nodes: 1}, {Nodes: 2}, {Nodes: 10}, roadsOf(2, edge(0, 1, 7)), graphOf(2, edge(0, 1, 1), edge(1, 0, 1000)),
		threeLinks(3, 4, 6), threeLinks(3, 4, 7), threeLinks(3, 4, 8), threeLinks(1000, 1, 1), skew(1, 100), skew(100, 1),
		roadsOf(4, edge(0, 1, 1), edge(0, 2, 1), edge(0, 3, 3), edge(1, 3, 1), edge(2, 3, 1)),
		roadsOf(6, edge(0, 1, 1), edge(1, 2, 1), edge(0, 2, 1), edge(3, 4, 1), edge(4, 5, 1)), // two parts
		crossing(2), crossing(3), crossing(4),
		roadsOf(10, line(10, 1000).Edges...), complete(7, 1), complete(8, 1000), mesh(6), mesh(8),
	}
	for nodes := 3; nodes <= 10; nodes++ {
		graphs = append(graphs, loop(nodes), fan(nodes, 2))
	}
	return graphs
}

// pairedGraphs adds random graphs with many ties and with few.
func pairedGraphs(seed int64, n int) []impl.Graph {
	random := rand.New(rand.NewSource(seed))
	graphs := fewPairedGraphs()
	for _, g := range hopGraphs(seed, 0) {
		both, _ := impl.BothWays(g)
		graphs = append(graphs, both)
	}
	for i := range n {
		graphs = append(graphs, pairedGraph(random, []int{10, 15, 20, 30}[i%4], []int{1, 2, 4, 30, 1000}[i%5]))
	}
	return graphs
}

// crossing is such that node 2 is reached from 0 by an edge, and reaches 3 both by an edge of that cost
// and over the link from 1 to 0, at cost 3.
func crossing(cost int) impl.Graph {
	return graphOf(4,
		edge(0, 1, 9), edge(1, 0, 1), edge(0, 2, 1), edge(2, 0, 9), edge(1, 2, 9), edge(2, 1, 1),
		edge(0, 3, 1), edge(3, 0, 1), edge(2, 3, cost), edge(3, 2, 9))
}

func TestLoopFreeOfFewNodes(t *testing.T) {
	two := roadsOf(6, edge(0, 1, 1), edge(1, 2, 1), edge(0, 2, 1), edge(3, 4, 1), edge(4, 5, 1))
	cases := []struct {
		why     string
		g       impl.Graph
		s, n, d int
		want    bool
	}{
		{"the neighbor is the destination", roadsOf(2, edge(0, 1, 7)), 0, 1, 1, true},
		{"the other node is the destination", roadsOf(2, edge(0, 1, 7)), 1, 0, 0, true},
		{"the neighbor is the destination, but not the next hop to it", threeLinks(1000, 1, 1), 0, 1, 1, true},
		{"s is the destination", roadsOf(2, edge(0, 1, 7)), 0, 1, 0, false},
		{"s is the destination, with another neighbor", threeLinks(1, 1, 1), 2, 0, 2, false},
		{"all three are the same node", threeLinks(1, 1, 1), 2, 2, 2, false},
		{"n is s", threeLinks(1, 1, 1), 0, 0, 2, false},
		{"n is no neighbor", roadsOf(3, edge(0, 1, 1), edge(1, 2, 1)), 0, 2, 1, false},
		{"n is no neighbor, but the destination", roadsOf(3, edge(0, 1, 1), edge(1, 2, 1)), 0, 2, 2, false},
		{"the direct way is one less than over s", threeLinks(3, 4, 6), 0, 1, 2, true},
		{"the direct way is much less than over s", threeLinks(3, 4, 1), 0, 1, 2, true},
		{"the direct way is equal to that over s", threeLinks(3, 4, 7), 0, 1, 2, false},
		{"the direct way is one more than over s", threeLinks(3, 4, 8), 0, 1, 2, false},
		{"the direct way is one less, at the greatest costs", threeLinks(500, 500, 999), 0, 1, 2, true},
		{"the direct way is equal, at the greatest costs", threeLinks(500, 500, 1000), 0, 1, 2, false},
		{"a way of two links is one less", roadsOf(4, edge(0, 1, 3), edge(0, 2, 4), edge(1, 3, 3), edge(3, 2, 3)), 0, 1, 2, true},
		{"a way of two links is equal", roadsOf(4, edge(0, 1, 3), edge(0, 2, 4), edge(1, 3, 3), edge(3, 2, 4)), 0, 1, 2, false},
		{"s is cheap to reach from n and n dear from s", skew(100, 1), 0, 1, 2, false},
		{"s is dear to reach from n and n cheap from s", skew(1, 100), 0, 1, 2, true},
		{"s is one too cheap to reach from n", skew(100, 5), 0, 1, 2, false},
		{"s is just dear enough to reach from n", skew(1, 6), 0, 1, 2, true},
		{"the edge to s is dear and the way cheap", roadsOf(4, edge(0, 1, 50), edge(0, 2, 4), edge(1, 3, 1), edge(3, 0, 1), edge(1, 2, 7)), 0, 1, 2, false},
		{"the destination cannot be reached", two, 0, 1, 4, false},
		{"the destination cannot be reached, from the other part", two, 4, 3, 1, false},
		{"n cannot be reached", two, 0, 3, 2, false},
		{"n cannot be reached and is the destination", two, 0, 3, 3, false},
		{"only s cannot be reached", two, 5, 1, 2, false},
		{"all in one of two parts", two, 0, 1, 2, true},
		{"node 9", roadsOf(10, append(line(10, 1).Edges, edge(7, 9, 1))...), 7, 9, 8, true},
		{"the last nodes of a line", roadsOf(10, line(10, 1).Edges...), 8, 9, 7, false},
	}
	for _, c := range cases {
		if got := impl.LoopFree(c.g, c.s, c.n, c.d); got != c.want {
			t.Errorf("%s: LoopFree(%v, %d, %d, %d) is %v", c.why, c.g, c.s, c.n, c.d, got)
		}
	}
}

// spokes joins node 0 to each of the others, at the first costs, and each of them but the last to the
// last one, at the second ones.
func spokes(first []int, second []int) impl.Graph {
	last := len(first)
	var edges []impl.Edge
	for i, cost := range first {
		edges = append(edges, edge(0, i+1, cost))
	}
	for i, cost := range second {
		edges = append(edges, edge(i+1, last, cost))
	}
	return roadsOf(last+1, edges...)
}

func TestAlternatesOfFewNodes(t *testing.T) {
	// From 0 the cheapest neighbor is 1, which is the dearest one to come back from.
	apart := graphOf(5,
		edge(0, 1, 1), edge(1, 0, 9), edge(0, 2, 5), edge(2, 0, 5), edge(0, 3, 1), edge(3, 0, 1),
		edge(1, 4, 5), edge(4, 1, 5), edge(2, 4, 5), edge(4, 2, 5), edge(3, 4, 1), edge(4, 3, 1))
	cases := []struct {
		why     string
		g       impl.Graph
		s, f, d int
		want    []int
		best    int
		walk    []int
	}{
		{"no other neighbor", roadsOf(2, edge(0, 1, 7)), 0, 1, 1, nil, -1, nil},
		{"only neighbors that are not loop-free", loop(4), 0, 1, 1, nil, -1, nil},
		{"one", threeLinks(1, 1, 1), 0, 1, 1, []int{2}, 2, []int{0, 2, 1}},
		{"one, which is the destination", threeLinks(1, 1, 1), 0, 1, 2, []int{2}, 2, []int{0, 2}},
		{"the destination, at a dear edge", threeLinks(1, 1000, 1), 0, 1, 2, []int{2}, 2, []int{0, 2}},
		{"several", complete(6, 5), 3, 1, 1, []int{0, 2, 4, 5}, 0, []int{3, 0, 1}},
		{"several, among them the destination", complete(6, 5), 3, 1, 4, []int{0, 2, 4, 5}, 4, []int{3, 4}},
		{"several and others between them", spokes([]int{1, 1, 1, 1, 1, 9}, []int{3, 9, 3, 9, 2}), 0, 5, 6, []int{1, 3, 6}, 1, []int{0, 1, 6}},
		{"all nodes but s and f", complete(8, 1000), 0, 7, 7, []int{1, 2, 3, 4, 5, 6}, 1, []int{0, 1, 7}},
		{"f is loop-free, and is left out", fan(4, 1), 0, 1, 3, []int{2}, 2, []int{0, 2, 3}},
		{"f is not loop-free, and the next hop is", threeLinks(3, 4, 8), 0, 1, 2, []int{2}, 2, []int{0, 2}},
		{"f is the only loop-free neighbor", threeLinks(3, 4, 8), 0, 2, 2, nil, -1, nil},
		{"f is the destination", fan(4, 1), 0, 1, 1, nil, -1, nil},
		{"f is the destination, with a way around it", roadsOf(4, edge(0, 1, 1), edge(0, 2, 5), edge(2, 3, 1), edge(3, 1, 1)), 0, 1, 1, []int{2}, 2, []int{0, 2, 3, 1}},
		{"s is the destination", complete(4, 1), 0, 1, 0, nil, -1, nil},
		{"f is no neighbor", fan(4, 1), 0, 3, 3, nil, -1, nil},
		{"f is no neighbor, and two others are loop-free", fan(4, 1), 1, 2, 3, nil, -1, nil},
		{"f is s", complete(4, 1), 0, 0, 3, nil, -1, nil},
		{"the destination cannot be reached", roadsOf(5, edge(0, 1, 1), edge(1, 2, 1), edge(0, 2, 1), edge(3, 4, 1)), 0, 1, 4, nil, -1, nil},
		{"a tie of three", fan(6, 1), 0, 2, 5, []int{1, 3, 4}, 1, []int{0, 1, 5}},
		{"a tie of three, and f is the first", fan(6, 1), 0, 1, 5, []int{2, 3, 4}, 2, []int{0, 2, 5}},
		{"a tie of three, at different edges", spokes([]int{7, 5, 6, 1, 99}, []int{4, 6, 5, 1}), 0, 4, 5, []int{1, 2, 3, 5}, 1, []int{0, 1, 5}},
		{"a tie of three, the last of which has the cheapest edge", spokes([]int{7, 6, 5, 8, 99}, []int{4, 5, 6, 1}), 0, 4, 5, []int{1, 2, 3, 5}, 1, []int{0, 1, 5}},
		{"the edge is cheap and the way behind it dear", spokes([]int{2, 3, 5, 99}, []int{8, 6, 1}), 0, 3, 4, []int{2, 4}, 2, []int{0, 2, 4}},
		{"the cheapest edge, at a way that is just not too dear", spokes([]int{2, 3, 5, 99}, []int{7, 5, 1}), 0, 3, 4, []int{1, 2, 4}, 2, []int{0, 2, 4}},
		{"the edge is dear and the way behind it cheap", spokes([]int{4, 9, 5, 99}, []int{7, 1, 4}), 0, 3, 4, []int{1, 2, 4}, 2, []int{0, 2, 4}},
		{"the edge is too dear, though the way behind it is cheap", spokes([]int{4, 11, 5, 99}, []int{7, 1, 4}), 0, 3, 4, []int{1, 2, 4}, 1, []int{0, 1, 4}},
		{"the last one is one cheaper", spokes([]int{4, 4, 4, 1, 99}, []int{4, 4, 3, 1}), 0, 4, 5, []int{1, 2, 3, 5}, 3, []int{0, 3, 5}},
		{"the edge there counts and not the one back", apart, 0, 3, 4, []int{1, 2}, 1, []int{0, 1, 4}},
	}
	for _, c := range cases {
		if got := impl.Alternates(c.g, c.s, c.f, c.d); !slices.Equal(got, c.want) {
			t.Errorf("%s: Alternates(%v, %d, %d, %d) is %v and not %v", c.why, c.g, c.s, c.f, c.d, got, c.want)
		}
		if got := impl.BestAlternate(c.g, c.s, c.f, c.d); got != c.best {
			t.Errorf("%s: BestAlternate(%v, %d, %d, %d) is %d and not %d", c.why, c.g, c.s, c.f, c.d, got, c.best)
		}
		if got, ok := impl.WalkAround(c.g, c.s, c.f, c.d); !slices.Equal(got, c.walk) || ok != (c.best >= 0) {
			t.Errorf("%s: WalkAround(%v, %d, %d, %d) is %v, %v and not %v", c.why, c.g, c.s, c.f, c.d, got, ok, c.walk)
		}
	}
}

func TestWalkAroundOfFewNodes(t *testing.T) {
	far := roadsOf(10, append(line(9, 2).Edges, edge(0, 9, 9), edge(9, 8, 1))...)
	tied := roadsOf(7, edge(0, 1, 1), edge(0, 2, 9), edge(2, 3, 2), edge(3, 4, 1), edge(2, 5, 1), edge(5, 4, 2), edge(4, 6, 3), edge(2, 6, 6), edge(1, 6, 30))
	longer := roadsOf(6, edge(0, 1, 1), edge(0, 2, 9), edge(2, 3, 2), edge(3, 4, 1), edge(2, 5, 1), edge(5, 4, 2), edge(1, 4, 30))
	cases := []struct {
		why     string
		g       impl.Graph
		s, f, d int
		want    []int
	}{
		{"the neighbor is the destination", fan(3, 1), 1, 0, 2, []int{1, 2}},
		{"the neighbor is the destination, at a dear edge", threeLinks(1, 1000, 1), 0, 1, 2, []int{0, 2}},
		{"the neighbor is the destination, and there are others", complete(5, 3), 2, 0, 4, []int{2, 4}},
		{"a longer way", far, 0, 1, 4, []int{0, 9, 8, 7, 6, 5, 4}},
		{"a longer way to f", roadsOf(6, ring(5, 1).Edges[0], edge(1, 2, 1), edge(2, 3, 1), edge(3, 4, 1), edge(4, 0, 9)), 0, 1, 1, []int{0, 4, 3, 2, 1}},
		{"over f, but not over its link to s", roadsOf(4, edge(0, 1, 9), edge(0, 2, 9), edge(2, 1, 1), edge(1, 3, 1)), 0, 1, 3, []int{0, 2, 1, 3}},
		{"ways of equal cost: the one with the fewest nodes", tied, 0, 1, 6, []int{0, 2, 6}},
		{"ways of equal cost and length: the smallest", longer, 0, 1, 4, []int{0, 2, 3, 4}},
		{"no alternate", loop(4), 0, 1, 1, nil},
		{"no alternate at the end of a line", roadsOf(3, line(3, 1).Edges...), 0, 1, 2, nil},
		{"no alternate in the middle of a line", roadsOf(3, line(3, 1).Edges...), 1, 2, 2, nil},
		{"s is the destination", complete(5, 3), 2, 0, 2, nil},
		{"f is no neighbor", fan(4, 1), 0, 3, 1, nil},
		{"f is s", complete(5, 3), 2, 2, 4, nil},
		{"the destination cannot be reached", roadsOf(5, edge(0, 1, 1), edge(1, 2, 1), edge(0, 2, 1), edge(3, 4, 1)), 0, 1, 3, nil},
	}
	for _, c := range cases {
		if got, ok := impl.WalkAround(c.g, c.s, c.f, c.d); !slices.Equal(got, c.want) || ok != (c.want != nil) {
			t.Errorf("%s: WalkAround(%v, %d, %d, %d) is %v, %v and not %v", c.why, c.g, c.s, c.f, c.d, got, ok, c.want)
		}
	}
}

// rhombus has its source 0, its neighbors 1, which fails, and 2, and the destination 3. The edge from 2
// to 3 has a cost of its own, over 1 it is 5.
func rhombus(direct int) impl.Graph {
	return roadsOf(4, edge(0, 1, 2), edge(0, 2, 9), edge(1, 3, 2), edge(1, 2, 3), edge(2, 3, direct))
}

func TestNodeSafeOfFewNodes(t *testing.T) {
	// From 2, node 1 costs 3 and the way back 30.
	uneven := func(direct int) impl.Graph {
		return graphOf(4,
			edge(0, 1, 2), edge(1, 0, 2), edge(0, 2, 9), edge(2, 0, 90), edge(1, 3, 2), edge(3, 1, 20),
			edge(2, 1, 3), edge(1, 2, 30), edge(2, 3, direct), edge(3, 2, 50))
	}
	cases := []struct {
		why        string
		g          impl.Graph
		s, n, f, d int
		want       bool
	}{
		{"the direct way is one less than over f", rhombus(4), 0, 2, 1, 3, true},
		{"the direct way is equal to that over f", rhombus(5), 0, 2, 1, 3, false},
		{"the direct way is one more than over f", rhombus(6), 0, 2, 1, 3, false},
		{"the direct way is one less, at uneven costs", uneven(4), 0, 2, 1, 3, true},
		{"the direct way is equal, at uneven costs", uneven(5), 0, 2, 1, 3, false},
		{"f is the destination", rhombus(4), 0, 2, 1, 1, false},
		{"f is the destination and next to n", complete(5, 1), 0, 2, 1, 1, false},
		{"n is the destination", rhombus(9), 0, 2, 1, 2, true},
		{"n is the destination, at a dear edge", complete(5, 1000), 0, 2, 1, 2, true},
		{"n is f", rhombus(4), 0, 1, 1, 3, false},
		{"n is f, another neighbor of s", fan(5, 1), 0, 2, 2, 4, false},
		{"n is s", rhombus(4), 0, 0, 1, 3, false},
		{"s is the destination", rhombus(4), 0, 2, 1, 0, false},
		{"n is no neighbor of s", roadsOf(4, edge(0, 1, 1), edge(0, 2, 1), edge(2, 3, 1), edge(1, 3, 1)), 0, 3, 1, 2, false},
		{"n is a neighbor of s, but not loop-free", loop(6), 0, 5, 1, 1, false},
		{"n avoids f, but not s", roadsOf(5, edge(0, 1, 5), edge(0, 2, 1), edge(0, 3, 1), edge(1, 3, 5)), 0, 2, 1, 3, false},
		{"n avoids f and s", roadsOf(5, edge(0, 1, 5), edge(0, 2, 2), edge(0, 3, 1), edge(1, 3, 5), edge(2, 3, 2)), 0, 2, 1, 3, true},
		{"f is no neighbor of s", fan(5, 1), 1, 0, 2, 4, false},
		{"f is no neighbor of s, and n avoids it", roadsOf(5, edge(0, 1, 1), edge(0, 2, 1), edge(1, 2, 1), edge(1, 3, 1), edge(3, 4, 1)), 0, 2, 4, 1, false},
		{"f is s", complete(5, 1), 0, 1, 0, 2, false},
		{"the destination cannot be reached", roadsOf(5, edge(0, 1, 1), edge(1, 2, 1), edge(0, 2, 1), edge(3, 4, 1)), 0, 2, 1, 4, false},
	}
	for _, c := range cases {
		if got := impl.NodeSafe(c.g, c.s, c.n, c.f, c.d); got != c.want {
			t.Errorf("%s: NodeSafe(%v, %d, %d, %d, %d) is %v", c.why, c.g, c.s, c.n, c.f, c.d, got)
		}
	}
}

func checkCoverage(t *testing.T, why string, g impl.Graph, have, all int) {
	t.Helper()
	if got, of := impl.Coverage(g); got != have || of != all {
		t.Errorf("%s: Coverage(%v) is %d, %d and not %d, %d", why, g, got, of, have, all)
	}
}

func TestCoverageOfFewNodes(t *testing.T) {
	for nodes := 1; nodes <= 10; nodes++ {
		checkCoverage(t, "no edges", impl.Graph{Nodes: nodes}, 0, 0)
		checkCoverage(t, "a line", roadsOf(nodes, line(nodes, 3).Edges...), 0, nodes*(nodes-1))
	}
	for nodes := 3; nodes <= 8; nodes++ {
		checkCoverage(t, "a complete graph", complete(nodes, 1), nodes*(nodes-1), nodes*(nodes-1))
		checkCoverage(t, "a complete graph", complete(nodes, 1000), nodes*(nodes-1), nodes*(nodes-1))
	}
	// Only to the farthest nodes is there an alternate: one node in an even ring, and two in an odd one.
	checkCoverage(t, "a ring", loop(3), 6, 6)
	for nodes := 4; nodes <= 10; nodes++ {
		checkCoverage(t, "a ring", loop(nodes), nodes*(1+nodes%2), nodes*(nodes-1))
	}
	checkCoverage(t, "two parts", roadsOf(6, edge(0, 1, 1), edge(1, 2, 1), edge(0, 2, 1), edge(3, 4, 1), edge(4, 5, 1)), 6, 12)
	checkCoverage(t, "a part and single nodes", roadsOf(10, edge(7, 8, 4)), 0, 2)
	// From 0 to 4 and back HopsTo has three elements, between any two of the other nodes it has two, and
	// only these pairs have an alternate.
	checkCoverage(t, "a fan", fan(5, 1), 8, 20)
	// Node 0 has an alternate as long as the last link is cheaper than the way over 0.
	checkCoverage(t, "a triangle", threeLinks(3, 4, 6), 6, 6)
	checkCoverage(t, "a triangle with a tie", threeLinks(3, 4, 7), 4, 6)
	checkCoverage(t, "a triangle with a dear link", threeLinks(3, 4, 8), 4, 6)
}

func TestRemoteOfFewNodes(t *testing.T) {
	two := roadsOf(8, edge(0, 1, 1), edge(0, 2, 1), edge(1, 2, 1), edge(3, 4, 1), edge(4, 5, 1))
	cases := []struct {
		why     string
		g       impl.Graph
		s, f, d int
		want    []int
	}{
		{"a ring of 3, to f", loop(3), 0, 1, 1, []int{2}},
		{"a ring of 4, to f: only ties", loop(4), 0, 1, 1, nil},
		{"a ring of 4, to the next one: the tie of s is left out", loop(4), 0, 1, 2, []int{3}},
		{"a ring of 5, to f", loop(5), 0, 1, 1, []int{3}},
		{"a ring of 5, to the next one", loop(5), 0, 1, 2, []int{3, 4}},
		{"a ring of 5, to a remote node", loop(5), 0, 1, 3, []int{3, 4}},
		{"a ring of 5, the other link", loop(5), 0, 4, 4, []int{2}},
		{"a ring of 5, from another node", loop(5), 3, 2, 1, []int{0, 4}},
		{"a ring of 6, to f: only ties", loop(6), 0, 1, 1, nil},
		{"a ring of 6, to the next one", loop(6), 0, 1, 2, []int{4}},
		{"a ring of 6, to the opposite one", loop(6), 0, 1, 3, []int{4, 5}},
		{"a ring of 7, to f", loop(7), 0, 1, 1, []int{4}},
		{"a ring of 10, to the next but two", loop(10), 0, 1, 3, []int{6, 7}},
		{"p is the destination", threeLinks(1, 1, 1), 0, 1, 2, []int{2}},
		{"f is reached without its link to s, but is left out", threeLinks(9, 1, 1), 0, 1, 2, []int{2}},
		{"f is the destination and is reached without its link to s", threeLinks(9, 1, 1), 0, 1, 1, []int{2}},
		{"s is the destination", loop(5), 0, 1, 0, nil},
		{"s is the destination, with many ways", complete(6, 1), 2, 4, 2, nil},
		{"f is no neighbor", loop(5), 0, 2, 3, nil},
		{"f is no neighbor, but the destination", loop(5), 0, 3, 3, nil},
		{"f is s", complete(5, 1), 2, 2, 1, nil},
		{"all other nodes", complete(5, 1), 2, 0, 1, []int{1, 3, 4}},
		{"all other nodes, to f", complete(5, 1), 2, 0, 0, []int{1, 3, 4}},
		{"none on a line", roadsOf(3, line(3, 1).Edges...), 0, 1, 2, nil},
		{"only behind s", roadsOf(4, line(4, 1).Edges...), 1, 2, 0, []int{0}},
		{"none behind s if the destination is not there", roadsOf(4, line(4, 1).Edges...), 1, 2, 3, nil},
		{"the way back is over the link, from f to s", crossing(4), 0, 1, 3, []int{3}},
		{"one of two ways is over the link, from f to s", crossing(3), 0, 1, 3, []int{3}},
		{"the way over the link is dearer, from f to s", crossing(2), 0, 1, 3, []int{2, 3}},
		{"the way is over the link, from s to f", roadsOf(4, edge(0, 1, 1), edge(0, 2, 1), edge(1, 3, 1), edge(2, 3, 4)), 0, 1, 3, nil},
		{"one of two ways is over the link, from s to f", roadsOf(4, edge(0, 1, 1), edge(0, 2, 1), edge(1, 3, 1), edge(2, 3, 3)), 0, 1, 3, nil},
		{"the way over the link is dearer, from s to f", roadsOf(4, edge(0, 1, 1), edge(0, 2, 1), edge(1, 3, 1), edge(2, 3, 2)), 0, 1, 3, []int{2}},
		{"one of two ways to p is over the link", threeLinks(3, 7, 4), 0, 1, 2, nil},
		{"the way to p over the link is one dearer", threeLinks(3, 6, 4), 0, 1, 2, []int{2}},
		{"the way to p over the link is one cheaper", threeLinks(3, 8, 4), 0, 1, 2, nil},
		{"all in one of two parts", two, 0, 1, 1, []int{2}},
		{"the destination is in the other part", two, 0, 1, 4, nil},
		{"the other part has a destination of its own", two, 4, 5, 3, []int{3}},
		{"p cannot be reached", two, 0, 1, 2, []int{2}},
		{"the destination has no links", two, 0, 1, 7, nil},
	}
	for _, c := range cases {
		if got := impl.Remote(c.g, c.s, c.f, c.d); !slices.Equal(got, c.want) {
			t.Errorf("%s: Remote(%v, %d, %d, %d) is %v and not %v", c.why, c.g, c.s, c.f, c.d, got, c.want)
		}
	}
}

// compare holds all functions against the model, at all nodes.
func (m *detours) compare(t *testing.T) {
	t.Helper()
	g := m.g
	have, all := m.coverage()
	checkCoverage(t, "by the paths", g, have, all)
	for s := range g.Nodes {
		for d := range g.Nodes {
			for f := range g.Nodes {
				if got, want := impl.LoopFree(g, s, f, d), m.loopFree(s, f, d); got != want {
					t.Fatalf("LoopFree(%v, %d, %d, %d) is %v", g, s, f, d, got)
				}
				if got, want := impl.Alternates(g, s, f, d), m.alternates(s, f, d); !slices.Equal(got, want) {
					t.Fatalf("Alternates(%v, %d, %d, %d) is %v and not %v", g, s, f, d, got, want)
				}
				if got, want := impl.BestAlternate(g, s, f, d), m.best(s, f, d); got != want {
					t.Fatalf("BestAlternate(%v, %d, %d, %d) is %d and not %d", g, s, f, d, got, want)
				}
				if got, want := impl.Remote(g, s, f, d), m.remote(s, f, d); !slices.Equal(got, want) {
					t.Fatalf("Remote(%v, %d, %d, %d) is %v and not %v", g, s, f, d, got, want)
				}
				want := m.walk(s, f, d)
				if got, ok := impl.WalkAround(g, s, f, d); !slices.Equal(got, want) || ok != (want != nil) {
					t.Fatalf("WalkAround(%v, %d, %d, %d) is %v, %v and not %v", g, s, f, d, got, ok, want)
				}
				for n := range g.Nodes {
					if got, want := impl.NodeSafe(g, s, n, f, d), m.nodeSafe(s, n, f, d); got != want {
						t.Fatalf("NodeSafe(%v, %d, %d, %d, %d) is %v", g, s, n, f, d, got)
					}
				}
			}
		}
	}
}

func TestAroundByThePaths(t *testing.T) {
	for _, g := range pairedGraphs(100, 40) {
		detoursIn(g).compare(t)
	}
}

// TestRepairsUseNoFailedLink is promise 10, as far as the functions of chapter 3 can tell.
func TestRepairsUseNoFailedLink(t *testing.T) {
	walks, remotes := 0, 0
	for _, g := range pairedGraphs(101, 120) {
		for _, e := range g.Edges {
			less, _ := impl.Without(g, e.From, e.To)
			for d := range g.Nodes {
				way, ok := impl.WalkAround(g, e.From, e.To, d)
				if ok {
					walks++
					checkRepair(t, g, less, way, e, d)
				}
				for _, p := range impl.Remote(g, e.From, e.To, d) {
					remotes++
					checkRemote(t, g, less, e, p, d)
				}
			}
		}
	}
	if walks < 1000 || remotes < 1000 {
		t.Errorf("only %d ways and %d remote nodes were looked at", walks, remotes)
	}
}

// checkRepair expects that less is the graph without the failed link, which is that of the edge e.
func checkRepair(t *testing.T, g, less impl.Graph, way []int, e impl.Edge, d int) {
	t.Helper()
	if len(way) < 2 || way[0] != e.From || way[1] == e.To || way[len(way)-1] != d {
		t.Fatalf("WalkAround(%v, %d, %d, %d) is %v", g, e.From, e.To, d, way)
	}
	if slices.Contains(way[1:], e.From) || usesLink(way, e.From, e.To) {
		t.Fatalf("WalkAround(%v, %d, %d, %d) is %v and returns", g, e.From, e.To, d, way)
	}
	cost := impl.CostOf(g, e.From, way[1]) + impl.Distances(g, way[1])[d]
	if got := impl.WayCost(less, way); got != cost || impl.WayCost(g, way) != cost {
		t.Fatalf("WalkAround(%v, %d, %d, %d) is %v and costs %d without the link, and not %d", g, e.From, e.To, d, way, got, cost)
	}
}

func checkRemote(t *testing.T, g, less impl.Graph, e impl.Edge, p, d int) {
	t.Helper()
	if p == e.From || p == e.To {
		t.Fatalf("Remote(%v, %d, %d, %d) has %d", g, e.From, e.To, d, p)
	}
	for _, leg := range [][2]int{{e.From, p}, {p, d}} {
		with, without := impl.Distances(g, leg[0])[leg[1]], impl.Distances(less, leg[0])[leg[1]]
		if with != without || with == impl.Far {
			t.Fatalf("Remote(%v, %d, %d, %d) has %d, but the way from %d to %d costs %d, and %d without the link",
				g, e.From, e.To, d, p, leg[0], leg[1], with, without)
		}
	}
}

// TestNoRemoteIsMissing: if the link is on no cheapest way, the ways without it are as cheap and as many.
func TestNoRemoteIsMissing(t *testing.T) {
	for _, g := range pairedGraphs(102, 40) {
		for i, e := range g.Edges {
			d := i % g.Nodes
			less, _ := impl.Without(g, e.From, e.To)
			var want []int
			for p := range g.Nodes {
				if p != e.From && p != e.To && d != e.From && sameWays(g, less, e.From, p) && sameWays(g, less, p, d) {
					want = append(want, p)
				}
			}
			if got := impl.Remote(g, e.From, e.To, d); !slices.Equal(got, want) {
				t.Fatalf("Remote(%v, %d, %d, %d) is %v and not %v", g, e.From, e.To, d, got, want)
			}
		}
	}
}

func sameWays(g, less impl.Graph, from, to int) bool {
	ways := impl.CountWays(g, from, to)
	return ways > 0 && ways == impl.CountWays(less, from, to) && impl.Distances(g, from)[to] == impl.Distances(less, from)[to]
}

// checkNoWay expects arguments that each function of chapter 10 but Coverage refuses, whichever of the
// nodes it takes for which.
func checkNoWay(t *testing.T, why string, g impl.Graph, s, n, f, d int) {
	t.Helper()
	if impl.LoopFree(g, s, n, d) || impl.LoopFree(g, s, f, d) {
		t.Errorf("%s: LoopFree(%v, %d, %d or %d, %d) is true", why, g, s, n, f, d)
	}
	if impl.NodeSafe(g, s, n, f, d) {
		t.Errorf("%s: NodeSafe(%v, %d, %d, %d, %d) is true", why, g, s, n, f, d)
	}
	checkNoRepair(t, why, g, s, f, d)
}

func checkNoRepair(t *testing.T, why string, g impl.Graph, s, f, d int) {
	t.Helper()
	if got := impl.Alternates(g, s, f, d); len(got) != 0 {
		t.Errorf("%s: Alternates(%v, %d, %d, %d) is %v", why, g, s, f, d, got)
	}
	if got := impl.BestAlternate(g, s, f, d); got != -1 {
		t.Errorf("%s: BestAlternate(%v, %d, %d, %d) is %d", why, g, s, f, d, got)
	}
	if got, ok := impl.WalkAround(g, s, f, d); ok || len(got) != 0 {
		t.Errorf("%s: WalkAround(%v, %d, %d, %d) is %v, %v", why, g, s, f, d, got, ok)
	}
	if got := impl.Remote(g, s, f, d); len(got) != 0 {
		t.Errorf("%s: Remote(%v, %d, %d, %d) is %v", why, g, s, f, d, got)
	}
}

func TestAroundInBadGraphs(t *testing.T) {
	bad := badGraphs()
	// All links are there in both directions, but the order is not that of a graph.
	turned := complete(4, 1)
	slices.Reverse(turned.Edges)
	twice := complete(4, 1)
	twice.Edges = append(twice.Edges, twice.Edges[11])
	big := complete(9, 1) // 72 edges
	bad = append(bad, turned, twice, big, complete(10, 1), roadsOf(3, edge(0, 1, 1001), edge(0, 2, 1), edge(1, 2, 1)), roadsOf(3, edge(0, 1, 0), edge(0, 2, 1), edge(1, 2, 1)))
	for _, g := range bad {
		checkCoverage(t, "a bad graph", g, 0, 0)
		for _, q := range [][4]int{{0, 1, 2, 1}, {0, 2, 1, 2}, {0, 2, 1, 3}, {1, 0, 2, 2}, {1, 2, 0, 0}, {0, 0, 0, 0}, {-1, 0, 1, 2}, {9, 8, 7, 6}, {10, 11, 12, 13}, {math.MinInt, math.MaxInt, 0, 1}} {
			checkNoWay(t, "a bad graph", g, q[0], q[1], q[2], q[3])
		}
	}
}

func TestAroundWithoutReverseEdge(t *testing.T) {
	for _, whole := range []impl.Graph{complete(4, 1), complete(6, 7), fan(5, 2), mesh(5), threeLinks(1, 1, 1), roadsOf(10, append(line(10, 1).Edges, edge(0, 2, 2))...)} {
		for i, e := range whole.Edges {
			g := impl.Graph{Nodes: whole.Nodes, Edges: slices.Delete(slices.Clone(whole.Edges), i, i+1)}
			if _, ok := impl.BothWays(g); !ok {
				t.Fatalf("%v is not valid", g)
			}
			checkCoverage(t, "an edge without reverse edge", g, 0, 0)
			for _, q := range [][4]int{{0, 2, 1, 1}, {0, 2, 1, 2}, {0, 1, 2, 2}, {2, 0, 1, 1}, {2, 1, 0, 1}, {2, 1, 0, 0}, {1, 0, 2, 2}, {1, 2, 0, 2}, {e.From, e.To, 0, e.To}, {e.To, e.From, 0, e.From}, {e.To, 0, e.From, e.From}} {
				checkNoWay(t, "an edge without reverse edge", g, q[0], q[1], q[2], q[3])
			}
		}
	}
	for _, g := range []impl.Graph{graphOf(2, edge(0, 1, 1)), graphOf(2, edge(1, 0, 1)), line(10, 1), ring(3, 1), ring(10, 5), forward(6)} {
		checkCoverage(t, "no reverse edges", g, 0, 0)
		checkNoWay(t, "no reverse edges", g, 0, 1, g.Nodes-1, 1)
		checkNoWay(t, "no reverse edges", g, 1, 0, g.Nodes-1, 0)
	}
}

func TestAroundAtNoNodes(t *testing.T) {
	for _, g := range []impl.Graph{{Nodes: 1}, {Nodes: 4}, threeLinks(1, 1, 1), complete(4, 1), complete(7, 2), fan(10, 1), roadsOf(9, edge(0, 8, 1), edge(0, 1, 1), edge(1, 8, 1))} {
		last := g.Nodes - 1
		for _, no := range append(noNodes(g.Nodes), 9, 10) {
			if no >= 0 && no < g.Nodes {
				continue
			}
			for _, x := range []int{0, 1, 2, last} {
				for _, y := range []int{0, 1, last} {
					checkNoWay(t, "s is no node", g, no, x, y, last)
					checkNoWay(t, "d is no node", g, x, last, y, no)
					checkNoRepair(t, "f is no node", g, x, no, y)
					if impl.LoopFree(g, x, no, y) || impl.NodeSafe(g, x, no, y, last) || impl.NodeSafe(g, x, y, no, last) {
						t.Errorf("LoopFree or NodeSafe of %v at %d, which is no node, is true", g, no)
					}
				}
			}
			checkNoWay(t, "all are no nodes", g, no, no, no, no)
		}
	}
}

func TestAroundAtNoNeighbors(t *testing.T) {
	for _, g := range append(fewPairedGraphs(), pairedGraphs(103, 20)...) {
		for s := range g.Nodes {
			for x := range g.Nodes {
				if c := impl.CostOf(g, s, x); c != 0 && c != impl.Far {
					continue
				}
				for d := range g.Nodes {
					checkNoRepair(t, "f is no neighbor", g, s, x, d)
					if impl.LoopFree(g, s, x, d) || impl.NodeSafe(g, s, x, (s+1)%g.Nodes, d) || impl.NodeSafe(g, s, d, x, (s+1)%g.Nodes) {
						t.Errorf("LoopFree or NodeSafe of %v from %d at %d, which is no neighbor, is true", g, s, x)
					}
				}
			}
		}
	}
}

// aroundLists are the results of all functions of chapter 10, refused calls among them.
func aroundLists(g impl.Graph) [][]int {
	have, all := impl.Coverage(g)
	lists := [][]int{{have, all}}
	for _, q := range [][3]int{{0, 1, 2}, {0, 1, 1}, {0, 2, 1}, {1, 0, 2}, {2, 0, 1}, {0, 1, 2}, {1, 1, 0}, {0, 1, 0}, {-1, 0, 1}, {0, 10, 1}} {
		s, f, d := q[0], q[1], q[2]
		way, _ := impl.WalkAround(g, s, f, d)
		lists = append(lists, impl.Alternates(g, s, f, d), way, impl.Remote(g, s, f, d), []int{impl.BestAlternate(g, s, f, d)})
		for n := range 4 {
			for _, ok := range []bool{impl.LoopFree(g, s, n, d), impl.NodeSafe(g, s, n, f, d)} {
				if ok {
					lists[0] = append(lists[0], s, n, f, d)
				}
			}
		}
	}
	return lists
}

func TestRepairsAreNewMemory(t *testing.T) {
	for _, g := range slices.Concat(pairedGraphs(104, 40), goodGraphs(), badGraphs()) {
		// The edges lie in the middle of an array, so that a write beside them shows too.
		n := len(g.Edges)
		array := slices.Repeat([]impl.Edge{edge(8, 8, 8)}, n+6)
		copy(array[2:], g.Edges)
		whole := slices.Clone(array)
		given := impl.Graph{Nodes: g.Nodes, Edges: array[2 : n+2]}
		results := graphResults{lists: aroundLists(given)}
		if !slices.Equal(array, whole) {
			t.Fatalf("the argument %v was changed", g)
		}
		if !results.ownMemory() {
			t.Fatalf("results for %v share memory with each other", g)
		}
		if !slices.Equal(array, whole) || !equalLists(aroundLists(given), aroundLists(g)) {
			t.Fatalf("results for %v depend on what was done with earlier ones", g)
		}
	}
}

// TestRepairsKeepNothing: what was found out about one graph is not used for another one, even if that
// lies in the same memory.
func TestRepairsKeepNothing(t *testing.T) {
	graphs := pairedGraphs(105, 40)
	var first [][][]int
	for _, g := range graphs {
		first = append(first, aroundLists(g))
	}
	array := make([]impl.Edge, impl.MaxEdges)
	for i := len(graphs) - 1; i >= 0; i-- {
		g := impl.Graph{Nodes: graphs[i].Nodes, Edges: array[:copy(array, graphs[i].Edges)]}
		if again := aroundLists(g); !equalLists(again, first[i]) {
			t.Fatalf("the results for %v are %v and then %v", g, first[i], again)
		}
	}
}

func TestPairedGraphsAreGood(t *testing.T) {
	for _, g := range pairedGraphs(106, 100) {
		if both, ok := impl.BothWays(g); !ok || !equalGraphs(both, g) {
			t.Errorf("%v is not as chapter 10 requires it", g)
		}
	}
}
