package tests

import (
	"math"
	"slices"
	"testing"

	"loop.example/g00681/impl"
)

// bundle is all paths of smallest cost between two nodes, and what they have in common.
type bundle struct {
	cost  int
	paths [][]int
	hops  []int
	on    [10]bool
}

// allWays has a bundle for each pair of nodes. It comes from a look at every path without a repeated
// node, and has nothing in common with the way of the program.
type allWays [10][10]bundle

func waysIn(g impl.Graph) *allWays {
	all := new(allWays)
	for from := range g.Nodes {
		eachPath(g, from, func(path []int, cost int) {
			b := &all[from][path[len(path)-1]]
			if len(b.paths) == 0 || cost < b.cost {
				*b = bundle{cost: cost}
			}
			if cost == b.cost {
				b.paths = append(b.paths, path)
			}
		})
		for to := range g.Nodes {
			all[from][to].look()
		}
	}
	return all
}

func (b *bundle) look() {
	for _, path := range b.paths {
		for _, x := range path {
			b.on[x] = true
		}
		if len(path) > 1 && !slices.Contains(b.hops, path[1]) {
			b.hops = append(b.hops, path[1])
		}
	}
	slices.Sort(b.hops)
}

// preferred expects that there is a path.
func (b *bundle) preferred() []int {
	return slices.MinFunc(b.paths, func(a, b []int) int {
		if len(a) != len(b) {
			return len(a) - len(b)
		}
		return slices.Compare(a, b)
	})
}

// before returns the last node but one of the preferred path, or -1.
func (b *bundle) before() int {
	if len(b.paths) == 0 {
		return -1
	}
	path := b.preferred()
	if len(path) == 1 {
		return -1
	}
	return path[len(path)-2]
}

// shares asks backward from each node what arrives there, where the program hands units forward.
func (all *allWays) shares(nodes, from, to, amount int) []int {
	if len(all[from][to].paths) == 0 {
		return nil
	}
	known := map[int]int{from: amount}
	var arrives func(y int) int
	arrives = func(y int) int {
		if n, ok := known[y]; ok {
			return n
		}
		sum := 0
		for x := range nodes {
			hops := all[x][to].hops
			if i := slices.Index(hops, y); i >= 0 {
				n := arrives(x)
				for n > i { // deal them out, one each
					sum++
					n -= len(hops)
				}
			}
		}
		known[y] = sum
		return sum
	}
	var shares []int
	for x := range nodes {
		shares = append(shares, arrives(x))
	}
	return shares
}

func (all *allWays) through(nodes, node int) int {
	count := 0
	for from := range nodes {
		for to := range nodes {
			if from != to && from != node && to != node && all[from][to].on[node] {
				count++
			}
		}
	}
	return count
}

func equalLists(a, b [][]int) bool {
	return slices.EqualFunc(a, b, slices.Equal[[]int])
}

// fan leads from node 0 to the last one by way of each of the others, all at the same cost.
func fan(nodes, cost int) impl.Graph {
	var edges []impl.Edge
	for x := 1; x < nodes-1; x++ {
		edges = append(edges, edge(0, x, cost), edge(x, nodes-1, cost))
	}
	return roadsOf(nodes, edges...)
}

// hopGraphs adds to the graphs of chapter 3 those with ties of three and more.
func hopGraphs(seed int64, n int) []impl.Graph {
	graphs := manyGraphs(seed, n)
	for nodes := 3; nodes <= 10; nodes++ {
		graphs = append(graphs, fan(nodes, 1), fan(nodes, 1000))
	}
	return append(graphs, threeWays(), twoFans(), ladder())
}

// threeWays leads from 0 to 6 by way of 1, 2 and 3, and from these on in three ways, in two and in one.
func threeWays() impl.Graph {
	return graphOf(7,
		edge(0, 1, 2), edge(0, 2, 2), edge(0, 3, 2),
		edge(1, 4, 2), edge(1, 5, 2), edge(1, 6, 4), edge(2, 4, 2), edge(2, 5, 2), edge(3, 6, 4),
		edge(4, 6, 2), edge(5, 6, 2), edge(6, 0, 1))
}

// twoFans has two ties of three, one after the other.
func twoFans() impl.Graph {
	return graphOf(9,
		edge(0, 1, 1), edge(0, 2, 1), edge(0, 3, 1), edge(1, 4, 1), edge(2, 4, 1), edge(3, 4, 1),
		edge(4, 5, 1), edge(4, 6, 1), edge(4, 7, 1), edge(5, 8, 1), edge(6, 8, 1), edge(7, 8, 1))
}

// ladder has four ties of two, so that ever fewer units are divided.
func ladder() impl.Graph {
	return graphOf(10,
		edge(0, 1, 3), edge(0, 2, 3), edge(1, 3, 3), edge(2, 3, 3),
		edge(3, 4, 3), edge(3, 5, 3), edge(4, 6, 3), edge(5, 6, 3),
		edge(6, 7, 3), edge(6, 8, 3), edge(7, 9, 3), edge(8, 9, 3))
}

func TestAmountLimit(t *testing.T) {
	if impl.MaxAmount != 100000 {
		t.Errorf("MaxAmount is %d", impl.MaxAmount)
	}
}

func TestHopsOfFewNodes(t *testing.T) {
	cases := []struct {
		why  string
		g    impl.Graph
		hops [][]int // from node 0
		tree []int
	}{
		{"a single node", impl.Graph{Nodes: 1}, [][]int{{}}, []int{-1}},
		{"no edges", impl.Graph{Nodes: 3}, [][]int{{}, {}, {}}, []int{-1, -1, -1}},
		{"an edge", graphOf(2, edge(0, 1, 7)), [][]int{{}, {1}}, []int{-1, 0}},
		{"an edge of the wrong direction", graphOf(2, edge(1, 0, 7)), [][]int{{}, {}}, []int{-1, -1}},
		{"a part that cannot be reached", roadsOf(4, edge(0, 3, 4), edge(1, 2, 1)), [][]int{{}, {}, {}, {3}}, []int{-1, -1, -1, 0}},
		{"a cheaper detour", graphOf(3, edge(0, 1, 1), edge(0, 2, 3), edge(1, 2, 1)), [][]int{{}, {1}, {1}}, []int{-1, 0, 1}},
		{"a detour of the same cost", graphOf(3, edge(0, 1, 1), edge(0, 2, 2), edge(1, 2, 1)), [][]int{{}, {1}, {1, 2}}, []int{-1, 0, 0}},
		{"a dearer detour", graphOf(3, edge(0, 1, 1), edge(0, 2, 2), edge(1, 2, 2)), [][]int{{}, {1}, {2}}, []int{-1, 0, 0}},
		{"a tie of two", graphOf(4, edge(0, 1, 5), edge(0, 2, 1), edge(1, 3, 1), edge(2, 3, 5)), [][]int{{}, {1}, {2}, {1, 2}}, []int{-1, 0, 0, 1}},
		{"a tie of three", fan(5, 4), [][]int{{}, {1}, {2}, {3}, {1, 2, 3}}, []int{-1, 0, 0, 0, 1}},
		{"almost a tie of three", graphOf(5, edge(0, 1, 1), edge(0, 2, 1), edge(0, 3, 2), edge(1, 4, 1), edge(2, 4, 1), edge(3, 4, 1)), [][]int{{}, {1}, {2}, {3}, {1, 2}}, []int{-1, 0, 0, 0, 1}},
		{"a tie of three, of two within it", threeWays(), [][]int{{}, {1}, {2}, {3}, {1, 2}, {1, 2}, {1, 2, 3}}, []int{-1, 0, 0, 0, 1, 1, 1}},
		{"a tie behind the first hop does not add hops", graphOf(5, edge(0, 1, 1), edge(1, 2, 1), edge(1, 3, 1), edge(2, 4, 1), edge(3, 4, 1)), [][]int{{}, {1}, {1}, {1}, {1}}, []int{-1, 0, 1, 1, 2}},
		{"two ties of three", twoFans(), [][]int{{}, {1}, {2}, {3}, {1, 2, 3}, {1, 2, 3}, {1, 2, 3}, {1, 2, 3}, {1, 2, 3}}, []int{-1, 0, 0, 0, 1, 4, 4, 4, 5}},
		{"a hop that is also reached by another", graphOf(4, edge(0, 1, 1), edge(0, 2, 2), edge(1, 2, 1), edge(2, 3, 1)), [][]int{{}, {1}, {1, 2}, {1, 2}}, []int{-1, 0, 0, 2}},
		{"the tree follows the fewest nodes", graphOf(5, edge(0, 1, 1), edge(0, 3, 2), edge(1, 2, 1), edge(2, 4, 1), edge(3, 4, 1)), [][]int{{}, {1}, {1}, {3}, {1, 3}}, []int{-1, 0, 1, 0, 3}},
		{"the tree follows the smallest node at first", graphOf(6, edge(0, 1, 1), edge(0, 2, 1), edge(1, 4, 1), edge(2, 3, 1), edge(3, 5, 1), edge(4, 5, 1)), [][]int{{}, {1}, {2}, {2}, {1}, {1, 2}}, []int{-1, 0, 0, 2, 1, 4}},
		{"the most hops", fan(10, 1000), [][]int{{}, {1}, {2}, {3}, {4}, {5}, {6}, {7}, {8}, {1, 2, 3, 4, 5, 6, 7, 8}}, []int{-1, 0, 0, 0, 0, 0, 0, 0, 0, 1}},
		{"every node on the line", forward(4), [][]int{{}, {1}, {1, 2}, {1, 2, 3}}, []int{-1, 0, 0, 0}},
		{"there and back", ring(3, 1000), [][]int{{}, {1}, {1}}, []int{-1, 0, 1}},
	}
	for _, c := range cases {
		if got := impl.HopTable(c.g, 0); !equalLists(got, c.hops) {
			t.Errorf("%s: HopTable is %v", c.why, got)
		}
		for to, hops := range c.hops {
			if got := impl.HopsTo(c.g, 0, to); !slices.Equal(got, hops) {
				t.Errorf("%s: HopsTo to %d is %v", c.why, to, got)
			}
		}
		if got := impl.TreeOf(c.g, 0); !slices.Equal(got, c.tree) {
			t.Errorf("%s: TreeOf is %v", c.why, got)
		}
	}
}

// TestHopsAndTrees compares the hops and the trees with a look at all paths.
func TestHopsAndTrees(t *testing.T) {
	for _, g := range hopGraphs(40, 250) {
		all := waysIn(g)
		for from := range g.Nodes {
			table, tree := impl.HopTable(g, from), impl.TreeOf(g, from)
			if len(table) != g.Nodes || len(tree) != g.Nodes {
				t.Fatalf("HopTable(%v, %d) is %v, TreeOf is %v", g, from, table, tree)
			}
			for to := range g.Nodes {
				hops := all[from][to].hops
				if got := impl.HopsTo(g, from, to); !slices.Equal(got, hops) {
					t.Fatalf("HopsTo(%v, %d, %d) is %v and not %v", g, from, to, got, hops)
				}
				if !slices.Equal(table[to], hops) {
					t.Fatalf("HopTable(%v, %d) is %v, but to %d it is %v", g, from, table, to, hops)
				}
				if before := all[from][to].before(); tree[to] != before {
					t.Fatalf("TreeOf(%v, %d) is %v, but before %d is %d", g, from, tree, to, before)
				}
			}
		}
	}
}

// TestOnWayAndThrough compares what is said of the nodes between with a look at all paths.
func TestOnWayAndThrough(t *testing.T) {
	for _, g := range hopGraphs(41, 60) {
		all := waysIn(g)
		for node := range g.Nodes {
			for from := range g.Nodes {
				for to := range g.Nodes {
					if got := impl.OnWay(g, from, to, node); got != all[from][to].on[node] {
						t.Fatalf("OnWay(%v, %d, %d, %d) is %v", g, from, to, node, got)
					}
				}
			}
			if got := impl.Through(g, node); got != all.through(g.Nodes, node) {
				t.Fatalf("Through(%v, %d) is %d and not %d", g, node, got, all.through(g.Nodes, node))
			}
		}
	}
}

func TestOnWayOfFewNodes(t *testing.T) {
	cases := []struct {
		why      string
		g        impl.Graph
		from, to int
		nodes    []int
	}{
		{"a single node", impl.Graph{Nodes: 1}, 0, 0, []int{0}},
		{"from and to are the same", ring(4, 1), 2, 2, []int{2}},
		{"no path, not even the ends", impl.Graph{Nodes: 3}, 0, 2, nil},
		{"the edge leads back", graphOf(3, edge(1, 0, 1)), 0, 1, nil},
		{"an edge", graphOf(3, edge(0, 2, 9)), 0, 2, []int{0, 2}},
		{"a tie of different lengths", graphOf(3, edge(0, 1, 1), edge(0, 2, 2), edge(1, 2, 1)), 0, 2, []int{0, 1, 2}},
		{"a dearer detour", graphOf(3, edge(0, 1, 1), edge(0, 2, 2), edge(1, 2, 2)), 0, 2, []int{0, 2}},
		{"a tie of three", fan(5, 1000), 0, 4, []int{0, 1, 2, 3, 4}},
		{"and back", fan(5, 1000), 4, 0, []int{0, 1, 2, 3, 4}},
		{"across it", fan(5, 1000), 1, 2, []int{0, 1, 2, 4}},
		{"a dead end on the way", graphOf(4, edge(0, 1, 1), edge(0, 2, 1), edge(1, 3, 1)), 0, 3, []int{0, 1, 3}},
		{"the longest path", line(10, 1000), 0, 9, []int{0, 1, 2, 3, 4, 5, 6, 7, 8, 9}},
	}
	for _, c := range cases {
		for node := range c.g.Nodes {
			if got := impl.OnWay(c.g, c.from, c.to, node); got != slices.Contains(c.nodes, node) {
				t.Errorf("%s: OnWay of %d is %v", c.why, node, got)
			}
		}
	}
}

func TestThroughOfFewNodes(t *testing.T) {
	star := roadsOf(10, edge(4, 0, 3), edge(4, 1, 3), edge(4, 2, 3), edge(4, 3, 3), edge(4, 5, 3), edge(4, 6, 3), edge(4, 7, 3), edge(4, 8, 3), edge(4, 9, 3))
	cases := []struct {
		why  string
		g    impl.Graph
		want []int
	}{
		{"a single node", impl.Graph{Nodes: 1}, []int{0}},
		{"no edges", impl.Graph{Nodes: 4}, []int{0, 0, 0, 0}},
		{"two nodes", roadsOf(2, edge(0, 1, 1)), []int{0, 0}},
		{"a line in one direction", line(4, 2), []int{0, 2, 2, 0}},
		{"a line in both", roadsOf(4, line(4, 2).Edges...), []int{0, 4, 4, 0}},
		{"a ring in one direction", ring(4, 1), []int{3, 3, 3, 3}},
		{"a ring in both", roadsOf(4, ring(4, 1).Edges...), []int{2, 2, 2, 2}},
		{"a tie of three", fan(5, 1), []int{6, 2, 2, 2, 6}},
		{"a star", star, []int{0, 0, 0, 0, 72, 0, 0, 0, 0, 0}},
		{"the longest line", roadsOf(10, line(10, 1000).Edges...), []int{0, 16, 28, 36, 40, 40, 36, 28, 16, 0}},
	}
	for _, c := range cases {
		for node, want := range c.want {
			if got := impl.Through(c.g, node); got != want {
				t.Errorf("%s: Through of %d is %d and not %d", c.why, node, got, want)
			}
		}
	}
}

func TestSharesOfFewUnits(t *testing.T) {
	square := roadsOf(4, edge(0, 1, 1), edge(0, 2, 1), edge(0, 3, 3), edge(1, 3, 1), edge(2, 3, 1))
	cases := []struct {
		why              string
		g                impl.Graph
		from, to, amount int
		want             []int
	}{
		{"a single node", impl.Graph{Nodes: 1}, 0, 0, 1, []int{1}},
		{"a single node, all units", impl.Graph{Nodes: 1}, 0, 0, 100000, []int{100000}},
		{"from and to are the same", square, 2, 2, 7, []int{0, 0, 7, 0}},
		{"from and to are the same, without edges", impl.Graph{Nodes: 3}, 1, 1, 100000, []int{0, 100000, 0}},
		{"no path", impl.Graph{Nodes: 3}, 0, 2, 5, nil},
		{"only a path back", graphOf(2, edge(1, 0, 1)), 0, 1, 5, nil},
		{"an edge", graphOf(2, edge(0, 1, 1)), 0, 1, 1, []int{1, 1}},
		{"a line", line(10, 1000), 0, 9, 100000, slices.Repeat([]int{100000}, 10)},
		{"part of a line", line(5, 1), 1, 3, 9, []int{0, 9, 9, 9, 0}},
		{"one unit, two hops", square, 0, 3, 1, []int{1, 1, 0, 1}},
		{"two units, two hops", square, 0, 3, 2, []int{2, 1, 1, 2}},
		{"five units, two hops", square, 0, 3, 5, []int{5, 3, 2, 5}},
		{"all units, two hops", square, 0, 3, 100000, []int{100000, 50000, 50000, 100000}},
		{"one unit, three hops", fan(5, 1), 0, 4, 1, []int{1, 1, 0, 0, 1}},
		{"two units, three hops", fan(5, 1), 0, 4, 2, []int{2, 1, 1, 0, 2}},
		{"three units, three hops", fan(5, 1), 0, 4, 3, []int{3, 1, 1, 1, 3}},
		{"four units, three hops", fan(5, 1), 0, 4, 4, []int{4, 2, 1, 1, 4}},
		{"five units, three hops", fan(5, 1), 0, 4, 5, []int{5, 2, 2, 1, 5}},
		{"six units, three hops", fan(5, 1), 0, 4, 6, []int{6, 2, 2, 2, 6}},
		{"all units but one, three hops", fan(5, 1), 0, 4, 99999, []int{99999, 33333, 33333, 33333, 99999}},
		{"all units, three hops", fan(5, 1), 0, 4, 100000, []int{100000, 33334, 33333, 33333, 100000}},
		{"five units, eight hops", fan(10, 1000), 9, 0, 5, []int{5, 1, 1, 1, 1, 1, 0, 0, 0, 5}},
		{"all units but one, eight hops", fan(10, 1000), 0, 9, 99999, []int{99999, 12500, 12500, 12500, 12500, 12500, 12500, 12500, 12499, 99999}},
		{"five units, two ties of three", twoFans(), 0, 8, 5, []int{5, 2, 2, 1, 5, 2, 2, 1, 5}},
		{"eleven units, three ways, then three, two and one", threeWays(), 0, 6, 11, []int{11, 4, 4, 3, 4, 3, 11}},
		{"three units, four ties of two", ladder(), 0, 9, 3, []int{3, 2, 1, 3, 2, 1, 3, 2, 1, 3}},
		{"seven units, all ways on a line of four", forward(4), 0, 3, 7, []int{7, 3, 4, 7}},
		{"one unit, all ways on a line of four", forward(4), 0, 3, 1, []int{1, 1, 1, 1}},
		{"a node divides what comes from two", graphOf(6, edge(0, 1, 1), edge(0, 2, 1), edge(1, 3, 1), edge(1, 4, 1), edge(2, 3, 1), edge(2, 4, 1), edge(3, 5, 1), edge(4, 5, 1)), 0, 5, 6, []int{6, 3, 3, 4, 2, 6}},
		{"a smaller node behind a greater one", graphOf(4, edge(3, 2, 1), edge(3, 1, 2), edge(2, 1, 1), edge(1, 0, 1)), 3, 0, 3, []int{3, 3, 1, 3}},
	}
	for _, c := range cases {
		if got := impl.Shares(c.g, c.from, c.to, c.amount); !slices.Equal(got, c.want) {
			t.Errorf("%s: Shares is %v and not %v", c.why, got, c.want)
		}
	}
}

func TestShares(t *testing.T) {
	for i, g := range hopGraphs(42, 60) {
		all := waysIn(g)
		for from := range g.Nodes {
			for to := range g.Nodes {
				for _, amount := range []int{1, 2, 3, 5, 7 + i} {
					want := all.shares(g.Nodes, from, to, amount)
					if got := impl.Shares(g, from, to, amount); !slices.Equal(got, want) {
						t.Fatalf("Shares(%v, %d, %d, %d) is %v and not %v", g, from, to, amount, got, want)
					}
				}
			}
		}
	}
}

func TestSharesOfManyUnits(t *testing.T) {
	for _, g := range []impl.Graph{fan(5, 1), threeWays(), twoFans(), ladder(), forward(6), someEdges(10, impl.MaxEdges, always(1))} {
		all := waysIn(g)
		last := g.Nodes - 1
		for _, amount := range []int{999, 1000, 65537, impl.MaxAmount - 2, impl.MaxAmount - 1, impl.MaxAmount} {
			want := all.shares(g.Nodes, 0, last, amount)
			if got := impl.Shares(g, 0, last, amount); !slices.Equal(got, want) {
				t.Errorf("Shares(%v, 0, %d, %d) is %v and not %v", g, last, amount, got, want)
			}
		}
	}
}

func TestSharesRefusesAmounts(t *testing.T) {
	for _, g := range goodGraphs() {
		for from := range g.Nodes {
			for to := range g.Nodes {
				for _, amount := range []int{0, -1, -7, impl.MaxAmount + 1, 2 * impl.MaxAmount, math.MinInt, math.MaxInt} {
					if got := impl.Shares(g, from, to, amount); len(got) != 0 {
						t.Errorf("Shares(%v, %d, %d, %d) is %v", g, from, to, amount, got)
					}
				}
			}
		}
	}
}

// TestHopsGuarantee: every next hop is closer to the destination by the cost of its edge, every
// neighbor that is closer by it is a next hop, and following next hops leads to the destination.
func TestHopsGuarantee(t *testing.T) {
	for _, g := range hopGraphs(43, 250) {
		d := impl.AllDistances(g)
		for x := range g.Nodes {
			for to := range g.Nodes {
				hops := impl.HopsTo(g, x, to)
				if (len(hops) > 0) != (x != to && d[x][to] != impl.Far) {
					t.Fatalf("in %v the hops from %d to %d, at a distance of %d, are %v", g, x, to, d[x][to], hops)
				}
				for y := range g.Nodes {
					cost := impl.CostOf(g, x, y)
					closer := x != to && x != y && cost != impl.Far && d[y][to] != impl.Far && d[y][to]+cost == d[x][to]
					if slices.Contains(hops, y) != closer {
						t.Fatalf("in %v the hops from %d to %d are %v, the distances from %d and %d are %d and %d", g, x, to, hops, x, y, d[x][to], d[y][to])
					}
				}
			}
		}
	}
}

func TestCheapestWayFollowsHops(t *testing.T) {
	for _, g := range hopGraphs(44, 120) {
		for from := range g.Nodes {
			tree := impl.TreeOf(g, from)
			for to := range g.Nodes {
				way, ok := impl.CheapestWay(g, from, to)
				for i := 1; i < len(way); i++ {
					if hops := impl.HopsTo(g, way[i-1], to); !slices.Contains(hops, way[i]) {
						t.Fatalf("in %v the cheapest way %v does not follow the hops %v from %d", g, way, hops, way[i-1])
					}
					// The beginning of a cheapest way is one too, so the tree has all of it.
					if tree[way[i]] != way[i-1] {
						t.Fatalf("in %v the cheapest way %v does not follow the tree %v", g, way, tree)
					}
				}
				for _, x := range way {
					if !impl.OnWay(g, from, to, x) {
						t.Fatalf("in %v %d is not on the way from %d to %d", g, x, from, to)
					}
				}
				if !ok && tree[to] != -1 {
					t.Fatalf("in %v there is no way from %d to %d, but the tree is %v", g, from, to, tree)
				}
			}
		}
	}
}

// TestSharesGuarantee: all units that set out arrive, no node receives more, and a node passes on
// what arrives there to its next hops, evenly and the greater parts first.
func TestSharesGuarantee(t *testing.T) {
	for i, g := range hopGraphs(45, 60) {
		d := impl.AllDistances(g)
		for to := range g.Nodes {
			var hops [][]int
			for x := range g.Nodes {
				hops = append(hops, impl.HopsTo(g, x, to))
			}
			for from := range g.Nodes {
				for _, amount := range []int{1, 2, 4, 1 + i*7919%impl.MaxAmount, impl.MaxAmount} {
					checkShares(t, g, d, hops, from, to, amount)
				}
			}
		}
	}
}

func checkShares(t *testing.T, g impl.Graph, d, hops [][]int, from, to, amount int) {
	t.Helper()
	shares := impl.Shares(g, from, to, amount)
	if d[from][to] == impl.Far {
		if len(shares) != 0 {
			t.Fatalf("Shares(%v, %d, %d, %d) without a path is %v", g, from, to, amount, shares)
		}
		return
	}
	if len(shares) != g.Nodes || shares[from] != amount || shares[to] != amount {
		t.Fatalf("Shares(%v, %d, %d, %d) is %v", g, from, to, amount, shares)
	}
	passed := make([]int, g.Nodes)
	passed[from] = amount
	for x, n := range shares {
		if n < 0 || n > amount || n > 0 && d[from][x]+d[x][to] != d[from][to] {
			t.Fatalf("Shares(%v, %d, %d, %d) is %v at %d", g, from, to, amount, shares, x)
		}
		for i, hop := range hops[x] {
			passed[hop] += (n + len(hops[x]) - 1 - i) / len(hops[x])
		}
	}
	if !slices.Equal(passed, shares) {
		t.Fatalf("Shares(%v, %d, %d, %d) is %v, but passed on is %v", g, from, to, amount, shares, passed)
	}
}

func TestChangedOfFewNodes(t *testing.T) {
	square := roadsOf(4, edge(0, 1, 1), edge(0, 2, 1), edge(0, 3, 3), edge(1, 3, 1), edge(2, 3, 1))
	cut, _ := impl.Without(square, 1, 3)
	far := roadsOf(4, edge(0, 1, 4), edge(0, 2, 4), edge(0, 3, 12), edge(1, 3, 4), edge(2, 3, 4))
	straight := roadsOf(4, edge(0, 1, 1), edge(0, 2, 1), edge(0, 3, 2), edge(1, 3, 1), edge(2, 3, 1))
	cases := []struct {
		why  string
		a, b impl.Graph
		from int
		want []int
	}{
		{"a single node", impl.Graph{Nodes: 1}, impl.Graph{Nodes: 1}, 0, nil},
		{"no edges", impl.Graph{Nodes: 10}, impl.Graph{Nodes: 10}, 9, nil},
		{"the same graph", square, square, 2, nil},
		{"other costs, but the same hops", square, far, 0, nil},
		{"one hop of two is gone", square, cut, 0, []int{3}},
		{"a link of this node is gone", square, cut, 1, []int{2, 3}},
		{"a link of the other node is gone", square, cut, 3, []int{0, 1}},
		{"a far link is gone, one hop of two with it", square, cut, 2, []int{1}},
		{"a far link is gone, but not the way", ring(5, 1), graphOf(5, ring(5, 1).Edges[:4]...), 0, nil},
		{"a third hop", square, straight, 0, []int{3}},
		{"the same number of hops, but others", graphOf(3, edge(0, 1, 1), edge(1, 2, 1), edge(0, 2, 3)), graphOf(3, edge(0, 1, 1), edge(1, 2, 3), edge(0, 2, 3)), 0, []int{2}},
		{"all links are gone", square, impl.Graph{Nodes: 4}, 0, []int{1, 2, 3}},
		{"a node can no longer be reached", line(4, 1), graphOf(4, edge(0, 1, 1), edge(1, 2, 1)), 0, []int{3}},
		{"a link behind a node that cannot be reached", graphOf(4, edge(2, 3, 1)), graphOf(4, edge(3, 2, 1)), 0, nil},
		{"the link back is not on the way", roadsOf(3, edge(0, 1, 1), edge(1, 2, 1)), graphOf(3, edge(0, 1, 1), edge(1, 2, 1)), 0, nil},
		{"only one of three hops stays", fan(5, 2), graphOf(5, edge(0, 1, 3), edge(0, 2, 2), edge(0, 3, 3), edge(1, 4, 2), edge(2, 4, 2), edge(3, 4, 2)), 0, []int{4}},
	}
	for _, c := range cases {
		for _, pair := range [][2]impl.Graph{{c.a, c.b}, {c.b, c.a}} {
			if got := impl.Changed(pair[0], pair[1], c.from); !slices.Equal(got, c.want) {
				t.Errorf("%s: Changed is %v and not %v", c.why, got, c.want)
			}
		}
	}
}

// variants are graphs that differ little from g.
func variants(g impl.Graph) []impl.Graph {
	var out []impl.Graph
	for i, e := range g.Edges {
		less, _ := impl.Without(g, e.From, e.To)
		dearer := impl.Graph{Nodes: g.Nodes, Edges: slices.Clone(g.Edges)}
		dearer.Edges[i].Cost = min(e.Cost+1, impl.MaxCost)
		out = append(out, less, dearer)
	}
	return append(out, impl.Graph{Nodes: g.Nodes}, g)
}

func TestChanged(t *testing.T) {
	for i, g := range hopGraphs(46, 50) {
		all := waysIn(g)
		list := variants(g)
		for _, k := range []int{i, 5*i + 1, len(list) - 1, len(list) - 2} {
			h := list[k%len(list)]
			other := waysIn(h)
			for from := range g.Nodes {
				var want []int
				for x := range g.Nodes {
					if !slices.Equal(all[from][x].hops, other[from][x].hops) {
						want = append(want, x)
					}
				}
				there, back := impl.Changed(g, h, from), impl.Changed(h, g, from)
				if !slices.Equal(there, want) || !slices.Equal(back, want) {
					t.Fatalf("Changed(%v, %v, %d) is %v, and %v if exchanged, and not %v", g, h, from, there, back, want)
				}
			}
		}
	}
}

func TestChangedOfDifferentSizes(t *testing.T) {
	for i, g := range goodGraphs() {
		for j, h := range goodGraphs() {
			if g.Nodes == h.Nodes {
				continue
			}
			for _, from := range []int{0, min(g.Nodes, h.Nodes) - 1, max(g.Nodes, h.Nodes) - 1} {
				if got := impl.Changed(g, h, from); len(got) != 0 {
					t.Errorf("Changed of graphs %d and %d with %d and %d nodes from %d is %v", i, j, g.Nodes, h.Nodes, from, got)
				}
			}
		}
	}
}

func TestHopsOfNoNodes(t *testing.T) {
	for _, g := range goodGraphs() {
		empty := impl.Graph{Nodes: g.Nodes}
		for _, no := range noNodes(g.Nodes) {
			if got := impl.HopTable(g, no); len(got) != 0 {
				t.Errorf("HopTable(%v, %d) is %v", g, no, got)
			}
			if got := impl.TreeOf(g, no); len(got) != 0 {
				t.Errorf("TreeOf(%v, %d) is %v", g, no, got)
			}
			if got := append(impl.Changed(g, empty, no), impl.Changed(empty, g, no)...); len(got) != 0 {
				t.Errorf("Changed(%v, %d) is %v", g, no, got)
			}
			if got := impl.Through(g, no); got != -1 {
				t.Errorf("Through(%v, %d) is %d", g, no, got)
			}
			for _, x := range []int{0, g.Nodes - 1, no} {
				for _, pair := range [][2]int{{x, no}, {no, x}} {
					checkNoPath(t, g, pair[0], pair[1])
				}
				if impl.OnWay(g, x, x, no) || impl.OnWay(g, 0, x, no) || impl.OnWay(g, x, g.Nodes-1, no) {
					t.Errorf("OnWay(%v) from or to %d of %d is true", g, x, no)
				}
			}
		}
	}
}

func checkNoPath(t *testing.T, g impl.Graph, from, to int) {
	t.Helper()
	if got := impl.HopsTo(g, from, to); len(got) != 0 {
		t.Errorf("HopsTo(%v, %d, %d) is %v", g, from, to, got)
	}
	for _, node := range []int{0, from, to, g.Nodes - 1} {
		if impl.OnWay(g, from, to, node) {
			t.Errorf("OnWay(%v, %d, %d, %d) is true", g, from, to, node)
		}
	}
	for _, amount := range []int{-1, 0, 1, 2, impl.MaxAmount, impl.MaxAmount + 1} {
		if got := impl.Shares(g, from, to, amount); len(got) != 0 {
			t.Errorf("Shares(%v, %d, %d, %d) is %v", g, from, to, amount, got)
		}
	}
}

func TestHopsOfBadGraphs(t *testing.T) {
	for _, g := range badGraphs() {
		for _, pair := range [][2]int{{0, 0}, {0, 1}, {1, 0}, {1, 2}, {-1, 0}, {10, 11}, {11, 11}, {math.MinInt, math.MaxInt}} {
			checkNoPath(t, g, pair[0], pair[1])
		}
		for _, x := range []int{0, 1, 2, 9, -1, 10, math.MinInt, math.MaxInt} {
			if got := impl.HopTable(g, x); len(got) != 0 {
				t.Errorf("HopTable(%v, %d) is %v", g, x, got)
			}
			if got := impl.TreeOf(g, x); len(got) != 0 {
				t.Errorf("TreeOf(%v, %d) is %v", g, x, got)
			}
			if got := impl.Through(g, x); got != -1 {
				t.Errorf("Through(%v, %d) is %d", g, x, got)
			}
			if got := impl.Changed(g, g, x); len(got) != 0 {
				t.Errorf("Changed(%v, itself, %d) is %v", g, x, got)
			}
			for _, good := range []impl.Graph{{Nodes: 1}, {Nodes: 2}, {Nodes: 3}, {Nodes: 10}, ring(3, 1), ring(10, 1)} {
				if got := append(impl.Changed(g, good, x), impl.Changed(good, g, x)...); len(got) != 0 {
					t.Errorf("Changed of %v and %v from %d is %v", g, good, x, got)
				}
			}
		}
	}
}

// hopResults are the results of all functions of chapter 4 that return slices.
func hopResults(g, h impl.Graph) graphResults {
	var r graphResults
	for from := range min(max(g.Nodes, 0), 4) + 1 {
		r.lists = append(r.lists, impl.HopTable(g, from)...)
		r.lists = append(r.lists, impl.TreeOf(g, from), impl.Changed(g, h, from), impl.Changed(h, g, from))
		for to := range 4 {
			r.lists = append(r.lists, impl.HopsTo(g, from, to), impl.Shares(g, from, to, 5), impl.Shares(g, from, to, 0))
			impl.OnWay(g, from, to, 1)
		}
		impl.Through(g, from)
	}
	return r
}

func TestHopsAreNewMemory(t *testing.T) {
	for _, g := range append(hopGraphs(47, 0), badGraphs()...) {
		// The edges lie in the middle of an array, so that a write beside them shows too.
		n := len(g.Edges)
		array := slices.Repeat([]impl.Edge{edge(8, 8, 8)}, n+6)
		copy(array[2:], g.Edges)
		whole := slices.Clone(array)
		given := impl.Graph{Nodes: g.Nodes, Edges: array[2 : n+2]}
		other := impl.Graph{Nodes: g.Nodes, Edges: array[2 : 2+n/2]}
		results := hopResults(given, other)
		if !slices.Equal(array, whole) {
			t.Fatalf("the argument %v was changed", g)
		}
		if !results.ownMemory() {
			t.Fatalf("results for %v share memory with each other", g)
		}
		again := hopResults(given, other)
		if !slices.Equal(array, whole) {
			t.Fatalf("a result shares memory with the argument %v", g)
		}
		// What was written over the first results is not to show in later ones.
		if slices.ContainsFunc(again.lists, func(list []int) bool { return slices.Min(append(list, 0)) < -1 }) {
			t.Fatalf("a later result for %v shares memory with an earlier one", g)
		}
	}
}

// TestHopsAreTheSameAgain: the order of a map shows in none of the results.
func TestHopsAreTheSameAgain(t *testing.T) {
	for _, g := range []impl.Graph{fan(5, 1), fan(10, 1), forward(10), twoFans(), someEdges(10, impl.MaxEdges, always(1))} {
		first := hopResults(g, impl.Graph{Nodes: g.Nodes})
		for range 50 {
			again := hopResults(g, impl.Graph{Nodes: g.Nodes})
			if !equalLists(again.lists, first.lists) {
				t.Fatalf("the results for %v are %v and then %v", g, first.lists, again.lists)
			}
		}
	}
}

func TestHopGraphsAreGood(t *testing.T) {
	for _, g := range hopGraphs(48, 0) {
		if !impl.GraphOk(g) {
			t.Errorf("GraphOk(%v) is false", g)
		}
	}
}
