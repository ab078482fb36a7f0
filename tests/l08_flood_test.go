package tests

import (
	"fmt"
	"math"
	"math/rand"
	"runtime"
	"slices"
	"strings"
	"sync"
	"testing"
	"time"

	"loop.example/g00681/impl"
)

// bare is an advertisement without links and stubs.
func bare(origin, seq int) impl.Lsa {
	return impl.Lsa{Origin: origin, Seq: seq}
}

func msg(from, to int, l impl.Lsa) impl.Msg {
	return impl.Msg{From: from, To: to, Lsa: l}
}

// netOf has empty databases for the nodes that the list leaves out.
func netOf(up impl.Graph, dbs ...impl.Db) impl.Net {
	list := make([]impl.Db, up.Nodes)
	copy(list, dbs)
	return impl.Net{Up: up, Dbs: list}
}

// wired puts messages into transit.
func wired(n impl.Net, wires ...impl.Msg) impl.Net {
	n.Wires = slices.Concat(n.Wires, wires)
	return n
}

// crowded has room for so many messages. Those that it adds to n have an Origin and a Seq that no other
// message has.
func crowded(n impl.Net, room int) impl.Net {
	for len(n.Wires) < 400-room {
		n = wired(n, msg(0, 1, bare(9, 777777)))
	}
	return n
}

func dropping(n impl.Net, dropped int) impl.Net {
	n.Dropped = dropped
	return n
}

func cloneNet(n impl.Net) impl.Net {
	c := impl.Net{Up: impl.Graph{Nodes: n.Up.Nodes, Edges: slices.Clone(n.Up.Edges)}, Dropped: n.Dropped}
	for _, d := range n.Dbs {
		c.Dbs = append(c.Dbs, cloneDb(d))
	}
	for _, m := range n.Wires {
		c.Wires = append(c.Wires, msg(m.From, m.To, cloneLsa(m.Lsa)))
	}
	return c
}

func equalMsgs(a, b impl.Msg) bool {
	return a.From == b.From && a.To == b.To && equalLsas(a.Lsa, b.Lsa)
}

func equalNets(a, b impl.Net) bool {
	return equalGraphs(a.Up, b.Up) && slices.EqualFunc(a.Dbs, b.Dbs, equalDbs) &&
		slices.EqualFunc(a.Wires, b.Wires, equalMsgs) && a.Dropped == b.Dropped
}

// wiresText lists the messages as From>To:Origin#Seq.
func wiresText(n impl.Net) string {
	var words []string
	for _, m := range n.Wires {
		words = append(words, fmt.Sprintf("%d>%d:%d#%d", m.From, m.To, m.Lsa.Origin, m.Lsa.Seq))
	}
	return strings.Join(words, " ")
}

// dbsText lists the databases, with a stroke between them, as Origin#Seq.
func dbsText(n impl.Net) string {
	var parts []string
	for _, d := range n.Dbs {
		var words []string
		for _, l := range d.Lsas {
			words = append(words, fmt.Sprintf("%d#%d", l.Origin, l.Seq))
		}
		parts = append(parts, strings.Join(words, " "))
	}
	return strings.Join(parts, "|")
}

// world is the model of a network. It has cost 0 where there is no link.
type world struct {
	nodes   int
	cost    [6][6]int
	dbs     [6]*shelves
	wires   []impl.Msg
	dropped int
}

func worldOf(n impl.Net) *world {
	w := &world{nodes: n.Up.Nodes, wires: slices.Clone(n.Wires), dropped: n.Dropped}
	for _, e := range n.Up.Edges {
		w.cost[e.From][e.To] = e.Cost
	}
	for x, d := range n.Dbs {
		w.dbs[x] = shelvesOf(d)
	}
	return w
}

func (w *world) net() impl.Net {
	n := impl.Net{Up: impl.Graph{Nodes: w.nodes}, Wires: w.wires, Dropped: w.dropped}
	for x := range w.nodes {
		for y := range w.nodes {
			if w.cost[x][y] > 0 {
				n.Up.Edges = append(n.Up.Edges, edge(x, y, w.cost[x][y]))
			}
		}
		n.Dbs = append(n.Dbs, w.dbs[x].db())
	}
	return n
}

func (w *world) send(from, to int, l impl.Lsa) {
	if len(w.wires) < 400 {
		w.wires = append(w.wires, msg(from, to, l))
	} else if w.dropped < 1000000 {
		w.dropped++
	}
}

func (w *world) announce(x int) bool {
	if x < 0 || x >= w.nodes {
		return false
	}
	l := impl.Lsa{Origin: x, Seq: 1, Stubs: []impl.Stub{stub(256*x, 8, 1)}}
	if old := w.dbs[x][x]; old != nil {
		l.Seq = old.Seq + 1
	}
	if l.Seq > 1000000 {
		return false
	}
	for y, cost := range w.cost[x] {
		if cost > 0 {
			l.Links = append(l.Links, impl.Link{To: y, Cost: cost})
		}
	}
	w.dbs[x][x] = &l
	for _, k := range l.Links {
		w.send(x, k.To, l)
	}
	return true
}

func (w *world) sendDb(from, to int) {
	for _, l := range w.dbs[from] {
		if l != nil {
			w.send(from, to, *l)
		}
	}
}

// setLink leaves a world behind that is of no use if it returns false.
func (w *world) setLink(a, b, cost int) bool {
	if a > b {
		a, b = b, a
	}
	if a < 0 || a == b || b >= w.nodes || cost < 0 || cost > 1000 || cost == 0 && w.cost[a][b] == 0 {
		return false
	}
	w.cost[a][b], w.cost[b][a] = cost, cost
	if !w.announce(a) || !w.announce(b) {
		return false
	}
	if cost > 0 {
		w.sendDb(a, b)
		w.sendDb(b, a)
	}
	return true
}

func (w *world) lose(k int) bool {
	if k < 0 || k >= len(w.wires) {
		return false
	}
	w.wires = slices.Delete(slices.Clone(w.wires), k, k+1)
	return true
}

func (w *world) double(k int) bool {
	if k < 0 || k >= len(w.wires) {
		return false
	}
	w.send(w.wires[k].From, w.wires[k].To, w.wires[k].Lsa)
	return true
}

func (w *world) deliver(k int) bool {
	if k < 0 || k >= len(w.wires) {
		return false
	}
	m := w.wires[k]
	w.lose(k)
	if w.cost[m.From][m.To] == 0 {
		return true
	}
	switch w.dbs[m.To].install(m.Lsa) {
	case 0:
		for y, cost := range w.cost[m.To] {
			if cost > 0 && y != m.From {
				w.send(m.To, y, m.Lsa)
			}
		}
	case 2:
		w.send(m.To, m.From, *w.dbs[m.To][m.Lsa.Origin])
	}
	return true
}

func (w *world) settle() int {
	n := 0
	for n < 5000 && len(w.wires) > 0 {
		w.deliver(0)
		n++
	}
	return n
}

func (w *world) sync() {
	for x := range w.nodes {
		for y, cost := range w.cost[x] {
			if cost > 0 {
				w.sendDb(x, y)
			}
		}
	}
}

// parts returns for each node the smallest one that a path connects with it.
func (w *world) parts() [6]int {
	part := [6]int{0, 1, 2, 3, 4, 5}
	for range w.nodes {
		for x := range w.nodes {
			for y := range w.nodes {
				if w.cost[x][y] > 0 {
					part[x] = min(part[x], part[y])
				}
			}
		}
	}
	return part
}

func (w *world) agree() bool {
	part := w.parts()
	for x := range w.nodes {
		for y := range w.nodes {
			a, b := w.dbs[x].db(), w.dbs[y].db()
			if part[x] == part[y] && (dbChecksum(a) != dbChecksum(b) || len(a.Lsas) != len(b.Lsas)) {
				return false
			}
		}
	}
	return true
}

// act is a call of one of the functions that return a network: what the program does and what the
// model does. The number is 1 for true and 0 for false where the function returns no number.
type act struct {
	name    string
	refused int
	run     func(n impl.Net) (impl.Net, int)
	model   func(w *world) int
}

func one(ok bool) int {
	if ok {
		return 1
	}
	return 0
}

func actAt(name string, k int, run func(impl.Net, int) (impl.Net, bool), model func(*world, int) bool) act {
	return act{
		name: fmt.Sprintf("%s %d", name, k),
		run: func(n impl.Net) (impl.Net, int) {
			got, ok := run(n, k)
			return got, one(ok)
		},
		model: func(w *world) int { return one(model(w, k)) },
	}
}

func announcing(x int) act { return actAt("Announce", x, impl.Announce, (*world).announce) }

func delivering(k int) act { return actAt("Deliver", k, impl.Deliver, (*world).deliver) }

func losing(k int) act { return actAt("Lose", k, impl.Lose, (*world).lose) }

func doubling(k int) act { return actAt("Double", k, impl.Double, (*world).double) }

func linking(a, b, cost int) act {
	return act{
		name: fmt.Sprintf("SetLink %d %d %d", a, b, cost),
		run: func(n impl.Net) (impl.Net, int) {
			got, ok := impl.SetLink(n, a, b, cost)
			return got, one(ok)
		},
		model: func(w *world) int { return one(w.setLink(a, b, cost)) },
	}
}

func settling() act {
	return act{name: "Settle", refused: -1, run: impl.Settle, model: (*world).settle}
}

func syncing() act {
	return act{
		name: "SyncAll",
		run: func(n impl.Net) (impl.Net, int) {
			got, ok := impl.SyncAll(n)
			return got, one(ok)
		},
		model: func(w *world) int {
			w.sync()
			return 1
		},
	}
}

// noNet are numbers of no node of a network.
func noNet(nodes int) []int {
	return []int{-1, nodes, nodes + 1, -nodes, 6, 7, 10, math.MinInt, math.MaxInt}
}

// allActs calls every function with all arguments that matter for a network.
func allActs(n impl.Net) []act {
	acts := []act{settling(), syncing()}
	last := len(n.Wires) - 1
	for _, k := range []int{0, 1, 2, last / 2, last - 1, last, last + 1, last + 2, -1, -2, 399, 400, math.MinInt, math.MaxInt} {
		acts = append(acts, delivering(k), losing(k), doubling(k))
	}
	for x := range n.Up.Nodes {
		acts = append(acts, announcing(x))
		for y := range n.Up.Nodes {
			for _, cost := range []int{0, 1, 2, 1000, 1001, -1} {
				acts = append(acts, linking(x, y, cost))
			}
		}
	}
	for _, x := range noNet(n.Up.Nodes) {
		acts = append(acts, announcing(x), linking(x, 0, 1), linking(0, x, 1), linking(x, x, 1), linking(0, x, 0), linking(x, 0, 0))
	}
	for _, cost := range []int{math.MinInt, math.MaxInt, -1000, 1002} {
		acts = append(acts, linking(0, 1, cost), linking(1, 0, cost))
	}
	return acts
}

// checkAct compares the program with the model.
func checkAct(t *testing.T, n impl.Net, a act) (impl.Net, int) {
	t.Helper()
	w := worldOf(n)
	number := a.model(w)
	want := n
	if a.refused != number {
		want = w.net()
	}
	got, result := a.run(n)
	if result != number || !equalNets(got, want) {
		t.Fatalf("%s of %v is %v, %d and not %v, %d", a.name, n, got, result, want, number)
	}
	if !impl.NetOk(got) {
		t.Fatalf("%s of %v is %v, which is invalid", a.name, n, got)
	}
	return got, result
}

// checkRefused expects that the network stays as it is.
func checkRefused(t *testing.T, why string, n impl.Net, acts ...act) {
	t.Helper()
	for _, a := range acts {
		if got, result := a.run(n); result != a.refused || !equalNets(got, n) {
			t.Fatalf("%s: %s of %v is %v, %d", why, a.name, n, got, result)
		}
	}
}

// triangle has the links 0-1, 0-2 and 1-2, and node 3 has none.
func triangle() impl.Graph {
	return roadsOf(4, edge(0, 1, 5), edge(0, 2, 3), edge(1, 2, 4))
}

// mesh has all links.
func mesh(nodes int) impl.Graph {
	var edges []impl.Edge
	for y := range nodes {
		for x := range y {
			edges = append(edges, edge(x, y, 1+x+y))
		}
	}
	return roadsOf(nodes, edges...)
}

// loop is the ring with its links in both directions.
func loop(nodes int) impl.Graph {
	return roadsOf(nodes, ring(nodes, 2).Edges...)
}

func randomNet(random *rand.Rand) impl.Net {
	nodes := 1 + random.Intn(6)
	var edges []impl.Edge
	for y := range nodes {
		for x := range y {
			if random.Intn(3) > 0 {
				edges = append(edges, edge(x, y, []int{1, 2, 1 + random.Intn(1000), 1000}[random.Intn(4)]))
			}
		}
	}
	n := netOf(roadsOf(nodes, edges...))
	for x := range n.Dbs {
		n.Dbs[x] = busyDb(random)
	}
	if random.Intn(8) == 0 { // a node without another Seq
		x := random.Intn(nodes)
		n.Dbs[x], _ = impl.Install(n.Dbs[x], bare(x, impl.MaxSeq))
	}
	n.Dropped = []int{0, 0, 1, 5000, 999990, 999999, 1000000}[random.Intn(7)]
	wires := []int{0, 1, 2, 10, 10, 60, 200, 390, 395, 399, 400}[random.Intn(11)]
	if nodes == 1 {
		return n
	}
	for range wires {
		from, to := random.Intn(nodes), random.Intn(nodes-1)
		if to >= from {
			to++
		}
		n.Wires = append(n.Wires, msg(from, to, busyLsa(random, random.Intn(10))))
	}
	return n
}

func goodNets() []impl.Net {
	full := netOf(mesh(6))
	for x := range full.Dbs {
		full.Dbs[x] = fullDb(true, always(x))
	}
	nets := []impl.Net{
		netOf(impl.Graph{Nodes: 1}),
		netOf(impl.Graph{Nodes: 1}, fullDb(true, always(60))),
		netOf(impl.Graph{Nodes: 2}),
		netOf(impl.Graph{Nodes: 6}),
		{Up: impl.Graph{Nodes: 1, Edges: []impl.Edge{}}, Dbs: []impl.Db{{Lsas: []impl.Lsa{}}}, Wires: []impl.Msg{}},
		netOf(roadsOf(2, edge(0, 1, 1))),
		netOf(roadsOf(2, edge(0, 1, 1000)), dbOf(bare(0, 1)), dbOf(bare(0, 2), bare(1, 1))),
		netOf(triangle()),
		netOf(mesh(6)),
		netOf(loop(6)),
		full,
		crowded(full, 0),
		crowded(full, 1),
		dropping(crowded(full, 3), impl.MaxSeq),
		dropping(netOf(triangle()), impl.MaxSeq),
		dropping(netOf(triangle()), impl.MaxSeq-1),
		crowded(netOf(impl.Graph{Nodes: 2}), 0),
		dropping(crowded(netOf(mesh(3)), 0), impl.MaxSeq-1),
		wired(netOf(triangle(), dbOf(bare(0, impl.MaxSeq)), dbOf(bare(1, 3))), msg(1, 0, bare(0, 2))),
		wired(netOf(triangle(), dbOf(bare(0, 3)), dbOf(bare(1, impl.MaxSeq))), msg(1, 0, bare(0, 2))),
	}
	for i, l := range goodLsas()[:30] {
		nets = append(nets, wired(netOf(triangle(), dbOf(l)), msg(i%4, (i+1+i%3)%4, l), msg(3, 1, l), msg(0, 2, l)))
	}
	random := rand.New(rand.NewSource(80))
	for range 60 {
		nets = append(nets, randomNet(random))
	}
	return nets
}

type badNet struct {
	why string
	net impl.Net
}

// badNets are wrong in one place.
func badNets() []badNet {
	base := wired(netOf(triangle(), fullDb(false, always(3)), dbOf(bare(0, 1)), impl.Db{}, dbOf(ordinary())),
		msg(0, 1, bare(0, 1)), msg(2, 1, ordinary()), msg(3, 0, bare(9, 4)))
	base.Dropped = 5
	var bad []badNet
	add := func(why string, change func(n *impl.Net)) {
		n := cloneNet(base)
		change(&n)
		bad = append(bad, badNet{why, n})
	}
	bad = append(bad, badNet{"the zero value", impl.Net{}})
	for _, nodes := range []int{0, -1, 3, 5, math.MinInt, math.MaxInt} {
		add("another number of nodes", func(n *impl.Net) { n.Up.Nodes = nodes })
	}
	for _, nodes := range []int{7, 8, 10, 11} {
		bad = append(bad, badNet{"too many nodes", netOf(impl.Graph{Nodes: nodes})},
			badNet{"too many nodes, linked", netOf(roadsOf(nodes, edge(0, nodes-1, 1)))})
	}
	bad = append(bad, badGraphNets(base)...)
	for _, count := range []int{0, 1, 3, 5, 6, 300} {
		add("another number of databases", func(n *impl.Net) { n.Dbs = append(n.Dbs, make([]impl.Db, 300)...)[:count] })
	}
	for i, wrong := range badDbs() {
		add("in a database, "+wrong.why, func(n *impl.Net) { n.Dbs[i%4] = wrong.db })
	}
	for x := range 4 {
		add("one database in the wrong order", func(n *impl.Net) { n.Dbs[x] = dbOf(bare(1, 1), bare(0, 1)) })
	}
	for i, wrong := range badLsas() {
		add("in a message, "+wrong.why, func(n *impl.Net) { n.Wires[i%3].Lsa = wrong.lsa })
	}
	for k := range 3 {
		for _, x := range noNet(4) {
			add("a message from no node", func(n *impl.Net) { n.Wires[k].From = x })
			add("a message to no node", func(n *impl.Net) { n.Wires[k].To = x })
			add("a message between no nodes", func(n *impl.Net) { n.Wires[k].From, n.Wires[k].To = x, x+1 })
		}
		for x := range 4 {
			add("a message of a node to itself", func(n *impl.Net) { n.Wires[k].From, n.Wires[k].To = x, x })
		}
	}
	for _, count := range []int{401, 402, 800} {
		add("too many messages", func(n *impl.Net) { *n = crowded(*n, 400-count) })
	}
	for _, dropped := range []int{-1, -2, 1000001, 1000002, math.MinInt, math.MaxInt} {
		add("Dropped", func(n *impl.Net) { n.Dropped = dropped })
	}
	return bad
}

// badGraphNets are wrong in Up.
func badGraphNets(base impl.Net) []badNet {
	var bad []badNet
	add := func(why string, edges ...impl.Edge) {
		n := cloneNet(base)
		n.Up.Edges = edges
		bad = append(bad, badNet{why, n})
	}
	for _, g := range badGraphs() {
		bad = append(bad, badNet{"an invalid graph", netOf(impl.Graph{Nodes: min(max(g.Nodes, 0), 12)})})
		bad[len(bad)-1].net.Up = g
	}
	add("an edge without its reverse", edge(0, 1, 5))
	add("an edge without its reverse, backward", edge(3, 2, 5))
	for i := range base.Up.Edges {
		add("an edge is missing", slices.Delete(slices.Clone(base.Up.Edges), i, i+1)...)
		for _, cost := range []int{1, 6, 999, 1000} {
			edges := slices.Clone(base.Up.Edges)
			edges[i].Cost = cost
			add("an edge with another Cost than its reverse", edges...)
		}
		backward := slices.Clone(base.Up.Edges)
		backward[i].From, backward[i].To = backward[i].To, backward[i].From
		add("an edge that is there twice", backward...)
	}
	reversed := slices.Clone(base.Up.Edges)
	slices.Reverse(reversed)
	add("edges in the wrong order", reversed...)
	return bad
}

func TestNetLimits(t *testing.T) {
	if impl.MaxNet != 6 || impl.MaxWires != 400 {
		t.Errorf("the limits are %d and %d", impl.MaxNet, impl.MaxWires)
	}
}

func TestNetOk(t *testing.T) {
	for _, n := range goodNets() {
		if !impl.NetOk(n) {
			t.Errorf("NetOk(%v) is false", n)
		}
	}
	for _, bad := range badNets() {
		if impl.NetOk(bad.net) {
			t.Errorf("%s: NetOk(%v) is true", bad.why, bad.net)
		}
	}
}

func TestBadNetsAreOneStepAway(t *testing.T) {
	n := netOf(triangle(), fullDb(false, always(3)))
	cases := []struct {
		why  string
		net  impl.Net
		want bool
	}{
		{"MaxWires", crowded(n, 0), true},
		{"MaxWires + 1", wired(crowded(n, 0), msg(0, 1, bare(0, 1))), false},
		{"Dropped 0", dropping(n, 0), true},
		{"Dropped MaxSeq", dropping(n, 1000000), true},
		{"Dropped MaxSeq + 1", dropping(n, 1000001), false},
		{"Dropped -1", dropping(n, -1), false},
		{"no node", netOf(impl.Graph{}), false},
		{"one node", netOf(impl.Graph{Nodes: 1}), true},
		{"MaxNet nodes", netOf(impl.Graph{Nodes: 6}), true},
		{"MaxNet + 1 nodes", netOf(impl.Graph{Nodes: 7}), false},
		{"a message on no link", wired(n, msg(3, 0, bare(0, 1))), true},
		{"a message about a node that there is not", wired(n, msg(3, 0, bare(9, 1))), true},
		{"an expired message", wired(n, msg(1, 0, aged(bare(0, 1), 1, 60))), true},
	}
	for _, c := range cases {
		if got := impl.NetOk(c.net); got != c.want {
			t.Errorf("%s: NetOk is %v", c.why, got)
		}
	}
}

func TestBadNetsAreRefused(t *testing.T) {
	for _, bad := range badNets() {
		n := bad.net
		checkRefused(t, bad.why, n, settling(), syncing(), delivering(0), losing(0), doubling(0), announcing(0),
			linking(0, 1, 1), linking(1, 0, 0), linking(2, 3, 1000))
		checkRefused(t, bad.why, n, delivering(-1), losing(len(n.Wires)), doubling(2), announcing(3), announcing(-1), linking(0, 0, -1))
		if impl.Agree(n) {
			t.Errorf("%s: Agree(%v) is true", bad.why, n)
		}
	}
}

func TestNewNet(t *testing.T) {
	for nodes := 1; nodes <= 6; nodes++ {
		n, ok := impl.NewNet(nodes)
		if !ok || !impl.NetOk(n) || !equalNets(n, netOf(impl.Graph{Nodes: nodes})) {
			t.Errorf("NewNet(%d) is %v, %v", nodes, n, ok)
		}
	}
	for _, nodes := range []int{0, -1, -6, 7, 8, 10, 11, math.MinInt, math.MaxInt} {
		n, ok := impl.NewNet(nodes)
		if ok || !equalNets(n, impl.Net{}) {
			t.Errorf("NewNet(%d) is %v, %v", nodes, n, ok)
		}
	}
}

func TestEveryActOnManyNets(t *testing.T) {
	for _, n := range goodNets() {
		for _, a := range allActs(n) {
			checkAct(t, n, a)
		}
	}
}

func TestActsOneAfterTheOther(t *testing.T) {
	random := rand.New(rand.NewSource(81))
	seen := map[string]int{}
	for range 300 {
		n := randomNet(random)
		for range 20 {
			acts := allActs(n)
			a := acts[random.Intn(len(acts))]
			if few := random.Intn(20); few < 2 {
				a = acts[few] // without this, the calls that take no argument are rare
			}
			next, result := checkAct(t, n, a)
			if result != a.refused {
				seen[strings.Fields(a.name)[0]]++
			}
			n = next
		}
	}
	for _, name := range []string{"Announce", "SetLink", "Deliver", "Lose", "Double", "Settle", "SyncAll"} {
		if seen[name] < 60 {
			t.Errorf("%s has done something only %d times", name, seen[name])
		}
	}
}

// actCase compares with what is written out. An expected text that is - stands for that of the network
// before.
type actCase struct {
	why     string
	net     impl.Net
	act     act
	result  int
	wires   string
	dbs     string
	dropped int
}

func checkActCases(t *testing.T, cases []actCase) {
	t.Helper()
	for _, c := range cases {
		if c.wires == "-" {
			c.wires = wiresText(c.net)
		}
		if c.dbs == "-" {
			c.dbs = dbsText(c.net)
		}
		got, result := checkAct(t, c.net, c.act)
		if result != c.result || wiresText(got) != c.wires || dbsText(got) != c.dbs || got.Dropped != c.dropped {
			t.Errorf("%s: %s is %d with %s and %s, and %d dropped, and not %d with %s and %s, and %d dropped", c.why, c.act.name,
				result, wiresText(got), dbsText(got), got.Dropped, c.result, c.wires, c.dbs, c.dropped)
		}
	}
}

func TestAnnounce(t *testing.T) {
	empty := netOf(triangle())
	// Node 0 knows of a greater Seq of node 1 than node 1 itself.
	known := netOf(triangle(), dbOf(bare(0, 7), bare(1, 50)), dbOf(bare(1, 8), bare(2, 3)), dbOf(aged(bare(2, 9), 9, 60)))
	last := netOf(triangle(), dbOf(bare(0, 999999)), dbOf(bare(1, 1000000)), dbOf(bare(0, 1000000)))
	checkActCases(t, []actCase{
		{"two links", empty, announcing(0), 1, "0>1:0#1 0>2:0#1", "0#1|||", 0},
		{"two links, between", empty, announcing(1), 1, "1>0:1#1 1>2:1#1", "|1#1||", 0},
		{"two links, to smaller nodes", empty, announcing(2), 1, "2>0:2#1 2>1:2#1", "||2#1|", 0},
		{"no link", empty, announcing(3), 1, "", "|||3#1", 0},
		{"no node", empty, announcing(4), 0, "-", "-", 0},
		{"no node", empty, announcing(-1), 0, "-", "-", 0},
		{"behind other messages", wired(empty, msg(3, 0, bare(9, 9))), announcing(0), 1, "3>0:9#9 0>1:0#1 0>2:0#1", "0#1|||", 0},
		{"a Seq in its own database", known, announcing(0), 1, "0>1:0#8 0>2:0#8", "0#8 1#50|1#8 2#3|2#9|", 0},
		{"a greater Seq in another database", known, announcing(1), 1, "1>0:1#9 1>2:1#9", "0#7 1#50|1#9 2#3|2#9|", 0},
		{"after an expired one", known, announcing(2), 1, "2>0:2#10 2>1:2#10", "0#7 1#50|1#8 2#3|2#10|", 0},
		{"the last Seq", last, announcing(0), 1, "0>1:0#1000000 0>2:0#1000000", "0#1000000|1#1000000|0#1000000|", 0},
		{"no Seq left", last, announcing(1), 0, "-", "-", 0},
		{"no Seq left of another node", last, announcing(2), 1, "2>0:2#1 2>1:2#1", "0#999999|1#1000000|0#1000000 2#1|", 0},
		{"one node", netOf(impl.Graph{Nodes: 1}), announcing(0), 1, "", "0#1", 0},
		{"no second node", netOf(impl.Graph{Nodes: 1}), announcing(1), 0, "", "", 0},
	})
}

// TestAnnouncedWords looks at what is announced: in the database and in each message.
func TestAnnouncedWords(t *testing.T) {
	n := netOf(roadsOf(6, edge(5, 0, 1000), edge(5, 3, 1), edge(5, 1, 70), edge(0, 1, 6)),
		impl.Db{}, impl.Db{}, impl.Db{}, impl.Db{}, impl.Db{}, dbOf(aged(impl.Lsa{Origin: 5, Links: to(0, 1), Stubs: manyStubs(6)}, 41, 30)))
	want := []impl.Lsa{
		{Origin: 0, Seq: 1, Links: to(1, 6, 5, 1000), Stubs: []impl.Stub{stub(0, 8, 1)}},
		{Origin: 1, Seq: 1, Links: to(0, 6, 5, 70), Stubs: []impl.Stub{stub(256, 8, 1)}},
		{Origin: 2, Seq: 1, Stubs: []impl.Stub{stub(512, 8, 1)}},
		{Origin: 3, Seq: 1, Links: to(5, 1), Stubs: []impl.Stub{stub(768, 8, 1)}},
		{Origin: 4, Seq: 1, Stubs: []impl.Stub{stub(1024, 8, 1)}},
		{Origin: 5, Seq: 42, Links: to(0, 1000, 1, 70, 3, 1), Stubs: []impl.Stub{stub(1280, 8, 1)}},
	}
	for x, l := range want {
		got, ok := impl.Announce(n, x)
		if own, found := impl.FindLsa(got.Dbs[x], x); !ok || !found || !equalLsas(own, l) {
			t.Errorf("node %d announces %v and not %v", x, own, l)
		}
		if len(got.Wires) != len(l.Links) {
			t.Errorf("node %d announces to %s", x, wiresText(got))
		}
		for i, m := range got.Wires {
			if !equalMsgs(m, msg(x, l.Links[i].To, l)) {
				t.Errorf("node %d announces in the message %v and not %v", x, m, l)
			}
		}
	}
}

func TestSetLink(t *testing.T) {
	empty := netOf(impl.Graph{Nodes: 4})
	known := netOf(triangle(), dbOf(bare(0, 7), bare(3, 2)), dbOf(bare(1, 8), bare(2, 3)), dbOf(bare(0, 6), bare(2, 9), bare(9, 4)))
	checkActCases(t, []actCase{
		{"the first link", empty, linking(0, 1, 1), 1, "0>1:0#1 1>0:1#1 0>1:0#1 1>0:1#1", "0#1|1#1||", 0},
		{"the greater node first", empty, linking(3, 1, 1000), 1, "1>3:1#1 3>1:3#1 1>3:1#1 3>1:3#1", "|1#1||3#1", 0},
		{"behind other messages", wired(empty, msg(2, 0, bare(9, 9))), linking(0, 1, 1), 1,
			"2>0:9#9 0>1:0#1 1>0:1#1 0>1:0#1 1>0:1#1", "0#1|1#1||", 0},
		{"another link", known, linking(3, 2, 5), 1,
			"2>0:2#10 2>1:2#10 2>3:2#10 3>2:3#1 2>3:0#6 2>3:2#10 2>3:9#4 3>2:3#1", "0#7 3#2|1#8 2#3|0#6 2#10 9#4|3#1", 0},
		{"a link that there is", known, linking(0, 2, 4), 1,
			"0>1:0#8 0>2:0#8 2>0:2#10 2>1:2#10 0>2:0#8 0>2:3#2 2>0:0#6 2>0:2#10 2>0:9#4", "0#8 3#2|1#8 2#3|0#6 2#10 9#4|", 0},
		{"a link that there is, the other way round and at its cost", known, linking(2, 0, 3), 1,
			"0>1:0#8 0>2:0#8 2>0:2#10 2>1:2#10 0>2:0#8 0>2:3#2 2>0:0#6 2>0:2#10 2>0:9#4", "0#8 3#2|1#8 2#3|0#6 2#10 9#4|", 0},
		{"a cut", known, linking(0, 2, 0), 1, "0>1:0#8 2>1:2#10", "0#8 3#2|1#8 2#3|0#6 2#10 9#4|", 0},
		{"a cut, the other way round", known, linking(1, 0, 0), 1, "0>2:0#8 1>2:1#9", "0#8 3#2|1#9 2#3|0#6 2#9 9#4|", 0},
		{"the only link is cut", netOf(roadsOf(2, edge(0, 1, 9))), linking(0, 1, 0), 1, "", "0#1|1#1", 0},
	})
}

func TestSetLinkChangesTheGraph(t *testing.T) {
	n := netOf(triangle())
	cases := []struct {
		a, b, cost int
		want       impl.Graph
	}{
		{0, 1, 1, roadsOf(4, edge(0, 1, 1), edge(0, 2, 3), edge(1, 2, 4))},
		{1, 0, 1000, roadsOf(4, edge(0, 1, 1000), edge(0, 2, 3), edge(1, 2, 4))},
		{2, 1, 0, roadsOf(4, edge(0, 1, 5), edge(0, 2, 3))},
		{0, 2, 0, roadsOf(4, edge(0, 1, 5), edge(1, 2, 4))},
		{3, 0, 8, roadsOf(4, edge(0, 1, 5), edge(0, 2, 3), edge(1, 2, 4), edge(0, 3, 8))},
		{2, 3, 8, roadsOf(4, edge(0, 1, 5), edge(0, 2, 3), edge(1, 2, 4), edge(2, 3, 8))},
	}
	for _, c := range cases {
		got, ok := impl.SetLink(n, c.a, c.b, c.cost)
		if !ok || !equalGraphs(got.Up, c.want) {
			t.Errorf("SetLink(%d, %d, %d) makes it %v, %v", c.a, c.b, c.cost, got.Up, ok)
		}
		for _, x := range []int{c.a, c.b} {
			l, found := impl.FindLsa(got.Dbs[x], x)
			var links []impl.Link
			for _, e := range c.want.Edges {
				if e.From == x {
					links = append(links, impl.Link{To: e.To, Cost: e.Cost})
				}
			}
			if !found || !slices.Equal(l.Links, links) {
				t.Errorf("SetLink(%d, %d, %d): node %d announces %v", c.a, c.b, c.cost, x, l)
			}
		}
	}
}

func TestSetLinkRefuses(t *testing.T) {
	n := netOf(triangle(), dbOf(bare(0, 1)), dbOf(bare(1, 2)))
	for x := range 4 {
		for _, cost := range []int{-1, 0, 1, 1000, 1001} {
			checkRefused(t, "a node and itself", n, linking(x, x, cost))
		}
		for _, y := range noNet(4) {
			checkRefused(t, "no node", n, linking(x, y, 1), linking(y, x, 1), linking(x, y, 0), linking(y, x, 0), linking(y, y, 1))
		}
		for y := range 4 {
			for _, cost := range []int{-1, -2, -1000, 1001, 1002, math.MinInt, math.MaxInt} {
				checkRefused(t, "the cost", n, linking(x, y, cost))
			}
		}
		checkRefused(t, "there is no such link", n, linking(x, 3, 0), linking(3, x, 0))
	}
}

// TestSetLinkWithoutSeq: an Announce that is refused leaves everything as it was, the one before it
// included.
func TestSetLinkWithoutSeq(t *testing.T) {
	first := wired(netOf(triangle(), dbOf(bare(0, 1000000)), dbOf(bare(1, 5))), msg(0, 3, bare(7, 7)))
	second := wired(netOf(triangle(), dbOf(bare(0, 5)), dbOf(bare(1, 1000000))), msg(0, 3, bare(7, 7)))
	for _, n := range []impl.Net{first, second, crowded(first, 0), crowded(second, 2)} {
		for _, cost := range []int{0, 1, 5, 1000} {
			checkRefused(t, "no Seq is left", n, linking(0, 1, cost), linking(1, 0, cost))
		}
		if _, ok := impl.SetLink(n, 2, 3, 1); !ok {
			t.Errorf("SetLink between other nodes of %v is false", n)
		}
	}
	checkRefused(t, "no Seq is left", first, linking(0, 3, 1), linking(3, 0, 1), linking(0, 2, 0))
	checkRefused(t, "no Seq is left", second, linking(1, 3, 1), linking(3, 1, 1), linking(2, 1, 0))
}

func TestDeliver(t *testing.T) {
	star := roadsOf(5, edge(2, 0, 1), edge(2, 1, 1), edge(2, 3, 1), edge(2, 4, 1), edge(0, 4, 1))
	there := netOf(star, impl.Db{}, impl.Db{}, dbOf(bare(1, 5), aged(bare(7, 3), 3, 20)))
	with := func(wires ...impl.Msg) impl.Net { return wired(there, wires...) }
	dbs := "||1#5 7#3||"
	checkActCases(t, []actCase{
		{"new", with(msg(1, 2, bare(0, 1))), delivering(0), 1, "2>0:0#1 2>3:0#1 2>4:0#1", "||0#1 1#5 7#3||", 0},
		{"new, from the first neighbor", with(msg(0, 2, bare(0, 1))), delivering(0), 1, "2>1:0#1 2>3:0#1 2>4:0#1", "||0#1 1#5 7#3||", 0},
		{"new, from the last neighbor", with(msg(4, 2, bare(8, 1))), delivering(0), 1, "2>0:8#1 2>1:8#1 2>3:8#1", "||1#5 7#3 8#1||", 0},
		{"new to its own Origin", with(msg(3, 2, bare(2, 9))), delivering(0), 1, "2>0:2#9 2>1:2#9 2>4:2#9", "||1#5 2#9 7#3||", 0},
		{"new, no other neighbor", with(msg(2, 3, bare(0, 1))), delivering(0), 1, "", "||1#5 7#3|0#1|", 0},
		{"newer", with(msg(1, 2, bare(1, 6))), delivering(0), 1, "2>0:1#6 2>3:1#6 2>4:1#6", "||1#6 7#3||", 0},
		{"expired, but newer", with(msg(1, 2, aged(bare(1, 6), 6, 60))), delivering(0), 1, "2>0:1#6 2>3:1#6 2>4:1#6", "||1#6 7#3||", 0},
		{"expired, of equal Seq", with(msg(1, 2, aged(bare(7, 3), 3, 60))), delivering(0), 1, "2>0:7#3 2>3:7#3 2>4:7#3", "||1#5 7#3||", 0},
		{"younger by 11", with(msg(1, 2, aged(bare(7, 3), 3, 9))), delivering(0), 1, "2>0:7#3 2>3:7#3 2>4:7#3", "||1#5 7#3||", 0},
		{"the same", with(msg(1, 2, bare(1, 5))), delivering(0), 1, "", dbs, 0},
		{"the same, younger by 10", with(msg(1, 2, aged(bare(7, 3), 3, 10))), delivering(0), 1, "", dbs, 0},
		{"expired, and not there", with(msg(1, 2, aged(bare(0, 1), 1, 60))), delivering(0), 1, "", dbs, 0},
		{"older", with(msg(4, 2, bare(1, 4))), delivering(0), 1, "2>4:1#5", dbs, 0},
		{"older, from its Origin", with(msg(1, 2, bare(1, 1))), delivering(0), 1, "2>1:1#5", dbs, 0},
		{"older by 11", with(msg(0, 2, aged(bare(7, 3), 3, 31))), delivering(0), 1, "2>0:7#3", dbs, 0},
		{"no link", with(msg(1, 3, bare(0, 1))), delivering(0), 1, "", dbs, 0},
		{"no link, and older", wired(netOf(impl.Graph{Nodes: 2}, dbOf(bare(0, 5))), msg(1, 0, bare(0, 1))), delivering(0), 1, "", "0#5|", 0},
		{"the second message", with(msg(1, 2, bare(0, 1)), msg(1, 2, bare(0, 2)), msg(3, 2, bare(0, 3))), delivering(1), 1,
			"1>2:0#1 3>2:0#3 2>0:0#2 2>3:0#2 2>4:0#2", "||0#2 1#5 7#3||", 0},
		{"the last message", with(msg(1, 2, bare(0, 1)), msg(1, 2, bare(0, 2)), msg(0, 2, bare(1, 3))), delivering(2), 1,
			"1>2:0#1 1>2:0#2 2>0:1#5", dbs, 0},
		{"no message", there, delivering(0), 0, "", dbs, 0},
		{"before the first", with(msg(1, 2, bare(0, 1))), delivering(-1), 0, "-", dbs, 0},
		{"past the last", with(msg(1, 2, bare(0, 1))), delivering(1), 0, "-", dbs, 0},
	})
}

// TestDeliverOlder: what is sent back is the advertisement of the receiver, with its Age and words.
func TestDeliverOlder(t *testing.T) {
	own := impl.Lsa{Origin: 4, Seq: 6, Age: 33, Links: to(1, 2, 3, 4), Stubs: manyStubs(3)}
	n := wired(netOf(triangle(), impl.Db{}, dbOf(bare(0, 1), own)), msg(2, 1, aged(own, 5, 2)), msg(2, 1, aged(own, 6, 44)))
	for k := range 2 {
		got, ok := impl.Deliver(n, k)
		want := []impl.Msg{n.Wires[1-k], msg(1, 2, own)}
		if !ok || !slices.EqualFunc(got.Wires, want, equalMsgs) || !slices.EqualFunc(got.Dbs, n.Dbs, equalDbs) {
			t.Errorf("Deliver of message %d sends %v and keeps %v", k, got.Wires, got.Dbs)
		}
	}
}

// TestDeliverOnACutLink: the message is lost when the link has been cut, and arrives when the link is
// there again.
func TestDeliverOnACutLink(t *testing.T) {
	n, _ := impl.SetLink(netOf(impl.Graph{Nodes: 2}), 0, 1, 3)
	cut, ok := impl.SetLink(n, 0, 1, 0)
	if !ok || wiresText(cut) != "0>1:0#1 1>0:1#1 0>1:0#1 1>0:1#1" || dbsText(cut) != "0#2|1#2" {
		t.Fatalf("after the cut: %s and %s", wiresText(cut), dbsText(cut))
	}
	lost, ok := impl.Deliver(cut, 2)
	if !ok || wiresText(lost) != "0>1:0#1 1>0:1#1 1>0:1#1" || dbsText(lost) != "0#2|1#2" {
		t.Errorf("after a delivery: %s and %s", wiresText(lost), dbsText(lost))
	}
	quiet, deliveries := impl.Settle(cut)
	if deliveries != 4 || len(quiet.Wires) != 0 || dbsText(quiet) != "0#2|1#2" || quiet.Dropped != 0 || !impl.Agree(quiet) {
		t.Errorf("after %d deliveries: %v", deliveries, quiet)
	}
	again, _ := impl.SetLink(cut, 0, 1, 4)
	late, ok := impl.Deliver(again, 0)
	if !ok || dbsText(late) != "0#3|0#1 1#3" {
		t.Errorf("after a late delivery: %s", dbsText(late))
	}
	if settled, _ := impl.Settle(late); dbsText(settled) != "0#3 1#3|0#3 1#3" || !impl.Agree(settled) {
		t.Errorf("settled: %s", dbsText(settled))
	}
}

func TestLoseAndDouble(t *testing.T) {
	n := wired(netOf(triangle(), dbOf(bare(0, 9))), msg(0, 1, bare(0, 1)), msg(1, 3, bare(5, 2)), msg(2, 0, ordinary()))
	checkActCases(t, []actCase{
		{"the first", n, losing(0), 1, "1>3:5#2 2>0:4#70000", "-", 0},
		{"the second", n, losing(1), 1, "0>1:0#1 2>0:4#70000", "-", 0},
		{"the last", n, losing(2), 1, "0>1:0#1 1>3:5#2", "-", 0},
		{"past the last", n, losing(3), 0, "-", "-", 0},
		{"before the first", n, losing(-1), 0, "-", "-", 0},
		{"of none", netOf(triangle()), losing(0), 0, "", "-", 0},
		{"the only one", wired(netOf(triangle()), msg(0, 1, bare(0, 1))), losing(0), 1, "", "-", 0},
		{"the first", n, doubling(0), 1, "0>1:0#1 1>3:5#2 2>0:4#70000 0>1:0#1", "-", 0},
		{"the second", n, doubling(1), 1, "0>1:0#1 1>3:5#2 2>0:4#70000 1>3:5#2", "-", 0},
		{"the last", n, doubling(2), 1, "0>1:0#1 1>3:5#2 2>0:4#70000 2>0:4#70000", "-", 0},
		{"past the last", n, doubling(3), 0, "-", "-", 0},
		{"before the first", n, doubling(-1), 0, "-", "-", 0},
		{"of none", netOf(triangle()), doubling(0), 0, "", "-", 0},
	})
	for k := range 3 {
		got, _ := impl.Double(n, k)
		if !equalMsgs(got.Wires[3], n.Wires[k]) || !equalMsgs(got.Wires[k], n.Wires[k]) {
			t.Errorf("Double of %v makes %v", n.Wires[k], got.Wires[3])
		}
	}
}

// TestLoseAndDoubleChangeOnlyWires: a lost message changes only the messages in transit, and a doubled
// one is there twice.
func TestLoseAndDoubleChangeOnlyWires(t *testing.T) {
	count := func(n impl.Net, m impl.Msg) int {
		sum := 0
		for _, w := range n.Wires {
			sum += one(equalMsgs(w, m))
		}
		return sum
	}
	for _, n := range goodNets() {
		for k := 0; k < len(n.Wires); k += 1 + len(n.Wires)/7 {
			m := n.Wires[k]
			lost, _ := impl.Lose(n, k)
			double, _ := impl.Double(n, k)
			if len(lost.Wires) != len(n.Wires)-1 || count(lost, m) != count(n, m)-1 {
				t.Fatalf("Lose(%v, %d) leaves %v", n, k, lost.Wires)
			}
			full := len(n.Wires) == 400
			if full && (count(double, m) != count(n, m) || double.Dropped != min(n.Dropped+1, 1000000)) ||
				!full && (count(double, m) != count(n, m)+1 || double.Dropped != n.Dropped) {
				t.Fatalf("Double(%v, %d) is %v", n, k, double)
			}
			lost.Wires, double.Wires, double.Dropped = n.Wires, n.Wires, n.Dropped
			if !equalNets(lost, n) || !equalNets(double, n) {
				t.Fatalf("Lose or Double(%v, %d) changes more than the messages", n, k)
			}
		}
	}
}

// TestFullQueue: of what is sent, the first messages find room, and the others are counted.
func TestFullQueue(t *testing.T) {
	linked := netOf(mesh(4), dbOf(bare(1, 1), bare(2, 2)), dbOf(bare(3, 3)), dbOf(bare(0, 4)), dbOf(bare(3, 1), bare(8, 8)))
	sent := map[string]string{ // what each act sends, in order
		"Announce 2":    "2>0:2#1 2>1:2#1 2>3:2#1",
		"SetLink 0 2 1": "0>1:0#1 0>2:0#1 0>3:0#1 2>0:2#1 2>1:2#1 2>3:2#1 0>2:0#1 0>2:1#1 0>2:2#2 2>0:0#4 2>0:2#1",
		"SetLink 1 3 0": "1>0:1#1 1>2:1#1 3>0:3#2 3>2:3#2",
		"SyncAll": "0>1:1#1 0>1:2#2 0>2:1#1 0>2:2#2 0>3:1#1 0>3:2#2 1>0:3#3 1>2:3#3 1>3:3#3 " +
			"2>0:0#4 2>1:0#4 2>3:0#4 3>0:3#1 3>0:8#8 3>1:3#1 3>1:8#8 3>2:3#1 3>2:8#8",
		"Double 7": "0>1:9#777777",
	}
	for _, a := range []act{announcing(2), linking(0, 2, 1), linking(1, 3, 0), syncing(), doubling(7)} {
		words := strings.Fields(sent[a.name])
		for room := range len(words) + 2 {
			for _, dropped := range []int{0, 3, 999990, 999997, 999998, 999999, 1000000} {
				got, result := checkAct(t, dropping(crowded(linked, room), dropped), a)
				fit := min(room, len(words))
				if result != 1 || wiresText(impl.Net{Wires: got.Wires[400-room:]}) != strings.Join(words[:fit], " ") {
					t.Errorf("%s with room for %d sends %s", a.name, room, wiresText(impl.Net{Wires: got.Wires[400-room:]}))
				}
				if got.Dropped != min(dropped+len(words)-fit, 1000000) {
					t.Errorf("%s with room for %d makes Dropped %d of %d", a.name, room, got.Dropped, dropped)
				}
			}
		}
	}
}

// TestDeliverIntoFullQueue: the message that is delivered leaves its place to those that are sent.
func TestDeliverIntoFullQueue(t *testing.T) {
	base := netOf(mesh(5), dbOf(bare(8, 5)))
	news, old, same, far := msg(2, 0, bare(7, 1)), msg(2, 0, bare(8, 4)), msg(2, 0, bare(8, 5)), msg(3, 0, bare(7, 2))
	cases := []struct {
		why     string
		first   impl.Msg
		room    int
		sent    string
		dropped int
	}{
		{"new", news, 0, "0>1:7#1", 2},
		{"new, room for one more", news, 1, "0>1:7#1 0>3:7#1", 1},
		{"new, room for two more", news, 2, "0>1:7#1 0>3:7#1 0>4:7#1", 0},
		{"new, from another node", far, 0, "0>1:7#2", 2},
		{"older", old, 0, "0>2:8#5", 0},
		{"the same", same, 0, "", 0},
	}
	for _, c := range cases {
		n := crowded(wired(base, c.first), c.room)
		for _, dropped := range []int{0, 9, 999998, 999999, 1000000} {
			got, _ := checkAct(t, dropping(n, dropped), delivering(0))
			rest := impl.Net{Wires: got.Wires[len(n.Wires)-1:]}
			if wiresText(rest) != c.sent || got.Dropped != min(dropped+c.dropped, 1000000) {
				t.Errorf("%s: %s is sent, and Dropped becomes %d of %d", c.why, wiresText(rest), got.Dropped, dropped)
			}
		}
	}
}

func TestSettle(t *testing.T) {
	linked, _ := impl.SetLink(netOf(impl.Graph{Nodes: 3}), 0, 1, 2)
	row := netOf(roadsOf(4, line(4, 1).Edges...))
	checkActCases(t, []actCase{
		{"no message", netOf(triangle(), dbOf(bare(0, 3))), settling(), 0, "", "0#3|||", 0},
		{"a new link", linked, settling(), 4, "", "0#1 1#1|0#1 1#1|", 0},
		{"along a row", wired(row, msg(0, 1, bare(0, 1))), settling(), 3, "", "|0#1|0#1|0#1", 0},
		{"into a row", wired(row, msg(0, 1, bare(0, 1)), msg(3, 2, bare(3, 1))), settling(), 6, "", "3#1|0#1 3#1|0#1 3#1|0#1", 0},
		{"around", wired(netOf(triangle()), msg(0, 1, bare(0, 1))), settling(), 4, "", "0#1|0#1|0#1|", 0},
		{"back and forth", wired(netOf(roadsOf(2, edge(0, 1, 1)), dbOf(bare(0, 1)), dbOf(bare(0, 2))), msg(0, 1, bare(0, 1))), settling(), 2,
			"", "0#2|0#2", 0},
		{"no link", wired(netOf(triangle()), msg(3, 1, bare(0, 1)), msg(2, 3, bare(0, 1))), settling(), 2, "", "|||", 0},
		{"in order", wired(netOf(roadsOf(2, edge(0, 1, 1))), msg(0, 1, bare(0, 2)), msg(0, 1, bare(0, 1))), settling(), 3, "", "0#2|0#2", 0},
	})
}

// TestSettleIsManyDeliveries delivers the messages one by one.
func TestSettleIsManyDeliveries(t *testing.T) {
	for i, n := range goodNets() {
		if i%4 > 0 && len(n.Wires) > 100 {
			continue // they take long, and there are enough of them
		}
		want, count := n, 0
		for ; len(want.Wires) > 0 && count < 5000; count++ {
			want, _ = impl.Deliver(want, 0)
		}
		if got, deliveries := impl.Settle(n); deliveries != count || !equalNets(got, want) {
			t.Fatalf("Settle(%v) is %v, %d and not %v, %d", n, got, deliveries, want, count)
		}
	}
}

// TestSettleFor3199Deliveries: 400 messages, each newer than the one before it, go around a ring. When
// they come back where they have been, each but the last is answered there.
func TestSettleFor3199Deliveries(t *testing.T) {
	n := netOf(loop(6))
	for seq := 1; seq <= 400; seq++ {
		n = wired(n, msg(0, 1, bare(0, seq)))
	}
	got, deliveries := checkAct(t, n, settling())
	if deliveries != 6*400+400+399 || dbsText(got) != "0#400|0#400|0#400|0#400|0#400|0#400" || got.Dropped != 0 {
		t.Errorf("Settle is %s, %d, with %d dropped", dbsText(got), deliveries, got.Dropped)
	}
}

func TestSyncAll(t *testing.T) {
	dbs := []impl.Db{dbOf(bare(0, 7), bare(3, 2)), dbOf(bare(1, 8)), dbOf(bare(0, 6), bare(2, 9), bare(9, 4)), dbOf(bare(5, 5))}
	checkActCases(t, []actCase{
		{"no edge", netOf(impl.Graph{Nodes: 4}, dbs...), syncing(), 1, "", "-", 0},
		{"one node", netOf(impl.Graph{Nodes: 1}, dbs...), syncing(), 1, "", "-", 0},
		{"one link", netOf(roadsOf(4, edge(3, 0, 9)), dbs...), syncing(), 1, "0>3:0#7 0>3:3#2 3>0:5#5", "-", 0},
		{"a triangle", netOf(triangle(), dbs...), syncing(), 1,
			"0>1:0#7 0>1:3#2 0>2:0#7 0>2:3#2 1>0:1#8 1>2:1#8 2>0:0#6 2>0:2#9 2>0:9#4 2>1:0#6 2>1:2#9 2>1:9#4", "-", 0},
		{"behind other messages", wired(netOf(roadsOf(4, edge(1, 2, 9)), dbs...), msg(3, 0, bare(5, 5))), syncing(), 1,
			"3>0:5#5 1>2:1#8 2>1:0#6 2>1:2#9 2>1:9#4", "-", 0},
		{"empty databases", netOf(mesh(6)), syncing(), 1, "", "-", 0},
	})
}

func TestAgree(t *testing.T) {
	a, b := dbOf(bare(0, 7), bare(3, 2)), dbOf(bare(0, 7), bare(3, 3))
	older := dbOf(aged(bare(0, 7), 7, 59), aged(bare(3, 2), 2, 60))
	// An empty database has the sum 1, and so has a database of this one advertisement alone.
	blank := dbOf(lsaWithSum(t, 1000003-30))
	pair := twins(t)[0]
	row := roadsOf(3, line(3, 1).Edges...)
	cases := []struct {
		why  string
		net  impl.Net
		want bool
	}{
		{"one node", netOf(impl.Graph{Nodes: 1}, a), true},
		{"no advertisement", netOf(mesh(6)), true},
		{"equal databases", netOf(row, a, a, a), true},
		{"other Ages", netOf(row, a, older, a), true},
		{"as many advertisements, another sum, at the end", netOf(row, a, a, b), false},
		{"as many advertisements, another sum, at the beginning", netOf(row, b, a, a), false},
		{"as many advertisements, another sum, between", netOf(row, a, b, a), false},
		{"an advertisement less", netOf(row, a, a, dbOf(bare(0, 7))), false},
		{"no advertisement at one node", netOf(row, a, a), false},
		{"the same sum, but more advertisements", netOf(row, impl.Db{}, blank), false},
		{"the same sum of both, but more advertisements", netOf(roadsOf(2, edge(0, 1, 1)), impl.Db{}, blank), false},
		{"other advertisements of the same sum", netOf(row, dbOf(pair[0]), dbOf(pair[1]), dbOf(pair[0])), true},
		{"different databases, no link", netOf(impl.Graph{Nodes: 3}, a, b), true},
		{"different databases, two parts", netOf(roadsOf(4, edge(0, 3, 1), edge(1, 2, 1)), a, b, b, a), true},
		{"different databases in one part", netOf(roadsOf(4, edge(0, 3, 1), edge(1, 2, 1)), a, b, a, a), false},
		{"messages in transit", wired(netOf(row, a, a, a), msg(0, 1, bare(0, 9))), true},
		{"messages discarded", dropping(netOf(row, a, a, a), 5), true},
	}
	for _, c := range cases {
		if got := impl.Agree(c.net); got != c.want || got != worldOf(c.net).agree() {
			t.Errorf("%s: Agree is %v", c.why, got)
		}
	}
	if impl.DbSum(blank) != impl.DbSum(impl.Db{}) {
		t.Errorf("the sums are %d and %d", impl.DbSum(blank), impl.DbSum(impl.Db{}))
	}
}

func TestAgreeOnManyNets(t *testing.T) {
	random := rand.New(rand.NewSource(82))
	var seen [2]int
	for range 2000 {
		n := randomNet(random)
		few := []impl.Db{busyDb(random), busyDb(random), {}}
		for x := range n.Dbs {
			n.Dbs[x] = few[random.Intn(1+random.Intn(3))]
		}
		n.Wires = nil
		got := impl.Agree(n)
		if got != worldOf(n).agree() {
			t.Fatalf("Agree(%v) is %v", n, got)
		}
		seen[one(got)]++
	}
	if min(seen[0], seen[1]) < 300 {
		t.Errorf("the networks agree and do not: %v", seen)
	}
}

// liveStep draws a call that happens to a network in use. It loses a message only if that is asked for.
func liveStep(random *rand.Rand, n impl.Net, losses bool) act {
	nodes := n.Up.Nodes
	k := random.Intn(len(n.Wires) + 1)
	x, y := random.Intn(nodes), random.Intn(nodes)
	switch kind := random.Intn(12); {
	case kind < 2:
		return linking(x, y, 1+random.Intn(9))
	case kind < 3:
		return linking(x, y, 0)
	case kind < 4:
		return announcing(x)
	case kind < 5:
		return doubling(k)
	case kind < 8 && losses:
		return losing(k)
	case kind < 9:
		return delivering(0)
	default:
		return delivering(k)
	}
}

// ownWords reports whether each node has in its database, of each node connected with it, exactly what
// that node has of itself.
func ownWords(n impl.Net) bool {
	part := worldOf(n).parts()
	for x := range n.Dbs {
		for y := range n.Dbs {
			a, found := impl.FindLsa(n.Dbs[x], y)
			b, own := impl.FindLsa(n.Dbs[y], y)
			if part[x] == part[y] && (found != own || !equalLsas(a, b)) {
				return false
			}
		}
	}
	return true
}

// checkSettled settles the network and expects that it agrees, unless a message was discarded.
func checkSettled(t *testing.T, n impl.Net, dropped int) (impl.Net, bool) {
	t.Helper()
	got, deliveries := impl.Settle(n)
	if deliveries >= 5000 || len(got.Wires) > 0 {
		t.Fatalf("%v does not settle", n)
	}
	if got.Dropped != dropped {
		return got, false
	}
	if !impl.Agree(got) || !ownWords(got) {
		t.Fatalf("%v does not agree once it has settled: %v", n, got)
	}
	return got, true
}

func TestNetworksWithoutLossAgree(t *testing.T) {
	random := rand.New(rand.NewSource(83))
	settled := 0
	for i := range 400 {
		n, _ := impl.NewNet(1 + i%6)
		for range 4 {
			for range random.Intn(25) {
				n, _ = liveStep(random, n, false).run(n)
			}
			quiet, ok := checkSettled(t, n, 0)
			if !ok {
				break
			}
			settled++
			if random.Intn(2) == 0 {
				n = quiet
			}
		}
	}
	if settled < 1000 {
		t.Errorf("only %d networks have settled without discarding a message", settled)
	}
}

func TestNetworksWithLossesAgreeOnceSynced(t *testing.T) {
	random := rand.New(rand.NewSource(84))
	synced, before := 0, 0
	for i := range 600 {
		n, _ := impl.NewNet(1 + i%6)
		for range 10 + random.Intn(60) {
			n, _ = liveStep(random, n, true).run(n)
		}
		if i%3 == 0 { // all that is in transit is lost
			n.Wires = nil
		}
		if i%3 == 1 {
			n, _ = impl.Settle(n)
			before += one(impl.Agree(n))
		}
		both, ok := impl.SyncAll(n)
		if !ok {
			t.Fatalf("SyncAll(%v) is false", n)
		}
		if _, ok := checkSettled(t, both, n.Dropped); ok {
			synced++
		}
	}
	if synced < 400 || before > 190 {
		t.Errorf("%d networks have settled after SyncAll without discarding a message, and %d of 200 agreed before", synced, before)
	}
}

// TestCrowdedNetworksAgreeOnceSynced: messages that were discarded are lost too.
func TestCrowdedNetworksAgreeOnceSynced(t *testing.T) {
	random := rand.New(rand.NewSource(85))
	discarded := 0
	for range 20 {
		n, _ := impl.NewNet(6)
		for range 150 {
			x, y := random.Intn(6), random.Intn(6)
			n, _ = impl.SetLink(n, x, y, 1+random.Intn(9))
			if random.Intn(3) == 0 {
				n, _ = impl.Double(n, 0)
			}
		}
		n, _ = impl.Settle(n)
		discarded += one(n.Dropped > 0)
		both, _ := impl.SyncAll(n)
		if _, ok := checkSettled(t, both, n.Dropped); !ok {
			t.Errorf("SyncAll of a settled network discards messages")
		}
	}
	if discarded != 20 {
		t.Errorf("only %d networks have discarded a message", discarded)
	}
}

// roomyNet holds a network whose lists all lie in the middle of arrays.
type roomyNet struct {
	net   impl.Net
	edges []impl.Edge
	dbs   []roomyDb
	rows  []impl.Db
	wires []impl.Msg
	parts []roomyLsa
}

func roomyNetOf(n impl.Net) roomyNet {
	var r roomyNet
	r.edges = slices.Concat(slices.Repeat([]impl.Edge{edge(8, 8, 8)}, 2), n.Up.Edges, slices.Repeat([]impl.Edge{edge(7, 7, 7)}, 8))
	r.rows = []impl.Db{dbOf(bare(77, 77)), {}}
	for _, d := range n.Dbs {
		part := roomyDbOf(d)
		r.dbs = append(r.dbs, part)
		r.rows = append(r.rows, part.db)
	}
	r.rows = append(r.rows, dbOf(bare(78, 78)), dbOf(bare(79, 79)))
	r.wires = []impl.Msg{msg(77, 77, bare(77, 77)), {}}
	for _, m := range n.Wires {
		part := roomy(m.Lsa)
		r.parts = append(r.parts, part)
		r.wires = append(r.wires, msg(m.From, m.To, part.lsa))
	}
	for range 20 {
		r.wires = append(r.wires, msg(78, 78, bare(78, 78)))
	}
	r.net = impl.Net{
		Up:      impl.Graph{Nodes: n.Up.Nodes, Edges: r.edges[2 : 2+len(n.Up.Edges)]},
		Dbs:     r.rows[2 : 2+len(n.Dbs)],
		Wires:   r.wires[2 : 2+len(n.Wires)],
		Dropped: n.Dropped,
	}
	return r
}

func (r roomyNet) equal(s roomyNet) bool {
	return slices.Equal(r.edges, s.edges) && slices.EqualFunc(r.dbs, s.dbs, roomyDb.equal) && slices.EqualFunc(r.rows, s.rows, equalDbs) &&
		slices.EqualFunc(r.wires, s.wires, equalMsgs) && slices.EqualFunc(r.parts, s.parts, roomyLsa.equal)
}

// ownNets overwrites every slice of the networks, the inner ones first, and reports whether each still
// holds what was written afterwards.
func ownNets(nets []impl.Net) bool {
	var dbs dbResults
	for _, n := range nets {
		dbs.dbs = append(dbs.dbs, n.Dbs...)
		dbs.graphs.graphs = append(dbs.graphs.graphs, n.Up)
		for _, m := range n.Wires {
			dbs.lsas = append(dbs.lsas, m.Lsa)
		}
	}
	own := dbs.ownMemory()
	for i, n := range nets {
		fill(n.Wires, msg(-i, i, impl.Lsa{}))
		fill(n.Dbs, dbOf(bare(-i, i)))
	}
	for i, n := range nets {
		own = own && !slices.ContainsFunc(n.Wires[:cap(n.Wires)], func(m impl.Msg) bool { return !equalMsgs(m, msg(-i, i, impl.Lsa{})) })
		own = own && !slices.ContainsFunc(n.Dbs[:cap(n.Dbs)], func(d impl.Db) bool { return !equalDbs(d, dbOf(bare(-i, i))) })
	}
	return own
}

// runAll returns all networks that the calls return, the refused ones among them.
func runAll(n impl.Net, acts []act) []impl.Net {
	var results []impl.Net
	for _, a := range acts {
		got, _ := a.run(n)
		results = append(results, got)
	}
	fresh, _ := impl.NewNet(3)
	impl.NetOk(n)
	impl.Agree(n)
	return append(results, fresh)
}

func TestNetsAreNewMemory(t *testing.T) {
	list := goodNets()[:60]
	for i, bad := range badNets() {
		if i%9 == 0 || len(bad.net.Wires) > 4 || len(bad.net.Dbs) != len(bad.net.Wires)+1 {
			list = append(list, bad.net)
		}
	}
	for _, n := range list {
		acts := []act{settling(), syncing(), announcing(0), announcing(1), announcing(9), linking(0, 1, 1), linking(1, 2, 8),
			linking(1, 0, 0), linking(2, 0, 0), linking(0, 0, 1), losing(0), losing(1), losing(-1), doubling(0), doubling(-1),
			delivering(0), delivering(1), delivering(len(n.Wires) - 1), delivering(len(n.Wires))}
		argument := roomyNetOf(n)
		results := runAll(argument.net, acts)
		if !argument.equal(roomyNetOf(n)) {
			t.Fatalf("the argument %v was changed", n)
		}
		if !ownNets(results) {
			t.Fatalf("results for %v share memory with each other", n)
		}
		if !argument.equal(roomyNetOf(n)) {
			t.Fatalf("a result shares memory with the argument %v", n)
		}
		if !slices.EqualFunc(runAll(argument.net, acts), runAll(n, acts), equalNets) {
			t.Fatalf("results for %v depend on what was done with earlier ones", n)
		}
	}
}

// TestSchedulesDoNotMatterForNets makes the same calls many times, many of them at once, with few
// processors and with many.
func TestSchedulesDoNotMatterForNets(t *testing.T) {
	defer runtime.GOMAXPROCS(runtime.GOMAXPROCS(0))
	random := rand.New(rand.NewSource(86))
	for i := range 24 {
		runtime.GOMAXPROCS([]int{1, 2, 8}[i%3])
		n := randomNet(random)
		acts := append(allActs(n)[:8], announcing(0), linking(0, n.Up.Nodes-1, 3))
		want, valid, agrees := runAll(n, acts), impl.NetOk(n), impl.Agree(n)
		var callers sync.WaitGroup
		for range 16 {
			callers.Add(1)
			go func() {
				defer callers.Done()
				for range 3 {
					if !slices.EqualFunc(runAll(n, acts), want, equalNets) || impl.NetOk(n) != valid || impl.Agree(n) != agrees {
						t.Errorf("the same calls for %v have other results", n)
					}
				}
			}()
		}
		callers.Wait()
	}
}

// checkGoroutines expects the number of goroutines that there were before.
func checkGoroutines(t *testing.T, before int) {
	t.Helper()
	// A goroutine that has done all its work may take a moment to go.
	for range 1000 {
		if runtime.NumGoroutine() <= before {
			return
		}
		time.Sleep(time.Millisecond)
	}
	t.Errorf("%d goroutines were there before, and %d are now", before, runtime.NumGoroutine())
}

// TestNoGoroutineGoesOn: whatever was started has ended when the call returns.
func TestNoGoroutineGoesOn(t *testing.T) {
	before := runtime.NumGoroutine()
	for _, n := range goodNets()[:40] {
		for _, a := range []act{settling(), syncing(), announcing(0), linking(0, 1, 1), losing(0), doubling(0), delivering(0), announcing(-1)} {
			a.run(n)
		}
		impl.Agree(n)
		impl.NetOk(n)
	}
	checkGoroutines(t, before)
}
