package tests

import (
	"bytes"
	"math"
	"math/big"
	"math/rand"
	"slices"
	"testing"

	"loop.example/g00681/impl"
)

// to lists links: the node and the cost of each.
func to(pairs ...int) []impl.Link {
	var links []impl.Link
	for i := 0; i < len(pairs); i += 2 {
		links = append(links, impl.Link{To: pairs[i], Cost: pairs[i+1]})
	}
	return links
}

func ad(origin int, links []impl.Link, stubs ...impl.Stub) impl.Lsa {
	return impl.Lsa{Origin: origin, Seq: 1, Links: links, Stubs: stubs}
}

// aged sets the Seq and the Age.
func aged(l impl.Lsa, seq, age int) impl.Lsa {
	l.Seq, l.Age = seq, age
	return l
}

func dbOf(lsas ...impl.Lsa) impl.Db {
	return impl.Db{Lsas: lsas}
}

func cloneDb(d impl.Db) impl.Db {
	var c impl.Db
	for _, l := range d.Lsas {
		c.Lsas = append(c.Lsas, cloneLsa(l))
	}
	return c
}

func equalDbs(a, b impl.Db) bool {
	return slices.EqualFunc(a.Lsas, b.Lsas, equalLsas)
}

// shelves is the model of a database: it has a place for each Origin, which may be empty.
type shelves [10]*impl.Lsa

func shelvesOf(d impl.Db) *shelves {
	s := new(shelves)
	for _, l := range d.Lsas {
		s[l.Origin] = &l
	}
	return s
}

func (s *shelves) db() impl.Db {
	var d impl.Db
	for _, l := range s {
		if l != nil {
			d.Lsas = append(d.Lsas, *l)
		}
	}
	return d
}

func (s *shelves) install(l impl.Lsa) int {
	old := s[l.Origin]
	order := 1
	if old != nil {
		order = newer(l, *old)
	} else if l.Age == 60 {
		order = 0
	}
	if order == 1 {
		s[l.Origin] = &l
	}
	return 1 - order
}

// costs has 0 where there is no edge.
type costs [10][10]int

// costs holds the links that both ends have.
func (s *shelves) costs() *costs {
	var one costs
	for x, l := range s {
		if l != nil {
			for _, k := range l.Links {
				one[x][k.To] = k.Cost
			}
		}
	}
	both := new(costs)
	for x := range one {
		for y := range one {
			if one[x][y] > 0 && one[y][x] > 0 {
				both[x][y] = one[x][y]
			}
		}
	}
	return both
}

func (c *costs) graph() impl.Graph {
	g := impl.Graph{Nodes: 10}
	for x := range c {
		for y := range c {
			if c[x][y] > 0 {
				g.Edges = append(g.Edges, edge(x, y, c[x][y]))
			}
		}
	}
	return g
}

// distances tries every node as a stopover of every pair.
func (c *costs) distances() *costs {
	d := new(costs)
	for x := range c {
		for y := range c {
			d[x][y] = c[x][y]
			if x != y && c[x][y] == 0 {
				d[x][y] = impl.Far
			}
		}
	}
	for via := range c {
		for x := range c {
			for y := range c {
				d[x][y] = min(d[x][y], d[x][via]+d[via][y])
			}
		}
	}
	return d
}

// firstHop returns the smallest neighbor of from on a shortest path to another node, plus 1.
func (c *costs) firstHop(d *costs, from, to int) int {
	for y, cost := range c[from] {
		if cost > 0 && cost+d[y][to] == d[from][to] {
			return y + 1
		}
	}
	return -1
}

// routes asks for each prefix which origins are the best.
func (s *shelves) routes(from int) []impl.Route {
	c := s.costs()
	d := c.distances()
	sums := map[impl.Prefix]*[10]int{} // by origin, 0 if it is none
	for x, l := range s {
		if l == nil || d[from][x] >= impl.Far {
			continue
		}
		for _, k := range l.Stubs {
			if sums[k.Prefix] == nil {
				sums[k.Prefix] = new([10]int)
			}
			sums[k.Prefix][x] = d[from][x] + k.Cost
		}
	}
	var routes []impl.Route
	for p, sum := range sums {
		least := math.MaxInt
		for _, n := range sum {
			if n > 0 {
				least = min(least, n)
			}
		}
		hop := math.MaxInt
		for x, n := range sum {
			if n == least && x == from {
				hop = 0
			} else if n == least {
				hop = min(hop, c.firstHop(d, from, x))
			}
		}
		routes = append(routes, impl.Route{Prefix: p, Hop: hop})
	}
	return tableOf(routes...).Routes
}

// fullDb has an advertisement of each node, with a link to each other node or with none.
func fullDb(linked bool, age func(x int) int) impl.Db {
	var d impl.Db
	for x := range 10 {
		l := impl.Lsa{Origin: x, Seq: 1 + 7*x, Age: age(x), Stubs: manyStubs(x % 7)}
		if linked {
			l.Links = allLinks(x, 1+x)
		}
		d.Lsas = append(d.Lsas, l)
	}
	return d
}

// meshDb has the links of the first n pairs of nodes, in both advertisements.
func meshDb(n int) impl.Db {
	d := fullDb(false, always(0))
	for y := range 10 {
		for x := range y {
			if n == 0 {
				break
			}
			n--
			d.Lsas[x].Links = append(d.Lsas[x].Links, impl.Link{To: y, Cost: 1 + x})
			d.Lsas[y].Links = append(d.Lsas[y].Links, impl.Link{To: x, Cost: 2 + x})
		}
	}
	return d
}

// oneWayDb has a link from each node to each greater one, and none back.
func oneWayDb() impl.Db {
	d := fullDb(false, always(0))
	for x := range d.Lsas {
		d.Lsas[x].Links = allLinks(x, 1)[x:]
	}
	return d
}

// busyLsa draws from few prefixes and costs, so that there are many ties, and from few numbers of
// Seq and the Ages that matter.
func busyLsa(random *rand.Rand, origin int) impl.Lsa {
	ages := []int{0, 1, 10, 11, 30, 48, 49, 50, 59, 60}
	l := impl.Lsa{Origin: origin, Seq: 1 + random.Intn(3), Age: ages[random.Intn(len(ages))]}
	few := 1 + random.Intn(4)
	for to := range 10 {
		if to != origin && random.Intn(2) == 0 {
			l.Links = append(l.Links, impl.Link{To: to, Cost: 1 + random.Intn(few)})
		}
	}
	for _, k := range manyStubs(6) {
		if random.Intn(3) == 0 {
			l.Stubs = append(l.Stubs, impl.Stub{Prefix: k.Prefix, Cost: 1 + random.Intn(few)})
		}
	}
	return l
}

func busyDb(random *rand.Rand) impl.Db {
	var d impl.Db
	most := 1 + random.Intn(10) // how many of ten origins are there
	for origin := range 10 {
		if random.Intn(10) < most {
			d.Lsas = append(d.Lsas, busyLsa(random, origin))
		}
	}
	return d
}

// goodDbs are such that all GraphOf succeed.
func goodDbs() []impl.Db {
	dbs := []impl.Db{
		{},
		{Lsas: []impl.Lsa{}},
		dbOf(impl.Lsa{Seq: 1}),
		dbOf(impl.Lsa{Origin: 9, Seq: impl.MaxSeq, Age: 59, Stubs: manyStubs(6)}),
		dbOf(impl.Lsa{Origin: 5, Seq: 3, Age: impl.MaxAge}),
		dbOf(ordinary()),
		dbOf(impl.Lsa{Seq: 1, Links: allLinks(0, 1000)}, ordinary(), impl.Lsa{Origin: 9, Seq: 2, Links: allLinks(9, 3)}),
		fullDb(false, always(0)),
		fullDb(false, always(impl.MaxAge)),
		fullDb(false, func(x int) int { return 51 + x }),
		meshDb(9),
		meshDb(30),
		oneWayDb(),
	}
	random := rand.New(rand.NewSource(60))
	for range 60 {
		dbs = append(dbs, busyDb(random))
	}
	return dbs
}

type badDb struct {
	why string
	db  impl.Db
}

// badDbs are wrong in one of their advertisements, or only in the order.
func badDbs() []badDb {
	first, last := impl.Lsa{Seq: 7, Links: to(4, 4)}, impl.Lsa{Origin: 9, Seq: 8, Links: to(0, 1, 4, 2)}
	var bad []badDb
	add := func(why string, lsas ...impl.Lsa) {
		bad = append(bad, badDb{why, cloneDb(dbOf(lsas...))})
	}
	for _, wrong := range badLsas() {
		add(wrong.why, wrong.lsa)
		add(wrong.why+", at the end", first, wrong.lsa)
		add(wrong.why+", at the beginning", wrong.lsa, last)
		add(wrong.why+", between others", first, wrong.lsa, last)
	}
	add("the wrong order", last, first)
	add("the wrong order of the first ones", ordinary(), first, last)
	add("the wrong order of the last ones", first, last, ordinary())
	add("one Origin twice", first, aged(first, 8, 0))
	add("one Origin twice, and expired", first, aged(first, 7, 60), last)
	add("one advertisement twice", ordinary(), ordinary())
	add("one advertisement twice, between others", first, ordinary(), ordinary(), last)
	add("one advertisement twice, at the end", first, ordinary(), last, last)
	add("one advertisement twice, apart from each other", first, ordinary(), first)
	add("one advertisement often", slices.Repeat(dbOf(first).Lsas, 300)...)
	full := fullDb(true, always(0)).Lsas
	add("each Origin, and the last one twice", append(full, full[9])...)
	add("each Origin twice", append(full, full...)...)
	backward := slices.Clone(full)
	slices.Reverse(backward)
	add("each Origin in the wrong order", backward...)
	return bad
}

// noOrigins are out of range.
func noOrigins() []int {
	return []int{-1, -2, 10, 11, 255, 256, math.MinInt, math.MaxInt}
}

func TestDbCodes(t *testing.T) {
	if impl.PutNew != 0 || impl.PutSame != 1 || impl.PutOlder != 2 || impl.PutBad != 3 {
		t.Errorf("the codes are %d, %d, %d, %d", impl.PutNew, impl.PutSame, impl.PutOlder, impl.PutBad)
	}
}

func TestDbOk(t *testing.T) {
	for _, d := range append(goodDbs(), fullDb(true, always(3))) {
		if !impl.DbOk(d) {
			t.Errorf("DbOk(%v) is false", d)
		}
	}
	for _, bad := range badDbs() {
		if impl.DbOk(bad.db) {
			t.Errorf("%s: DbOk(%v) is true", bad.why, bad.db)
		}
	}
}

func TestDbOkOfEveryOrder(t *testing.T) {
	for i := range 10 {
		for j := range 10 {
			for k := range 10 {
				d := dbOf(impl.Lsa{Origin: i, Seq: 3}, impl.Lsa{Origin: j, Seq: 2}, impl.Lsa{Origin: k, Seq: 1})
				if impl.DbOk(d) != (i < j && j < k) {
					t.Errorf("DbOk of the Origins %d, %d, %d", i, j, k)
				}
			}
		}
	}
}

func TestFindLsa(t *testing.T) {
	for _, d := range goodDbs() {
		places := shelvesOf(d)
		for origin := range 10 {
			want := impl.Lsa{}
			if places[origin] != nil {
				want = *places[origin]
			}
			if got, ok := impl.FindLsa(d, origin); ok != (places[origin] != nil) || !equalLsas(got, want) {
				t.Errorf("FindLsa(%v, %d) is %v, %v", d, origin, got, ok)
			}
		}
		for _, origin := range noOrigins() {
			if got, ok := impl.FindLsa(d, origin); ok || !isZeroLsa(got) {
				t.Errorf("FindLsa(%v, %d) is %v, %v", d, origin, got, ok)
			}
		}
	}
}

func TestFindLsaRefuses(t *testing.T) {
	for _, bad := range badDbs() {
		for origin := -1; origin <= 10; origin++ {
			if got, ok := impl.FindLsa(bad.db, origin); ok || !isZeroLsa(got) {
				t.Errorf("%s: FindLsa(%v, %d) is %v, %v", bad.why, bad.db, origin, got, ok)
			}
		}
		for _, l := range bad.db.Lsas {
			if got, ok := impl.FindLsa(bad.db, l.Origin); ok || !isZeroLsa(got) {
				t.Errorf("%s: FindLsa(%v, %d) is %v, %v", bad.why, bad.db, l.Origin, got, ok)
			}
		}
	}
}

// checkInstall expects a certain code and what goes with it, and checks what is promised of an
// installed advertisement.
func checkInstall(t *testing.T, d impl.Db, l impl.Lsa, want int) impl.Db {
	t.Helper()
	places := shelvesOf(d)
	if want == impl.PutNew {
		places[l.Origin] = &l
	}
	got, code := impl.Install(d, l)
	if code != want || !equalDbs(got, places.db()) || !impl.DbOk(got) {
		t.Fatalf("Install(%v, %v) is %v, %d and not %d", d, l, got, code, want)
	}
	lacking := []int(nil)
	if want == impl.PutNew {
		lacking = []int{l.Origin}
	}
	if found := impl.Lacks(d, dbOf(l)); !slices.Equal(found, lacking) {
		t.Fatalf("Lacks(%v, %v) is %v before Install, whose code is %d", d, l, found, code)
	}
	if found := impl.Lacks(got, dbOf(l)); len(found) != 0 {
		t.Fatalf("%v is lacking in %v after Install: %v", l, got, found)
	}
	if found, ok := impl.FindLsa(got, l.Origin); code == impl.PutNew && (!ok || !equalLsas(found, l)) {
		t.Fatalf("FindLsa finds %v, %v where %v was installed", found, ok, l)
	}
	again, second := impl.Install(got, l)
	if !equalDbs(again, got) || code == impl.PutNew && second != impl.PutSame || code != impl.PutNew && second != code {
		t.Fatalf("Install(%v, %v) again is %v, %d", got, l, again, second)
	}
	return got
}

func TestInstallWhatIsNew(t *testing.T) {
	base := dbOf(impl.Lsa{Origin: 2, Seq: 4, Links: to(4, 1)}, ordinary(), impl.Lsa{Origin: 7, Seq: 5, Age: 60})
	for _, d := range []impl.Db{{}, base, dbOf(base.Lsas[0]), dbOf(base.Lsas[2])} {
		for _, origin := range []int{0, 1, 3, 5, 6, 8, 9} {
			for _, seq := range []int{1, 5, impl.MaxSeq} {
				l := impl.Lsa{Origin: origin, Seq: seq, Links: allLinks(origin, 3), Stubs: manyStubs(2)}
				for _, age := range []int{0, 1, 50, 59} {
					checkInstall(t, d, aged(l, seq, age), impl.PutNew)
				}
				checkInstall(t, d, aged(l, seq, 60), impl.PutSame)
			}
		}
	}
}

func TestInstallWhatIsThere(t *testing.T) {
	there := impl.Lsa{Origin: 4, Seq: 5, Age: 20, Links: to(1, 1, 3, 2)}
	around := func(l impl.Lsa) impl.Db {
		return dbOf(impl.Lsa{Origin: 1, Seq: 9, Age: 60}, l, impl.Lsa{Origin: 8, Seq: 1, Links: to(4, 1)})
	}
	cases := []struct {
		why      string
		old, age int // of what is there: its Seq and its Age
		seq, by  int // of what is offered
		want     int
	}{
		{"the same", 5, 20, 5, 20, impl.PutSame},
		{"a greater Seq", 5, 20, 6, 20, impl.PutNew},
		{"a greater Seq, expired", 5, 20, 6, 60, impl.PutNew},
		{"a much greater Seq in the place of an expired one", 5, 60, impl.MaxSeq, 59, impl.PutNew},
		{"a lower Seq", 5, 20, 4, 20, impl.PutOlder},
		{"a lower Seq, younger", 5, 59, 4, 0, impl.PutOlder},
		{"a lower Seq, expired", 5, 20, 4, 60, impl.PutOlder},
		{"a lower Seq than an expired one", 5, 60, 4, 0, impl.PutOlder},
		{"younger by 10", 5, 20, 5, 10, impl.PutSame},
		{"younger by 11", 5, 20, 5, 9, impl.PutNew},
		{"older by 10", 5, 20, 5, 30, impl.PutSame},
		{"older by 11", 5, 20, 5, 31, impl.PutOlder},
		{"as young as can be", 5, 59, 5, 0, impl.PutNew},
		{"as old as can be without having expired", 5, 0, 5, 59, impl.PutOlder},
		{"expired, older by 1", 5, 59, 5, 60, impl.PutNew},
		{"expired, older by 40", 5, 20, 5, 60, impl.PutNew},
		{"younger by 1 than an expired one", 5, 60, 5, 59, impl.PutOlder},
		{"younger by 60 than an expired one", 5, 60, 5, 0, impl.PutOlder},
		{"both expired", 5, 60, 5, 60, impl.PutSame},
	}
	for _, c := range cases {
		t.Log(c.why)
		old, l := aged(there, c.old, c.age), aged(there, c.seq, c.by)
		checkInstall(t, around(old), l, c.want)
		checkInstall(t, dbOf(old), l, c.want)
	}
}

// TestInstallOtherWords: for equal Seq the sums decide, and for equal sums the Ages.
func TestInstallOtherWords(t *testing.T) {
	low, high := ad(4, to(1, 1)), ad(4, to(1, 2))
	if impl.LsaSum(low) > impl.LsaSum(high) {
		low, high = high, low
	}
	for _, ages := range [][2]int{{0, 0}, {0, 59}, {59, 0}, {0, 60}, {60, 0}, {60, 60}} {
		checkInstall(t, dbOf(aged(low, 3, ages[0])), aged(high, 3, ages[1]), impl.PutNew)
		checkInstall(t, dbOf(aged(high, 3, ages[0])), aged(low, 3, ages[1]), impl.PutOlder)
	}
	for _, pair := range twins(t) {
		a, b := pair[0], pair[1]
		d := dbOf(aged(a, 12, 20), impl.Lsa{Origin: 3, Seq: 1})
		checkInstall(t, d, aged(b, 12, 20), impl.PutSame)
		checkInstall(t, d, aged(b, 12, 30), impl.PutSame)
		checkInstall(t, d, aged(b, 12, 31), impl.PutOlder)
		checkInstall(t, d, aged(b, 12, 9), impl.PutNew)
		checkInstall(t, d, aged(b, 12, 60), impl.PutNew)
	}
}

func TestInstallOfEveryAge(t *testing.T) {
	for age := range 61 {
		d := dbOf(impl.Lsa{Seq: 2}, aged(ordinary(), 3, age))
		for by := range 61 {
			l := aged(ordinary(), 3, by)
			checkInstall(t, d, l, shelvesOf(d).install(l))
		}
	}
}

func TestInstallAtRandom(t *testing.T) {
	random := rand.New(rand.NewSource(61))
	var seen [3]int
	for range 60 {
		d := impl.Db{}
		for range 60 {
			l := busyLsa(random, random.Intn(10))
			if random.Intn(4) == 0 && len(d.Lsas) > 0 { // the words of what is there, and perhaps another Age
				l = aged(d.Lsas[random.Intn(len(d.Lsas))], 2, l.Age)
			}
			code := shelvesOf(d).install(l)
			seen[code]++
			d = checkInstall(t, d, l, code)
		}
	}
	if slices.Min(seen[:]) < 100 {
		t.Errorf("the codes occur %v times", seen)
	}
}

func TestInstallRefuses(t *testing.T) {
	for _, bad := range badLsas() {
		for _, d := range goodDbs()[:13] {
			if got, code := impl.Install(d, bad.lsa); code != impl.PutBad || !equalDbs(got, d) {
				t.Errorf("%s: Install(%v, %v) is %v, %d", bad.why, d, bad.lsa, got, code)
			}
		}
	}
	for _, bad := range badDbs() {
		offered := []impl.Lsa{ordinary(), aged(ordinary(), impl.MaxSeq, 0), {Origin: 1, Seq: 1}, {Origin: 2, Seq: 1, Age: 60}, {}}
		for _, l := range append(offered, bad.db.Lsas[:1]...) {
			if got, code := impl.Install(bad.db, l); code != impl.PutBad || !equalDbs(got, bad.db) {
				t.Errorf("%s: Install(%v, %v) is %v, %d", bad.why, bad.db, l, got, code)
			}
		}
	}
}

func checkAgeDb(t *testing.T, d impl.Db, by int) (impl.Db, []int) {
	t.Helper()
	var want impl.Db
	var origins []int
	for _, l := range d.Lsas {
		if l.Age+by >= 60 {
			origins = append(origins, l.Origin)
		} else {
			want.Lsas = append(want.Lsas, aged(l, l.Seq, l.Age+by))
		}
	}
	got, gone := impl.AgeDb(d, by)
	if !equalDbs(got, want) || !slices.Equal(gone, origins) || !impl.DbOk(got) {
		t.Fatalf("AgeDb(%v, %d) is %v, %v and not %v, %v", d, by, got, gone, want, origins)
	}
	return got, gone
}

func TestAgeDbOfFew(t *testing.T) {
	d := fullDb(true, func(x int) int { return []int{60, 0, 59, 49, 50, 60, 0, 1, 58, 51}[x] })
	cases := []struct {
		by   int
		gone []int
	}{
		{0, []int{0, 5}},
		{1, []int{0, 2, 5}},
		{2, []int{0, 2, 5, 8}},
		{9, []int{0, 2, 5, 8, 9}},
		{10, []int{0, 2, 4, 5, 8, 9}},
		{11, []int{0, 2, 3, 4, 5, 8, 9}},
		{58, []int{0, 2, 3, 4, 5, 8, 9}},
		{59, []int{0, 2, 3, 4, 5, 7, 8, 9}},
		{60, []int{0, 1, 2, 3, 4, 5, 6, 7, 8, 9}},
	}
	for _, c := range cases {
		if left, gone := checkAgeDb(t, d, c.by); !slices.Equal(gone, c.gone) || len(left.Lsas)+len(gone) != 10 {
			t.Errorf("AgeDb by %d removes %v", c.by, gone)
		}
	}
	young := fullDb(false, always(0))
	for _, by := range []int{0, 1, 59} {
		if left, gone := checkAgeDb(t, young, by); len(left.Lsas) != 10 || len(gone) != 0 {
			t.Errorf("AgeDb by %d removes %v", by, gone)
		}
	}
}

func TestAgeDb(t *testing.T) {
	for _, d := range goodDbs() {
		for by := range 61 {
			left, _ := checkAgeDb(t, d, by)
			// In two steps the result is the same.
			for _, part := range []int{0, by / 3, by} {
				some, _ := impl.AgeDb(d, part)
				if rest, _ := impl.AgeDb(some, by-part); !equalDbs(rest, left) {
					t.Fatalf("AgeDb(%v) by %d and %d is %v and not %v", d, part, by-part, rest, left)
				}
			}
		}
	}
}

func TestAgeDbRefuses(t *testing.T) {
	for _, d := range goodDbs() {
		for _, by := range []int{-1, 61, 62, -60, 120, math.MinInt, math.MaxInt} {
			if got, gone := impl.AgeDb(d, by); !equalDbs(got, d) || len(gone) != 0 {
				t.Errorf("AgeDb(%v, %d) is %v, %v", d, by, got, gone)
			}
		}
	}
	for _, bad := range badDbs() {
		for _, by := range []int{0, 1, 60, 61, -1} {
			if got, gone := impl.AgeDb(bad.db, by); !equalDbs(got, bad.db) || len(gone) != 0 {
				t.Errorf("%s: AgeDb(%v, %d) is %v, %v", bad.why, bad.db, by, got, gone)
			}
		}
	}
}

// checkMerge compares Lacks and Merge with the model and with Install.
func checkMerge(t *testing.T, a, b impl.Db) (impl.Db, []int) {
	t.Helper()
	places, installed := shelvesOf(a), a
	var want []int
	for _, l := range b.Lsas {
		if _, code := impl.Install(a, l); code == impl.PutNew {
			want = append(want, l.Origin)
		}
		installed, _ = impl.Install(installed, l)
		places.install(l)
	}
	lacking := impl.Lacks(a, b)
	if !slices.Equal(lacking, want) {
		t.Fatalf("Lacks(%v, %v) is %v and not %v", a, b, lacking, want)
	}
	merged, ok := impl.Merge(a, b)
	if !ok || !equalDbs(merged, places.db()) || !equalDbs(merged, installed) || !impl.DbOk(merged) {
		t.Fatalf("Merge(%v, %v) is %v, %v", a, b, merged, ok)
	}
	if left := impl.Lacks(merged, b); len(left) != 0 {
		t.Fatalf("after Merge(%v, %v) these are lacking: %v", a, b, left)
	}
	if again, ok := impl.Merge(merged, b); !ok || !equalDbs(again, merged) {
		t.Fatalf("Merge(%v, %v) again is %v", merged, b, again)
	}
	return merged, lacking
}

func TestMergeOfFew(t *testing.T) {
	a := dbOf(impl.Lsa{Origin: 1, Seq: 5}, impl.Lsa{Origin: 3, Seq: 5}, impl.Lsa{Origin: 4, Seq: 5, Age: 10}, impl.Lsa{Origin: 5, Seq: 5, Age: 60})
	b := dbOf(impl.Lsa{Origin: 0, Seq: 1, Age: 59}, impl.Lsa{Origin: 1, Seq: 6, Age: 60}, impl.Lsa{Origin: 2, Seq: 9, Age: 60},
		impl.Lsa{Origin: 3, Seq: 4}, impl.Lsa{Origin: 4, Seq: 5}, impl.Lsa{Origin: 5, Seq: 5}, impl.Lsa{Origin: 9, Seq: 2})
	merged, lacking := checkMerge(t, a, b)
	want := dbOf(b.Lsas[0], b.Lsas[1], a.Lsas[1], a.Lsas[2], a.Lsas[3], b.Lsas[6])
	if !slices.Equal(lacking, []int{0, 1, 9}) || !equalDbs(merged, want) {
		t.Errorf("Lacks(a, b) is %v and Merge(a, b) is %v", lacking, merged)
	}
	back, lacking := checkMerge(t, b, a)
	if !slices.Equal(lacking, []int{3, 5}) || len(back.Lsas) != 7 || back.Lsas[2].Age != 60 {
		t.Errorf("Lacks(b, a) is %v and Merge(b, a) is %v", lacking, back)
	}
}

func TestMergeWithNothing(t *testing.T) {
	for _, d := range goodDbs() {
		if merged, lacking := checkMerge(t, d, impl.Db{}); !equalDbs(merged, d) || len(lacking) != 0 {
			t.Errorf("Merge(%v) with nothing is %v, %v", d, merged, lacking)
		}
		if merged, lacking := checkMerge(t, d, d); !equalDbs(merged, d) || len(lacking) != 0 {
			t.Errorf("Merge(%v) with itself is %v, %v", d, merged, lacking)
		}
		living, _ := impl.AgeDb(d, 0)
		if merged, lacking := checkMerge(t, impl.Db{}, d); !equalDbs(merged, living) || len(lacking) != len(living.Lsas) {
			t.Errorf("Merge of nothing with %v is %v, %v", d, merged, lacking)
		}
	}
}

func TestMerge(t *testing.T) {
	list := goodDbs()
	for _, a := range list {
		for _, b := range list {
			checkMerge(t, a, b)
		}
	}
}

// evenDb is a part of a network in which Origin and Seq determine the contents of an advertisement.
// None of them is expired.
func evenDb(random *rand.Rand, contents *[10][4]impl.Lsa) impl.Db {
	var d impl.Db
	for origin := range 10 {
		if random.Intn(4) > 0 {
			i := random.Intn(4)
			d.Lsas = append(d.Lsas, aged(contents[origin][i], 1+i, random.Intn(60)))
		}
	}
	return d
}

// TestMergeIsCommutative up to Ages.
func TestMergeIsCommutative(t *testing.T) {
	random := rand.New(rand.NewSource(62))
	for range 300 {
		var contents [10][4]impl.Lsa
		for origin := range contents {
			for i := range contents[origin] {
				contents[origin][i] = busyLsa(random, origin)
			}
		}
		checkCommutes(t, evenDb(random, &contents), evenDb(random, &contents))
	}
}

// TestMergeBySums: contents of one Seq may differ if their sums do.
func TestMergeBySums(t *testing.T) {
	random := rand.New(rand.NewSource(63))
	checked := 0
	for range 300 {
		a, b := busyDb(random), busyDb(random)
		for _, d := range []impl.Db{a, b} {
			for i := range d.Lsas {
				d.Lsas[i].Age = random.Intn(60)
			}
		}
		if sumsTell(a, b) {
			checked++
			checkCommutes(t, a, b)
		}
	}
	if checked < 200 {
		t.Errorf("only %d pairs were checked", checked)
	}
}

func sumsTell(a, b impl.Db) bool {
	places := shelvesOf(b)
	return !slices.ContainsFunc(a.Lsas, func(l impl.Lsa) bool {
		other := places[l.Origin]
		return other != nil && checksum(wordsOf(l)) == checksum(wordsOf(*other)) && !bytes.Equal(wordsOf(l), wordsOf(*other))
	})
}

func checkCommutes(t *testing.T, a, b impl.Db) {
	t.Helper()
	there, _ := checkMerge(t, a, b)
	back, _ := checkMerge(t, b, a)
	same := slices.EqualFunc(there.Lsas, back.Lsas, func(x, y impl.Lsa) bool {
		return bytes.Equal(wordsOf(x), wordsOf(y))
	})
	if !same || impl.DbSum(there) != impl.DbSum(back) {
		t.Fatalf("Merge(%v, %v) is %v, and %v if exchanged", a, b, there, back)
	}
}

func TestMergeRefuses(t *testing.T) {
	good := dbOf(ordinary(), impl.Lsa{Origin: 6, Seq: 1})
	for _, bad := range badDbs() {
		for _, pair := range [][2]impl.Db{{bad.db, good}, {good, bad.db}, {bad.db, bad.db}, {bad.db, {}}, {{}, bad.db}} {
			if got := impl.Lacks(pair[0], pair[1]); len(got) != 0 {
				t.Errorf("%s: Lacks(%v, %v) is %v", bad.why, pair[0], pair[1], got)
			}
			if got, ok := impl.Merge(pair[0], pair[1]); ok || !equalDbs(got, pair[0]) {
				t.Errorf("%s: Merge(%v, %v) is %v, %v", bad.why, pair[0], pair[1], got, ok)
			}
		}
	}
}

func TestDbSumOfFew(t *testing.T) {
	a, b, c := impl.Lsa{Seq: 1}, impl.Lsa{Origin: 1, Seq: 3, Links: to(2, 7), Stubs: []impl.Stub{stub(256, 8, 1)}}, impl.Lsa{Origin: 9, Seq: impl.MaxSeq}
	cases := []struct {
		db   impl.Db
		want int
	}{
		{impl.Db{}, 1},
		{impl.Db{Lsas: []impl.Lsa{}}, 1},
		{dbOf(a), 201665}, // 31 + 201634
		{dbOf(aged(a, 1, 60)), 201665},
		{dbOf(a, b), 629797},
		{dbOf(a, b, c), 832262},
		{dbOf(c), 308643},
	}
	for _, k := range cases {
		if got := impl.DbSum(k.db); got != k.want {
			t.Errorf("DbSum(%v) is %d and not %d", k.db, got, k.want)
		}
	}
}

// dbChecksum divides only once, at the end.
func dbChecksum(d impl.Db) int {
	sum := big.NewInt(1)
	for _, l := range d.Lsas {
		sum.Mul(sum, big.NewInt(31))
		sum.Add(sum, big.NewInt(int64(checksum(wordsOf(l)))))
	}
	return int(sum.Mod(sum, big.NewInt(1000003)).Int64())
}

func TestDbSum(t *testing.T) {
	for _, d := range append(goodDbs(), fullDb(true, always(3))) {
		want := dbChecksum(d)
		if got := impl.DbSum(d); got != want {
			t.Errorf("DbSum(%v) is %d and not %d", d, got, want)
		}
		other := cloneDb(d)
		for i := range other.Lsas {
			other.Lsas[i].Age = 60 - other.Lsas[i].Age
		}
		if impl.DbSum(other) != want {
			t.Errorf("the Ages of %v show in DbSum", d)
		}
	}
	for _, bad := range badDbs() {
		if got := impl.DbSum(bad.db); got != -1 {
			t.Errorf("%s: DbSum(%v) is %d", bad.why, bad.db, got)
		}
	}
}

// checkGraph compares GraphOf with the model, and checks that every edge is in both advertisements.
func checkGraph(t *testing.T, d impl.Db) impl.Graph {
	t.Helper()
	want := shelvesOf(d).costs().graph()
	got, ok := impl.GraphOf(d)
	if len(want.Edges) > 60 {
		if ok || got.Nodes != 0 || len(got.Edges) != 0 {
			t.Fatalf("GraphOf(%v) has %d edges and is %v, %v", d, len(want.Edges), got, ok)
		}
		return got
	}
	if !ok || !equalGraphs(got, want) || !impl.GraphOk(got) {
		t.Fatalf("GraphOf(%v) is %v, %v and not %v", d, got, ok, want)
	}
	for _, e := range got.Edges {
		there, ok := impl.FindLsa(d, e.From)
		back, ok2 := impl.FindLsa(d, e.To)
		isBack := func(k impl.Link) bool { return k.To == e.From }
		if !ok || !ok2 || !slices.Contains(there.Links, impl.Link{To: e.To, Cost: e.Cost}) || !slices.ContainsFunc(back.Links, isBack) {
			t.Fatalf("the edge %v of GraphOf(%v) is not in both advertisements", e, d)
		}
	}
	return got
}

func TestGraphOfFew(t *testing.T) {
	cases := []struct {
		why   string
		db    impl.Db
		edges []impl.Edge
	}{
		{"nothing", impl.Db{}, nil},
		{"one node", dbOf(ad(3, nil)), nil},
		{"a link to a node without an advertisement", dbOf(ad(3, to(4, 1))), nil},
		{"a link that one side has", dbOf(ad(3, to(4, 1)), ad(4, nil)), nil},
		{"a link that the other side has", dbOf(ad(3, nil), ad(4, to(3, 1))), nil},
		{"a link that both sides have", dbOf(ad(3, to(4, 1)), ad(4, to(3, 9))), []impl.Edge{edge(3, 4, 1), edge(4, 3, 9)}},
		{"one node with links to all", dbOf(ad(0, allLinks(0, 5)), ad(9, to(0, 7))), []impl.Edge{edge(0, 9, 5), edge(9, 0, 7)}},
		{"three links in one direction", dbOf(ad(0, to(1, 1)), ad(1, to(2, 1)), ad(2, to(0, 1))), nil},
		{"one link of three on both sides", dbOf(ad(0, to(1, 1, 2, 3)), ad(1, to(2, 1)), ad(2, to(0, 4))),
			[]impl.Edge{edge(0, 2, 3), edge(2, 0, 4)}},
		{"expired advertisements", dbOf(aged(ad(3, to(4, 1)), 2, 60), aged(ad(4, to(3, 9)), 1, 60)), []impl.Edge{edge(3, 4, 1), edge(4, 3, 9)}},
		{"a line", dbOf(ad(0, to(9, 1)), ad(5, to(9, 2)), ad(9, to(0, 1000, 5, 3, 6, 4))),
			[]impl.Edge{edge(0, 9, 1), edge(5, 9, 2), edge(9, 0, 1000), edge(9, 5, 3)}},
	}
	for _, c := range cases {
		t.Log(c.why)
		if got := checkGraph(t, c.db); got.Nodes != 10 || !slices.Equal(got.Edges, c.edges) {
			t.Errorf("%s: GraphOf(%v) is %v", c.why, c.db, got)
		}
	}
}

func TestGraphOf(t *testing.T) {
	for _, d := range goodDbs() {
		checkGraph(t, d)
	}
	random := rand.New(rand.NewSource(64))
	for range 500 {
		checkGraph(t, busyDb(random))
	}
}

func TestGraphOfManyEdges(t *testing.T) {
	for n := range 46 {
		got, ok := impl.GraphOf(meshDb(n))
		if ok != (n <= 30) || ok && len(got.Edges) != 2*n {
			t.Errorf("GraphOf with %d links on both sides is %v, %v", n, got, ok)
		}
		checkGraph(t, meshDb(n))
	}
	// Links that one side has do not count.
	d := meshDb(30)
	before := checkGraph(t, d)
	for x := range 9 {
		if i := len(d.Lsas[x].Links); i == 0 || d.Lsas[x].Links[i-1].To < 9 {
			d.Lsas[x].Links = append(d.Lsas[x].Links, impl.Link{To: 9, Cost: 1})
		}
	}
	if after := checkGraph(t, d); !equalGraphs(before, after) {
		t.Errorf("links that one side has change the graph from %v to %v", before, after)
	}
	if got := checkGraph(t, fullDb(true, always(0))); got.Nodes != 0 {
		t.Errorf("GraphOf of all 90 links is %v", got)
	}
	if got := checkGraph(t, oneWayDb()); len(got.Edges) != 0 {
		t.Errorf("GraphOf of 45 links in one direction is %v", got)
	}
}

func TestGraphOfRefuses(t *testing.T) {
	for _, bad := range badDbs() {
		if got, ok := impl.GraphOf(bad.db); ok || got.Nodes != 0 || len(got.Edges) != 0 {
			t.Errorf("%s: GraphOf(%v) is %v, %v", bad.why, bad.db, got, ok)
		}
	}
}

func checkRoutes(t *testing.T, d impl.Db, from int) []impl.Route {
	t.Helper()
	want := shelvesOf(d).routes(from)
	got, ok := impl.PrefixesOf(d, from)
	if !ok || !slices.Equal(got, want) || !impl.TableOk(impl.Table{Routes: got}) {
		t.Fatalf("PrefixesOf(%v, %d) is %v, %v and not %v", d, from, got, ok, want)
	}
	return got
}

// atHop is a list of one route, for the prefix that most of the cases below have.
func atHop(hop int) []impl.Route {
	return []impl.Route{rt(256, 8, hop)}
}

type routesCase struct {
	why  string
	db   impl.Db
	from int
	want []impl.Route
}

func checkRoutesCases(t *testing.T, cases []routesCase) {
	t.Helper()
	for _, c := range cases {
		t.Log(c.why)
		if got := checkRoutes(t, c.db, c.from); !slices.Equal(got, c.want) {
			t.Errorf("%s: PrefixesOf(%v, %d) is %v and not %v", c.why, c.db, c.from, got, c.want)
		}
	}
}

func TestPrefixesOfOneOrigin(t *testing.T) {
	p := stub(256, 8, 5)
	row := dbOf(ad(0, to(1, 1)), ad(1, to(0, 1, 2, 1)), ad(2, to(1, 1), p))
	two := dbOf(ad(0, to(3, 1, 7, 1)), ad(3, to(0, 1, 8, 1)), ad(7, to(0, 1, 8, 1)), ad(8, to(3, 1, 7, 1), p))
	uneven := dbOf(ad(0, to(3, 1, 7, 9)), ad(3, to(0, 9, 8, 9)), ad(7, to(0, 1, 8, 9)), ad(8, to(3, 1, 7, 9), p))
	checkRoutesCases(t, []routesCase{
		{"nothing", impl.Db{}, 0, nil},
		{"nothing, at the last node", impl.Db{}, 9, nil},
		{"no stubs", dbOf(ad(0, to(1, 1)), ad(1, to(0, 1))), 0, nil},
		{"at the origin", dbOf(ad(4, nil, p)), 4, atHop(0)},
		{"at node 0, which is the origin", dbOf(ad(0, nil, p)), 0, atHop(0)},
		{"without an advertisement", dbOf(ad(4, to(5, 1), p)), 5, nil},
		{"out of reach", dbOf(ad(4, nil, p), ad(5, nil)), 5, nil},
		{"a link that only from has", dbOf(ad(4, nil, p), ad(5, to(4, 1))), 5, nil},
		{"a link that only the origin has", dbOf(ad(4, to(5, 1), p), ad(5, nil)), 5, nil},
		{"next to the origin", row, 1, atHop(3)},
		{"two links from the origin", row, 0, atHop(2)},
		{"at the end of a row", row, 2, atHop(0)},
		{"not in the row", row, 3, nil},
		{"node 0 as the next hop", dbOf(ad(0, to(9, 1), p), ad(9, to(0, 1))), 9, atHop(1)},
		{"node 9 as the next hop", dbOf(ad(0, to(9, 1)), ad(9, to(0, 1), p)), 0, atHop(10)},
		{"two ways", two, 0, atHop(4)},
		{"costs that depend on the direction", uneven, 0, atHop(4)},
		{"expired advertisements", dbOf(aged(ad(4, to(5, 1), p), 3, 60), aged(ad(5, to(4, 1)), 2, 60)), 5, atHop(5)},
	})
}

func TestPrefixesOfSeveralOrigins(t *testing.T) {
	p := func(cost int) impl.Stub { return stub(256, 8, cost) }
	// From node 5 the costs are 2 to node 1 and 4 to node 8.
	fork := func(a, own, b int) impl.Db {
		return dbOf(ad(1, to(5, 9), p(a)), ad(5, to(1, 2, 8, 4), p(own)), ad(8, to(5, 9), p(b)))
	}
	// Node 0 reaches 1 by way of 7, and 2 by way of 6, or of 4, at the same cost.
	crossed := dbOf(ad(0, to(4, 1, 6, 1, 7, 1)), ad(1, to(7, 1), p(3)), ad(2, to(4, 1, 6, 1), p(3)),
		ad(4, to(0, 1, 2, 1)), ad(6, to(0, 1, 2, 1)), ad(7, to(0, 1, 1, 1)))
	checkRoutesCases(t, []routesCase{
		{"the first is the best", fork(7, 10, 6), 5, atHop(2)},
		{"the last is the best, since it is cheaper", fork(9, 20, 6), 5, atHop(9)},
		{"the nearest is not the best", fork(1000, 1000, 1), 5, atHop(9)},
		{"two are equally good", fork(8, 20, 6), 5, atHop(2)},
		{"all three are equally good", fork(8, 10, 6), 5, atHop(0)},
		{"from and the first are", fork(8, 10, 7), 5, atHop(0)},
		{"from and the last are", fork(9, 10, 6), 5, atHop(0)},
		{"from is the best alone", fork(8, 9, 6), 5, atHop(0)},
		{"from is not among the best by 1", fork(8, 11, 7), 5, atHop(2)},
		{"seen from the first", fork(20, 10, 1), 1, atHop(6)},
		{"from is an origin that is too far for all", fork(1, 1000, 1000), 8, atHop(6)},
		{"the lowest hop belongs to the last origin", crossed, 0, atHop(5)},
		{"the best origin is out of reach", dbOf(ad(0, to(1, 1000)), ad(1, to(0, 1), p(1000)), ad(2, to(0, 1), p(1))), 0, atHop(2)},
		{"all origins are out of reach", dbOf(ad(0, nil), ad(1, to(0, 1), p(1000)), ad(2, to(0, 1), p(1))), 0, nil},
		{"from is the only one in reach", dbOf(ad(0, nil, p(1000)), ad(1, to(0, 1), p(1))), 0, atHop(0)},
	})
}

func TestPrefixesOfManyPrefixes(t *testing.T) {
	d := dbOf(
		ad(0, to(1, 2, 2, 3), stub(0, 16, 1), stub(512, 7, 1), stub(65535, 16, 9)),
		ad(1, to(0, 1), stub(0, 0, 1), stub(0, 1, 1), stub(512, 8, 1), stub(65535, 16, 8)),
		ad(2, to(0, 1), stub(0, 8, 1), stub(256, 8, 1), stub(512, 8, 1), stub(65535, 16, 6)),
		ad(3, nil, stub(0, 2, 1), stub(0, 8, 1), stub(1024, 8, 1)),
	)
	checkRoutesCases(t, []routesCase{
		{"from node 0", d, 0, []impl.Route{rt(0, 0, 2), rt(0, 1, 2), rt(0, 8, 3), rt(0, 16, 0), rt(256, 8, 3), rt(512, 7, 0), rt(512, 8, 2), rt(65535, 16, 0)}},
		{"from node 1", d, 1, []impl.Route{rt(0, 0, 0), rt(0, 1, 0), rt(0, 8, 1), rt(0, 16, 1), rt(256, 8, 1), rt(512, 7, 1), rt(512, 8, 0), rt(65535, 16, 0)}},
		{"from node 2", d, 2, []impl.Route{rt(0, 0, 1), rt(0, 1, 1), rt(0, 8, 0), rt(0, 16, 1), rt(256, 8, 0), rt(512, 7, 1), rt(512, 8, 0), rt(65535, 16, 0)}},
		{"from node 3", d, 3, []impl.Route{rt(0, 2, 0), rt(0, 8, 0), rt(1024, 8, 0)}},
		{"from node 4", d, 4, nil},
	})
	most := meshDb(30)
	for x := range most.Lsas {
		most.Lsas[x].Stubs = nil
		for i := range 6 {
			most.Lsas[x].Stubs = append(most.Lsas[x].Stubs, stub(1000*i+10*(9-x), 16, 1000))
		}
	}
	if got := checkRoutes(t, most, 7); len(got) != 54 { // node 9 has no links
		t.Errorf("PrefixesOf(%v, 7) has %d routes", most, len(got))
	}
}

func TestPrefixesOf(t *testing.T) {
	random := rand.New(rand.NewSource(65))
	list := goodDbs()
	for range 700 {
		list = append(list, busyDb(random))
	}
	for _, d := range list {
		for from := range 10 {
			if len(shelvesOf(d).costs().graph().Edges) <= 60 {
				checkRoutes(t, d, from)
			}
		}
	}
}

func checkNoRoutes(t *testing.T, why string, d impl.Db, from int) {
	t.Helper()
	if got, ok := impl.PrefixesOf(d, from); ok || len(got) != 0 {
		t.Errorf("%s: PrefixesOf(%v, %d) is %v, %v", why, d, from, got, ok)
	}
}

func TestPrefixesOfRefuses(t *testing.T) {
	for _, d := range append(goodDbs(), fullDb(true, always(0))) {
		for _, from := range noOrigins() {
			checkNoRoutes(t, "no node", d, from)
		}
	}
	for from := -1; from <= 10; from++ {
		for _, bad := range badDbs() {
			checkNoRoutes(t, bad.why, bad.db, from)
		}
		checkNoRoutes(t, "62 edges", meshDb(31), from)
		checkNoRoutes(t, "90 edges", fullDb(true, always(0)), from)
	}
}

// roomyDb holds a database whose lists all lie in the middle of arrays.
type roomyDb struct {
	db    impl.Db
	lsas  []impl.Lsa
	parts []roomyLsa
}

func roomyDbOf(d impl.Db) roomyDb {
	var r roomyDb
	beside := impl.Lsa{Origin: 77, Seq: 77, Age: 77}
	r.lsas = []impl.Lsa{beside, beside}
	for _, l := range d.Lsas {
		part := roomy(l)
		r.parts = append(r.parts, part)
		r.lsas = append(r.lsas, part.lsa)
	}
	r.lsas = append(r.lsas, beside, beside, beside)
	r.db.Lsas = r.lsas[2 : 2+len(d.Lsas)]
	return r
}

func (r roomyDb) equal(s roomyDb) bool {
	return slices.EqualFunc(r.lsas, s.lsas, equalLsas) && slices.EqualFunc(r.parts, s.parts, roomyLsa.equal)
}

// dbResults are the results of all functions of chapter 6 that contain slices, refused calls among
// them.
type dbResults struct {
	dbs    []impl.Db
	lsas   []impl.Lsa
	graphs graphResults
	routes [][]impl.Route
}

func dbResultsOf(a, b impl.Db, l impl.Lsa) dbResults {
	var r dbResults
	for origin := -1; origin <= 10; origin++ {
		found, _ := impl.FindLsa(a, origin)
		routes, _ := impl.PrefixesOf(a, origin)
		r.lsas = append(r.lsas, found)
		r.routes = append(r.routes, routes)
	}
	for _, offered := range []impl.Lsa{l, l, {}, {Origin: 3, Seq: 1, Age: 60}} {
		put, _ := impl.Install(a, offered)
		r.dbs = append(r.dbs, put)
	}
	for _, by := range []int{0, 5, 60, -1, 61} {
		left, gone := impl.AgeDb(a, by)
		r.dbs = append(r.dbs, left)
		r.graphs.lists = append(r.graphs.lists, gone)
	}
	for _, pair := range [][2]impl.Db{{a, b}, {b, a}, {a, a}, {a, {}}, {{}, a}} {
		merged, _ := impl.Merge(pair[0], pair[1])
		r.dbs = append(r.dbs, merged)
		r.graphs.lists = append(r.graphs.lists, impl.Lacks(pair[0], pair[1]))
	}
	g, _ := impl.GraphOf(a)
	h, _ := impl.GraphOf(a)
	r.graphs.graphs = []impl.Graph{g, h}
	impl.DbOk(a)
	impl.DbSum(a)
	return r
}

func (r dbResults) equal(s dbResults) bool {
	return slices.EqualFunc(r.dbs, s.dbs, equalDbs) && slices.EqualFunc(r.lsas, s.lsas, equalLsas) &&
		slices.EqualFunc(r.graphs.graphs, s.graphs.graphs, equalGraphs) && equalLists(r.graphs.lists, s.graphs.lists) &&
		slices.EqualFunc(r.routes, s.routes, slices.Equal[[]impl.Route])
}

// ownMemory overwrites every slice, at first those within the advertisements, and reports whether
// each still holds what was written afterwards.
func (r dbResults) ownMemory() bool {
	all := slices.Clone(r.lsas)
	for _, d := range r.dbs {
		all = append(all, d.Lsas...)
	}
	own := ownLsas(all) && r.graphs.ownMemory()
	for i, d := range r.dbs {
		fill(d.Lsas, impl.Lsa{Origin: -i})
	}
	for i, d := range r.dbs {
		other := func(l impl.Lsa) bool { return !equalLsas(l, impl.Lsa{Origin: -i}) }
		own = own && !slices.ContainsFunc(d.Lsas[:cap(d.Lsas)], other)
	}
	for i, list := range r.routes {
		fill(list, rt(i, i, -i))
	}
	for i, list := range r.routes {
		own = own && filled(list, rt(i, i, -i))
	}
	return own
}

func TestDbsAreNewMemory(t *testing.T) {
	list := goodDbs()[:30]
	for i, bad := range badDbs() {
		if i%5 == 0 || len(bad.db.Lsas) > 3 {
			list = append(list, bad.db)
		}
	}
	list = append(list, fullDb(true, always(7)))
	for i, d := range list {
		e, l := list[(i+7)%len(list)], goodLsas()[i%11]
		first, second, offer := roomyDbOf(d), roomyDbOf(e), roomy(l)
		same := func() bool {
			return first.equal(roomyDbOf(d)) && second.equal(roomyDbOf(e)) && offer.equal(roomy(l))
		}
		results := dbResultsOf(first.db, second.db, offer.lsa)
		if !same() {
			t.Fatalf("an argument among %v, %v, %v was changed", d, e, l)
		}
		if !results.ownMemory() {
			t.Fatalf("results for %v, %v, %v share memory with each other", d, e, l)
		}
		if !same() {
			t.Fatalf("a result shares memory with an argument among %v, %v, %v", d, e, l)
		}
		if !dbResultsOf(first.db, second.db, offer.lsa).equal(dbResultsOf(d, e, l)) {
			t.Fatalf("results for %v, %v, %v depend on what was done with earlier ones", d, e, l)
		}
	}
}
