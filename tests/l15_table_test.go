package tests

import (
	"math"
	"math/rand"
	"slices"
	"testing"

	"loop.example/g00599/impl"
)

func table(dst int, dist []int, next []int) impl.Table {
	return impl.Table{Dst: dst, Dist: dist, Next: next}
}

// squareTable is the table of squareLinks to the site 5.
func squareTable() impl.Table {
	return table(5, []int{2, 2, 1, 1, 3, 0}, []int{3, 2, 5, 5, 0, -1})
}

// with has other numbers for a node: its Dist and its Next.
func with(x impl.Table, node int, dist int, next int) impl.Table {
	x.Dist, x.Next = slices.Clone(x.Dist), slices.Clone(x.Next)
	x.Dist[node], x.Next[node] = dist, next
	return x
}

// lineTable leads down a line of nodes to 0.
func lineTable(nodes int) impl.Table {
	return table(0, upTo(nodes), append([]int{-1}, upTo(nodes-1)...))
}

// hopLinks has a link from each node to its next one, if this is a node.
func hopLinks(next []int) []impl.Link {
	l := []impl.Link{}
	for node, x := range next {
		if x >= 0 && x < len(next) {
			l = append(l, link(node, x))
		}
	}
	return l
}

// wantIsTable asks for what the links from each node to its next one would give. What satisfies the words of the document is a tree of such links, whose one way to the destination is the shortest one; and what links give satisfies them.
func wantIsTable(x impl.Table, nodes int, first int) bool {
	if nodes < 1 || nodes > maxNodes || x.Dst < 0 || x.Dst >= nodes || len(x.Next) != nodes {
		return false
	}
	l := hopLinks(x.Next)
	return slices.Equal(x.Dist, wantDistances(l, nodes, first, x.Dst)) && slices.Equal(x.Next, wantNext(l, nodes, first, x.Dst))
}

// wantDownhill asks each two nodes.
func wantDownhill(x impl.Table) bool {
	for node := range x.Next {
		for other := range x.Next {
			if len(x.Dist) == len(x.Next) && x.Next[node] == other && (x.Dist[other] < 0 || x.Dist[node] <= x.Dist[other]) {
				return false
			}
		}
	}
	return len(x.Dist) == len(x.Next)
}

// wantUses asks each route.
func wantUses(x impl.Table, node int) int {
	uses := 0
	for from := range x.Next {
		if from != node && from != x.Dst && slices.Contains(wantPath(x.Next, from, x.Dst), node) {
			uses++
		}
	}
	return uses
}

func checkIsTable(t *testing.T, what string, x impl.Table, nodes int, first int, want bool) {
	t.Helper()
	if got := impl.IsTable(x, nodes, first); got != want {
		t.Errorf("%s: IsTable(%+v, %d, %d) = %t, want %t", what, x, nodes, first, got, want)
	}
}

// checkDownhill asks with several destinations, which do not count.
func checkDownhill(t *testing.T, what string, x impl.Table, want bool) {
	t.Helper()
	for _, dst := range append([]int{x.Dst, -1, 0, 1, len(x.Next) - 1, len(x.Next)}, endsOfInt()...) {
		x.Dst = dst
		if got := impl.IsDownhill(x); got != want {
			t.Errorf("%s: IsDownhill(%+v) = %t, want %t", what, x, got, want)
		}
	}
}

// checkEqual asks in both directions.
func checkEqual(t *testing.T, what string, a impl.Table, b impl.Table, want bool) {
	t.Helper()
	if there, back := impl.EqualTables(a, b), impl.EqualTables(b, a); there != want || back != want {
		t.Errorf("%s: EqualTables(%+v, %+v) = %t, and back %t, want %t", what, a, b, there, back, want)
	}
}

func checkRoute(t *testing.T, what string, x impl.Table, from int, want ...int) {
	t.Helper()
	if got := impl.RouteOf(x, from); !slices.Equal(got, want) {
		t.Errorf("%s: RouteOf(%+v, %d) = %v, want %v", what, x, from, got, want)
	}
}

func checkUses(t *testing.T, what string, x impl.Table, node int, want int) {
	t.Helper()
	if got := impl.UsesNode(x, node); got != want {
		t.Errorf("%s: UsesNode(%+v, %d) = %d, want %d", what, x, node, got, want)
	}
}

// checkRoutes compares the routes from all nodes, and over them, with the second implementations.
func checkRoutes(t *testing.T, what string, x impl.Table) {
	t.Helper()
	for _, node := range append(upTo(len(x.Next)), outsiders(len(x.Next))...) {
		checkRoute(t, what+", second implementation", x, node, wantPath(x.Next, node, x.Dst)...)
		checkUses(t, what+", second implementation", x, node, wantUses(x, node))
	}
}

// checkTableOf compares the fields with literal lists.
func checkTableOf(t *testing.T, what string, l []impl.Link, nodes int, first int, dst int, dist []int, next []int) {
	t.Helper()
	x := impl.TableOf(l, nodes, first, dst)
	if x.Dst != dst || !slices.Equal(x.Dist, dist) || !slices.Equal(x.Next, next) {
		t.Errorf("%s: TableOf(%v, %d, %d, %d) = %+v, want %+v", what, l, nodes, first, dst, x, table(dst, dist, next))
	}
}

// checkDown is promise 15 for one destination: what the links give is a table, it leads downhill, and each node with a Dist has a route to the destination on which every next node is nearer; the others have none.
func checkDown(t *testing.T, what string, l []impl.Link, nodes int, first int, dst int) {
	t.Helper()
	checkTableOf(t, what, l, nodes, first, dst, wantDistances(l, nodes, first, dst), wantNext(l, nodes, first, dst))
	x := impl.TableOf(l, nodes, first, dst)
	checkIsTable(t, what, x, nodes, first, true)
	checkDownhill(t, what, x, true)
	users := slices.Repeat([]int{0}, nodes)
	for node := range nodes {
		route := impl.RouteOf(x, node)
		if len(route) != x.Dist[node]+1 {
			t.Errorf("%s: the route %v of %+v from %d has not %d links", what, route, x, node, x.Dist[node])
		}
		for i, at := range route {
			if x.Dist[at] != x.Dist[node]-i || i == 0 && at != node || i == len(route)-1 && at != dst || 0 < i && i < len(route)-1 && at >= first {
				t.Errorf("%s: the route %v of %+v from %d leads to %d, with the first site %d", what, route, x, node, at, first)
			}
			if node != at && node != dst {
				users[at]++
			}
		}
	}
	for node, want := range users {
		checkUses(t, what, x, node, want)
	}
}

func TestTableOf(t *testing.T) {
	type list = []int
	square := squareLinks()
	cases := []struct {
		what              string
		l                 []impl.Link
		nodes, first, dst int
		dist, next        list
	}{
		{"one node", nil, 1, 1, 0, list{0}, list{-1}}, {"one node, a site", nil, 1, 0, 0, list{0}, list{-1}}, {"one node with itself", links(0, 0), 1, 1, 0, list{0}, list{-1}},
		{"no link", nil, 3, 2, 0, list{0, -1, -1}, list{-1, -1, -1}}, {"no link, of an empty list", []impl.Link{}, 3, 2, 1, list{-1, 0, -1}, list{-1, -1, -1}}, {"no link to a site", nil, 3, 2, 2, list{-1, -1, 0}, list{-1, -1, -1}}, {"only links with other numbers", links(-1, 0, 1, 3, 2, 1<<32), 3, 2, 0, list{0, -1, -1}, list{-1, -1, -1}},
		{"to a satellite", square, 6, 4, 1, list{1, 0, 1, 2, 2, 2}, list{1, -1, 1, 0, 0, 2}}, {"to a site", square, 6, 4, 5, list{2, 2, 1, 1, 3, 0}, list{3, 2, 5, 5, 0, -1}}, {"to the other site", square, 6, 4, 4, list{1, 2, 3, 2, 0, 3}, list{4, 0, 1, 0, -1, 3}}, {"to 0", square, 6, 4, 0, list{0, 1, 2, 1, 1, 2}, list{-1, 0, 1, 0, 0, 3}}, {"a line", line(0, 1, 2, 3), 4, 4, 3, list{3, 2, 1, 0}, list{1, 2, 3, -1}}, {"the longest line", line(upTo(12)...), 12, 12, 0, upTo(12), list{-1, 0, 1, 2, 3, 4, 5, 6, 7, 8, 9, 10}},
		{"nodes without a path", links(0, 1, 2, 3, 3, 4), 5, 5, 4, list{-1, -1, 2, 1, 0}, list{-1, -1, 3, 4, -1}}, {"nodes without a path but over a site", links(0, 2, 1, 2), 3, 2, 1, list{-1, 0, 1}, list{-1, -1, 1}}, {"more nodes than in links", square, 8, 4, 0, list{0, 1, 2, 1, 1, 2, -1, -1}, list{-1, 0, 1, 0, 0, 3, -1, -1}}, {"less nodes than in links", square, 2, 4, 0, list{0, 1}, list{-1, 0}},
		{"first at 0", square, 6, 0, 5, list{-1, -1, 1, 1, -1, 0}, list{-1, -1, 5, 5, -1, -1}}, {"first below 0", square, 6, -1, 5, list{-1, -1, 1, 1, -1, 0}, list{-1, -1, 5, 5, -1, -1}}, {"first the least int", square, 6, math.MinInt, 2, list{-1, 1, 0, 1, -1, 1}, list{-1, 2, -1, 2, -1, 2}}, {"first at dst", square, 6, 2, 2, list{2, 1, 0, 1, 3, 1}, list{1, 2, -1, 2, 0, 2}}, {"first at dst + 1", square, 6, 3, 2, list{2, 1, 0, 1, 3, 1}, list{1, 2, -1, 2, 0, 2}}, {"first at dst, a site", square, 6, 5, 5, list{2, 2, 1, 1, 3, 0}, list{3, 2, 5, 5, 0, -1}}, {"first at 1", square, 6, 1, 1, list{1, 0, 1, 2, 2, -1}, list{1, -1, 1, 0, 0, -1}}, {"first at 3", square, 6, 3, 5, list{3, 2, 1, 1, 4, 0}, list{1, 2, 5, 5, 0, -1}}, {"first at nodes", square, 6, 6, 1, list{1, 0, 1, 2, 2, 2}, list{1, -1, 1, 0, 0, 2}}, {"first beyond", square, 6, 7, 5, list{2, 2, 1, 1, 3, 0}, list{3, 2, 5, 5, 0, -1}}, {"first the greatest int", square, 6, math.MaxInt, 4, list{1, 2, 3, 2, 0, 3}, list{4, 0, 1, 0, -1, 3}},
	}
	for _, c := range cases {
		for _, l := range sameGraphs(c.l, c.nodes) {
			checkTableOf(t, c.what, l, c.nodes, c.first, c.dst, c.dist, c.next)
		}
		checkDown(t, c.what, c.l, c.nodes, c.first, c.dst)
	}
}

// TestTableOfNoNodes keeps the destination that it is given, though there is nothing else.
func TestTableOfNoNodes(t *testing.T) {
	for _, l := range [][]impl.Link{nil, squareLinks(), line(upTo(20)...), pairsOf(14)} {
		for _, first := range append([]int{-1, 0, 4, maxNodes}, endsOfInt()...) {
			for _, nodes := range append([]int{-maxNodes, -2, -1, 0, maxNodes + 1, maxNodes + 2, 100, 1 << 32, 1<<32 + 3, -1 << 32}, endsOfInt()...) {
				for _, dst := range append([]int{-1, 0, 1, 5, maxNodes - 1, maxNodes, nodes - 1, nodes}, endsOfInt()...) {
					checkTableOf(t, "nodes", l, nodes, first, dst, nil, nil)
					checkIsTable(t, "nodes", impl.TableOf(l, nodes, first, dst), nodes, first, false)
				}
			}
			for nodes := 1; nodes <= maxNodes; nodes++ {
				for _, dst := range outsiders(nodes) {
					checkTableOf(t, "dst", l, nodes, first, dst, nil, nil)
					x := impl.TableOf(l, nodes, first, dst)
					checkIsTable(t, "dst", x, nodes, first, false)
					checkDownhill(t, "dst", x, true)
					checkRoutes(t, "dst", x)
				}
			}
		}
	}
}

func TestTablesLeadDownhill(t *testing.T) {
	for nodes := 1; nodes <= 4; nodes++ {
		for _, l := range graphsOf(nodes) {
			for first := -1; first <= nodes+1; first++ {
				for dst := range nodes {
					checkDown(t, "small", l, nodes, first, dst)
				}
			}
		}
	}
	random := rand.New(rand.NewSource(15))
	long, without := 0, 0
	for range 2000 {
		nodes := 1 + random.Intn(maxNodes)
		l := randomLinks(random, nodes)
		first := random.Intn(nodes+3) - 1
		for dst := range nodes {
			checkDown(t, "random", l, nodes, first, dst)
			dist := impl.TableOf(l, nodes, first, dst).Dist
			if slices.Max(dist) > 5 {
				long++
			}
			if slices.Min(dist) < 0 {
				without++
			}
		}
	}
	if long == 0 || without == 0 {
		t.Errorf("%d tables with long routes, %d with nodes without one", long, without)
	}
	for _, s := range []impl.Sky{acquiring(planSky(), 2), acquiring(silenceSky(), 1), calmSky()} {
		plan := impl.PlanOf(s, 3, 60)
		for _, x := range impl.PiecesOf(plan, 0, 60) {
			for dst := range impl.NodesOf(s) {
				checkDown(t, "plan", impl.LinksAt(plan, x.From), impl.NodesOf(s), len(s.Sats), dst)
			}
		}
	}
}

func TestIsTable(t *testing.T) {
	type list = []int
	const least, greatest, first = math.MinInt, math.MaxInt, 4
	x := squareTable()
	row := func(node int, dist int, next int) impl.Table { return with(x, node, dist, next) }
	shifted := table(5, list{3, 3, 2, 2, 4, 1}, x.Next)
	cases := []struct {
		what  string
		x     impl.Table
		nodes int
		want  bool
	}{
		{"the square", x, 6, true}, {"one node", table(0, list{0}, list{-1}), 1, true}, {"nodes without a way", table(1, list{-1, 0, -1}, list{-1, -1, -1}), 3, true}, {"a line", lineTable(5), 5, true}, {"a line over a site", lineTable(6), 6, false}, {"to a site without a way", table(5, list{-1, -1, -1, -1, -1, 0}, list{-1, -1, -1, -1, -1, -1}), 6, true},
		// Dist and Next: their lengths.
		{"the zero table", impl.Table{}, 1, false}, {"Dist shorter", table(5, x.Dist[:5], x.Next), 6, false}, {"Dist longer", table(5, append(slices.Clone(x.Dist), -1), x.Next), 6, false}, {"Dist empty", table(5, list{}, x.Next), 6, false}, {"Dist nil", table(5, nil, x.Next), 6, false}, {"Next shorter", table(5, x.Dist, x.Next[:5]), 6, false}, {"Next longer", table(5, x.Dist, append(slices.Clone(x.Next), -1)), 6, false}, {"Next empty", table(5, x.Dist, list{}), 6, false}, {"Next nil", table(5, x.Dist, nil), 6, false},
		{"both shorter", table(2, list{2, 1, 0, 1, 3}, list{1, 2, -1, 2, 0}), 6, false}, {"both shorter by as much as nodes", table(2, list{2, 1, 0, 1, 3}, list{1, 2, -1, 2, 0}), 5, true}, {"both longer", table(5, append(slices.Clone(x.Dist), -1), append(slices.Clone(x.Next), -1)), 6, false}, {"both longer by as much as nodes", table(5, append(slices.Clone(x.Dist), -1), append(slices.Clone(x.Next), -1)), 7, true}, {"Dist of one node, Next of none", table(0, list{0}, nil), 1, false}, {"Next of one node, Dist of none", table(0, nil, list{-1}), 1, false}, {"Dist shorter than for one node", table(0, nil, nil), 1, false}, {"Dist of one node more", table(0, list{0, -1}, list{-1}), 1, false}, {"Next of one node more", table(0, list{0}, list{-1, -1}), 1, false},
		// Dst.
		{"Dst -1, no way", table(-1, list{-1, -1}, list{-1, -1}), 2, false}, {"Dst -1", table(-1, list{0, 1}, list{-1, 0}), 2, false}, {"Dst 0", table(0, list{0, 1}, list{-1, 0}), 2, true}, {"Dst nodes - 1", table(1, list{1, 0}, list{1, -1}), 2, true}, {"Dst nodes", table(2, list{1, 0}, list{1, -1}), 2, false}, {"Dst nodes, no way", table(2, list{-1, -1}, list{-1, -1}), 2, false}, {"Dst at another node", table(2, x.Dist, x.Next), 6, false}, {"Dst at a node without a way", table(0, list{-1, 0}, list{-1, -1}), 2, false}, {"Dst the least int, no way", table(least, list{-1}, list{-1}), 1, false}, {"Dst the greatest int, no way", table(greatest, list{-1}, list{-1}), 1, false}, {"Dst beyond 32 bits", table(1<<32, list{0}, list{-1}), 1, false},
		// Dist of Dst.
		{"Dist of Dst -1", row(5, -1, -1), 6, false}, {"Dist of Dst 1", row(5, 1, -1), 6, false}, {"Dist of Dst -2", row(5, -2, -1), 6, false}, {"Dist of Dst nodes - 1", row(5, 5, -1), 6, false}, {"Dist of Dst nodes", row(5, 6, -1), 6, false}, {"Dist of Dst the least int", row(5, least, -1), 6, false}, {"Dist of Dst the greatest int", row(5, greatest, -1), 6, false}, {"all of Dist greater by 1", shifted, 6, false}, {"Dist of Dst -1, of no other node more", table(0, list{-1, -1}, list{-1, -1}), 2, false}, {"Dist of Dst -1, of others 0", table(0, list{-1, 0}, list{-1, 0}), 2, false}, {"Dist of the only one 1", table(0, list{1}, list{-1}), 1, false}, {"Dist of the only one -1", table(0, list{-1}, list{-1}), 1, false},
		// Dist of another node: 4 is on no other one's way, 0 is on the way of 4.
		{"Dist of another node 0", row(4, 0, 0), 6, false}, {"Dist of another node 0, no next", row(4, 0, -1), 6, false}, {"Dist of another node 0, next to one without a way", table(0, list{0, 0, -1}, list{-1, 2, -1}), 3, false}, {"Dist of another node -1, with a next", row(4, -1, 0), 6, false}, {"Dist of another node -1", row(4, -1, -1), 6, true}, {"Dist of another node -1, on the way of one", row(0, -1, -1), 6, false}, {"Dist of another node -2, no next", row(4, -2, -1), 6, false}, {"Dist of another node -2, with a next", row(4, -2, 0), 6, false}, {"Dist of another node 1", row(4, 1, 5), 6, true}, {"Dist of another node 1, no next", row(4, 1, -1), 6, false}, {"Dist of another node nodes - 1", table(3, list{3, 2, 1, 0}, list{1, 2, 3, -1}), 4, true}, {"Dist of another node nodes - 1, next too near", row(4, 5, 0), 6, false}, {"Dist of another node nodes", row(4, 6, 0), 6, false}, {"Dist of another node nodes, no next", row(4, 6, -1), 6, false}, {"Dist of the only other node nodes", table(0, list{0, 2}, list{-1, 0}), 2, false}, {"Dist of another node the least int", row(4, least, -1), 6, false}, {"Dist of another node the least int, with a next", row(4, least, 0), 6, false}, {"Dist of another node the greatest int", row(4, greatest, 0), 6, false}, {"Dist of another node the greatest int, no next", row(4, greatest, -1), 6, false}, {"Dist of two nodes the ends of int", table(0, list{0, least, greatest}, list{-1, 2, -1}), 3, false}, {"Dist greater by 1, on the way of one", row(0, 3, 3), 6, false}, {"Dist less by 1, on the way of one", row(0, 1, 5), 6, false}, {"Dist beyond 32 bits", row(4, 1<<32+3, 0), 6, false}, {"Dist of two nodes below 0", table(0, list{0, -2, -3}, list{-1, 2, -1}), 3, false},
		// Next of Dst.
		{"Next of Dst a neighbor", row(5, 0, 2), 6, false}, {"Next of Dst 0", row(5, 0, 0), 6, false}, {"Next of Dst itself", row(5, 0, 5), 6, false}, {"Next of Dst -2", row(5, 0, -2), 6, false}, {"Next of Dst nodes", row(5, 0, 6), 6, false}, {"Next of Dst the least int", row(5, 0, least), 6, false}, {"Next of Dst the greatest int", row(5, 0, greatest), 6, false}, {"Next of Dst to one without a way", table(0, list{0, 1, -1}, list{2, 0, -1}), 3, false}, {"Next of the only one itself", table(0, list{0}, list{0}), 1, false},
		// Next of a node without a way.
		{"without a way, but a next", row(4, -1, 3), 6, false}, {"without a way, but Dst", row(4, -1, 5), 6, false}, {"without a way, but itself", row(4, -1, 4), 6, false}, {"without a way, but -2", row(4, -1, -2), 6, false}, {"without a way, but nodes", row(4, -1, 6), 6, false}, {"without a way, but the least int", row(4, -1, least), 6, false}, {"without a way, but the greatest int", row(4, -1, greatest), 6, false}, {"without a way, to one below it", table(0, list{0, -1, -2}, list{-1, 2, -1}), 3, false},
		// Next of another node that is no node.
		{"no next", row(0, 2, -1), 6, false}, {"no next, near Dst", row(2, 1, -1), 6, false}, {"Next below -1", row(0, 2, -2), 6, false}, {"Next far below 0", row(0, 2, -6), 6, false}, {"Next at nodes", row(0, 2, 6), 6, false}, {"Next at nodes, all relay", table(0, list{0, 1}, list{-1, 2}), 2, false}, {"Next beyond", row(0, 2, 7), 6, false}, {"Next at MaxSats + MaxSites", row(0, 2, maxNodes), 6, false}, {"Next beyond MaxSats + MaxSites", row(0, 2, maxNodes+1), 6, false}, {"Next the least int", row(0, 2, least), 6, false}, {"Next the greatest int", row(0, 2, greatest), 6, false}, {"Next beyond 32 bits", row(0, 2, 1<<32+3), 6, false},
		// Next of another node by its Dist.
		{"equally near", row(0, 2, 1), 6, false}, {"itself", row(0, 2, 0), 6, false}, {"less by 1, but not the least", row(1, 2, 3), 6, true}, {"less by 1, but no neighbor", row(0, 2, 2), 6, true}, {"less by 2", row(0, 2, 5), 6, false}, {"less by 3", row(4, 3, 5), 6, false}, {"less by 2, to no Dst", row(4, 3, 2), 6, false}, {"farther", row(2, 1, 0), 6, false}, {"to a node without a way", table(3, list{-1, 1, 1, 0}, list{-1, 0, 3, -1}), 4, false}, {"in a circle", table(0, list{0, 2, 2}, list{-1, 2, 1}), 3, false},
		// Sites.
		{"over a site", table(3, list{3, 2, 1, 0, 1, 2}, list{1, 2, 3, -1, 3, 4}), 6, false}, {"over no site", table(3, list{3, 2, 1, 0, 1, 2}, list{1, 2, 3, -1, 3, 2}), 6, true}, {"over a site, to a site", table(5, list{2, -1, -1, -1, 1, 0}, list{4, -1, -1, -1, 5, -1}), 6, false}, {"from a site to a site", table(5, list{-1, -1, -1, -1, 1, 0}, list{-1, -1, -1, -1, 5, -1}), 6, true}, {"to a site and over it", table(4, list{1, 2, -1, -1, 0, 1}, list{4, 0, -1, -1, -1, 4}), 6, true},
	}
	for _, c := range cases {
		checkIsTable(t, c.what, c.x, c.nodes, first, c.want)
		checkIsTable(t, c.what+", second implementation", c.x, c.nodes, first, wantIsTable(c.x, c.nodes, first))
	}
}

// TestIsTableOfNodes has tables of other sizes than nodes tells.
func TestIsTableOfNodes(t *testing.T) {
	for nodes := 1; nodes <= maxNodes; nodes++ {
		x := lineTable(nodes)
		checkIsTable(t, "a line", x, nodes, nodes, true)
		for _, other := range append(outsiders(nodes), 0, nodes-1) {
			if other != nodes {
				checkIsTable(t, "a line", x, other, nodes, false)
				checkIsTable(t, "a line, all relay", x, other, math.MaxInt, false)
			}
		}
		x.Dist[nodes-1]++
		checkIsTable(t, "a line, too long", x, nodes, nodes, false)
		for _, dst := range outsiders(nodes) {
			none := slices.Repeat([]int{-1}, nodes)
			checkIsTable(t, "no destination", table(dst, none, none), nodes, nodes, false)
			x := lineTable(nodes)
			x.Dst = dst
			checkIsTable(t, "another destination", x, nodes, nodes, false)
		}
	}
	for _, nodes := range []int{maxNodes + 1, maxNodes + 2, 100, 100000} {
		alone := slices.Repeat([]int{-1}, nodes)
		alone[0] = 0
		for _, x := range []impl.Table{lineTable(nodes), table(0, alone, slices.Repeat([]int{-1}, nodes))} {
			if impl.IsTable(x, nodes, nodes) || impl.IsTable(x, nodes, 0) || impl.IsTable(x, maxNodes, nodes) || impl.IsTable(x, 1, nodes) {
				t.Errorf("IsTable of a table with %d nodes is true", nodes)
			}
		}
	}
	for _, dst := range append([]int{-1, 0, 1}, endsOfInt()...) {
		for _, nodes := range append([]int{-2, -1, 0, 1, maxNodes, maxNodes + 1}, endsOfInt()...) {
			checkIsTable(t, "empty", table(dst, nil, []int{}), nodes, 1, false)
			checkIsTable(t, "empty", table(dst, []int{}, nil), nodes, nodes, false)
		}
	}
	for _, nodes := range append([]int{-1, 0, 2, 1 << 32, 1<<32 + 1}, endsOfInt()...) {
		checkIsTable(t, "one node", table(0, []int{0}, []int{-1}), nodes, 1, false)
	}
}

// TestIsTableOfFirst has the same table with each number of satellites.
func TestIsTableOfFirst(t *testing.T) {
	type list = []int
	near := table(5, list{-1, -1, 1, 1, -1, 0}, list{-1, -1, 5, 5, -1, -1})
	alone := table(1, list{-1, 0, -1}, list{-1, -1, -1})
	cases := []struct {
		what string
		x    impl.Table
		// relays is the greatest node over which a way leads; -1 if there is none.
		relays int
	}{
		{"the square", squareTable(), 3}, {"to 0", table(0, list{0, 1, 2, 1, 1, 2}, list{-1, 0, 1, 0, 0, 3}), 3}, {"over 0 only", table(2, list{1, 2, 0, 2}, list{2, 0, -1, 0}), 0}, {"over the last one", table(0, list{0, 2, 1}, list{-1, 2, 0}), 2}, {"near Dst only", near, -1}, {"no way", alone, -1}, {"one node", table(0, list{0}, list{-1}), -1}, {"a line", lineTable(12), 10}, {"a line of three, to its middle", table(1, list{1, 0, 1}, list{1, -1, 1}), -1},
	}
	for _, c := range cases {
		nodes := len(c.x.Next)
		for _, first := range append(append(upTo(nodes+3), outsiders(nodes)...), -3, -100) {
			checkIsTable(t, c.what, c.x, nodes, first, c.relays < 0 || first > c.relays)
			checkIsTable(t, c.what+", second implementation", c.x, nodes, first, wantIsTable(c.x, nodes, first))
		}
	}
}

// listsOf calls back with each list of a size whose numbers are from low to high.
func listsOf(size int, low int, high int, call func(l []int)) {
	l := slices.Repeat([]int{low}, size)
	for {
		call(slices.Clone(l))
		i := 0
		for i < size && l[i] == high {
			l[i] = low
			i++
		}
		if i == size {
			return
		}
		l[i]++
	}
}

// TestIsTableOfAllSmallTables has each Dist from -2 to nodes and each Next from -2 to nodes.
func TestIsTableOfAllSmallTables(t *testing.T) {
	tables := 0
	for nodes := 1; nodes <= 3; nodes++ {
		listsOf(nodes, -2, nodes, func(next []int) {
			l := hopLinks(next)
			for first := -1; first <= nodes+1; first++ {
				for dst := range nodes {
					wantDist := wantDistances(l, nodes, first, dst)
					isNext := slices.Equal(next, wantNext(l, nodes, first, dst))
					listsOf(nodes, -2, nodes, func(dist []int) {
						want := isNext && slices.Equal(dist, wantDist)
						checkIsTable(t, "small", table(dst, dist, next), nodes, first, want)
						if want {
							tables++
						}
					})
				}
			}
		})
	}
	if tables == 0 {
		t.Error("no table is one")
	}
}

// TestIsTableOfOtherWays has any nearer node as the next one: not the least one, and perhaps no neighbor.
func TestIsTableOfOtherWays(t *testing.T) {
	random := rand.New(rand.NewSource(153))
	others := 0
	for range 3000 {
		nodes := 1 + random.Intn(maxNodes)
		first := random.Intn(nodes+3) - 1
		l, dst := randomLinks(random, nodes), random.Intn(nodes)
		x := impl.TableOf(l, nodes, first, dst)
		for node := range nodes {
			for _, other := range random.Perm(nodes) {
				if x.Dist[node] > 0 && x.Dist[other] == x.Dist[node]-1 && (other < first || other == dst) {
					x.Next[node] = other
				}
			}
		}
		checkIsTable(t, "other ways", x, nodes, first, true)
		checkDownhill(t, "other ways", x, true)
		checkRoutes(t, "other ways", x)
		if !impl.EqualTables(x, impl.TableOf(l, nodes, first, dst)) {
			others++
		}
	}
	if others == 0 {
		t.Error("all ways are those of the links")
	}
}

// TestIsTableOfChangedTables changes one number of a table that links give.
func TestIsTableOfChangedTables(t *testing.T) {
	random := rand.New(rand.NewSource(151))
	still, no := 0, 0
	for range 20000 {
		nodes := 1 + random.Intn(maxNodes)
		first := random.Intn(nodes+3) - 1
		x := impl.TableOf(randomLinks(random, nodes), nodes, first, random.Intn(nodes))
		node := random.Intn(nodes)
		switch random.Intn(5) {
		case 0:
			x.Dist[node] = random.Intn(nodes+4) - 2
		case 1:
			x.Next[node] = random.Intn(nodes+4) - 2
		case 2:
			x.Dist[node] += 1 - 2*random.Intn(2)
			x.Next[node] = random.Intn(nodes+2) - 1
		case 3:
			first = random.Intn(nodes+3) - 1
		case 4:
			x.Dst = random.Intn(nodes+2) - 1
		}
		want := wantIsTable(x, nodes, first)
		checkIsTable(t, "changed", x, nodes, first, want)
		checkDownhill(t, "changed", x, wantDownhill(x))
		if want {
			still++
		} else {
			no++
		}
	}
	if still < 1000 || no < 1000 {
		t.Errorf("%d tables are still some, %d are not", still, no)
	}
}

func TestIsDownhill(t *testing.T) {
	type list = []int
	const least, greatest = math.MinInt, math.MaxInt
	cases := []struct {
		what       string
		dist, next list
		want       bool
	}{
		{"nil", nil, nil, true}, {"empty", list{}, list{}, true}, {"nil and empty", nil, list{}, true}, {"empty and nil", list{}, nil, true},
		{"only Dist", list{0}, nil, false}, {"only Next", nil, list{-1}, false}, {"only Dist, longer", list{2, 1, 0}, list{}, false}, {"only Next, longer", list{}, list{1, 2, -1}, false}, {"Dist longer", list{1, 0, -1}, list{1, -1}, false}, {"Next longer", list{1, 0}, list{1, -1, -1}, false}, {"Dist longer, nothing leads anywhere", list{0, 0}, list{-1}, false}, {"Next longer, nothing leads anywhere", list{0}, list{-1, -1}, false},
		{"one node", list{0}, list{-1}, true}, {"one node, far", list{9}, list{-1}, true}, {"one node, without a way", list{-1}, list{-1}, true}, {"one node, far below 0", list{-9}, list{-1}, true},
		// Next that leads nowhere.
		{"-1", list{-5, 0, 7}, list{-1, -1, -1}, true}, {"below -1", list{0, 1}, list{-2, -3}, true}, {"the length", list{0, 1}, list{2, -1}, true}, {"the length, both", list{0, 0}, list{2, 2}, true}, {"beyond", list{0, 1}, list{3, 99}, true}, {"the ends of int", list{0, 0}, list{least, greatest}, true}, {"beyond 32 bits", list{0, 1}, list{1 << 32, 1<<32 + 1}, true}, {"minus the length", list{0, 1}, list{-2, -1}, true}, {"the length beside one uphill", list{0, 1, 1}, list{3, -1, 1}, false},
		// The next node's Dist.
		{"less by 1", list{1, 0}, list{1, -1}, true}, {"less by 1, back", list{0, 1}, list{-1, 0}, true}, {"less by more", list{9, 2}, list{1, -1}, true}, {"equal", list{1, 1}, list{1, -1}, false}, {"equal, 0", list{0, 0}, list{1, -1}, false}, {"greater by 1", list{1, 2}, list{1, -1}, false}, {"greater by more", list{1, 9}, list{1, -1}, false}, {"greater, from 0", list{0, 1}, list{1, -1}, false}, {"-1", list{1, -1}, list{1, -1}, false}, {"-1, of a node at 0", list{0, -1}, list{1, -1}, false}, {"below 0, but less", list{-1, -2}, list{1, -1}, false}, {"below 0, of a node far away", list{7, -3}, list{1, -1}, false}, {"equal, below 0", list{-1, -1}, list{1, -1}, false}, {"of a node without a way, to 0", list{-1, 0}, list{1, -1}, false}, {"of a node without a way, to 3", list{-1, 3}, list{1, -1}, false},
		{"from the greatest int to 0", list{greatest, 0}, list{1, -1}, true}, {"from the greatest int to the one before", list{greatest, greatest - 1}, list{1, -1}, true}, {"to the greatest int", list{greatest - 1, greatest}, list{1, -1}, false}, {"from 0 to the greatest int", list{0, greatest}, list{1, -1}, false}, {"from the greatest int to the least", list{greatest, least}, list{1, -1}, false}, {"from the least int to the greatest", list{least, greatest}, list{1, -1}, false}, {"from the least int to 0", list{least, 0}, list{1, -1}, false}, {"from 0 to the least int", list{0, least}, list{1, -1}, false}, {"from the least int to 1", list{least, 1}, list{1, -1}, false}, {"beyond 32 bits", list{1 << 32, 1}, list{1, -1}, true}, {"beyond 32 bits, up", list{1, 1 << 32}, list{1, -1}, false},
		// Nodes that lead to themselves, and circles.
		{"itself", list{0}, list{0}, false}, {"itself, far", list{5}, list{0}, false}, {"itself, without a way", list{-1}, list{0}, false}, {"itself, behind another one", list{1, 0}, list{1, 1}, false}, {"itself, at the end", list{1, 0, 4}, list{1, -1, 2}, false}, {"to each other", list{1, 0}, list{1, 0}, false}, {"three in a circle", list{2, 1, 0}, list{1, 2, 0}, false}, {"three in a circle, the other way", list{0, 1, 2}, list{2, 0, 1}, false},
		// Several nodes.
		{"the square", list{2, 2, 1, 1, 3, 0}, list{3, 2, 5, 5, 0, -1}, true}, {"the square by other ways", list{2, 2, 1, 1, 3, 0}, list{5, 3, 5, 5, 5, -1}, true}, {"the square, to one equally near", list{2, 2, 1, 1, 3, 0}, list{1, 2, 5, 5, 0, -1}, false}, {"the square, and back from 5", list{2, 2, 1, 1, 3, 0}, list{3, 2, 5, 5, 0, 2}, false}, {"the square, too near to 4", list{2, 2, 1, 1, 2, 0}, list{3, 2, 5, 5, 0, -1}, false}, {"the square, 5 without a way", list{2, 2, 1, 1, 3, -1}, list{3, 2, 5, 5, 0, -1}, false}, {"all to one", list{1, 7, 0, 3}, list{2, 2, -1, 2}, true}, {"all to one, of which the first is as near", list{0, 1, 0, 1}, list{2, 2, -1, 2}, false}, {"all to one, of which the middle is as near", list{1, 0, 0, 1}, list{2, 2, -1, 2}, false}, {"all to one, of which the last is as near", list{1, 1, 0, 0}, list{2, 2, -1, 2}, false}, {"all to one that has no way", list{1, 1, -1, 1}, list{2, 2, -1, 2}, false}, {"all to one that leads on", list{4, 4, 3, 4, 2}, list{2, 2, 4, 2, -1}, true}, {"all to one that leads up", list{4, 4, 3, 4, 3}, list{2, 2, 4, 2, -1}, false},
		{"the first one up", list{0, 1, 0, 1, 0}, list{1, 2, -1, 4, -1}, false}, {"the last one up", list{1, 0, 1, 0, 0}, list{1, -1, 3, -1, 0}, false}, {"one of two groups up", list{1, 0, 1, 1, 2}, list{1, -1, 3, 1, 3}, false}, {"two groups", list{1, 0, 2, 1, 2}, list{1, -1, 3, 1, 3}, true},
	}
	for _, c := range cases {
		x := table(0, c.dist, c.next)
		checkDownhill(t, c.what, x, c.want)
		checkDownhill(t, c.what+", second implementation", x, wantDownhill(x))
	}
	for size := range 4 {
		listsOf(size, -1, size, func(next []int) {
			listsOf(size, -2, 2, func(dist []int) {
				x := table(0, dist, next)
				checkDownhill(t, "small", x, wantDownhill(x))
			})
		})
	}
}

// TestIsDownhillOfMany has more nodes than a sky has. It does not show them.
func TestIsDownhillOfMany(t *testing.T) {
	for _, many := range []int{maxNodes + 1, 20, 100, 100000} {
		last := many - 1
		circle, up, equal, below, itself, shorter := lineTable(many), lineTable(many), lineTable(many), lineTable(many), lineTable(many), lineTable(many)
		circle.Next[0] = last
		up.Next[last-1] = last
		equal.Dist[last] = last - 1
		below.Dist[0] = -1
		itself.Next[last] = last
		shorter.Dist = shorter.Dist[:last]
		toOne := table(0, append([]int{0}, slices.Repeat([]int{1}, last)...), append([]int{-1}, slices.Repeat([]int{0}, last)...))
		oneNot := table(0, slices.Clone(toOne.Dist), toOne.Next)
		oneNot.Dist[last] = 0
		cases := []struct {
			what string
			x    impl.Table
			want bool
		}{
			{"a line", lineTable(many), true}, {"all to one", toOne, true}, {"the last one as near", oneNot, false}, {"a circle", circle, false}, {"one up", up, false}, {"two equally near", equal, false}, {"Dst below 0", below, false}, {"the last one to itself", itself, false}, {"Dist shorter", shorter, false},
		}
		for _, c := range cases {
			if got := impl.IsDownhill(c.x); got != c.want {
				t.Errorf("%d nodes, %s: IsDownhill = %t, want %t", many, c.what, got, c.want)
			}
		}
	}
}

func TestEqualTables(t *testing.T) {
	type list = []int
	x := squareTable()
	cases := []struct {
		what string
		a, b impl.Table
		want bool
	}{
		{"the same", x, x, true}, {"the same in other memory", x, squareTable(), true}, {"the zero tables", impl.Table{}, impl.Table{}, true}, {"nil and empty", table(3, nil, nil), table(3, list{}, list{}), true}, {"nil and empty, crosswise", table(3, list{}, nil), table(3, nil, list{}), true}, {"no tables, but the same", table(-7, list{9, -9}, list{4}), table(-7, list{9, -9}, list{4}), true},
		{"another Dst", x, table(4, x.Dist, x.Next), false}, {"another Dst, of nothing", table(0, nil, nil), table(1, nil, nil), false}, {"Dst -1", table(-1, nil, nil), impl.Table{}, false}, {"Dst minus itself", table(-5, x.Dist, x.Next), x, false}, {"Dst the ends of int", table(math.MinInt, nil, nil), table(math.MaxInt, nil, nil), false}, {"Dst beyond 32 bits", table(1<<32, nil, nil), impl.Table{}, false},
		{"the first Dist", x, with(x, 0, 3, 3), false}, {"the last Dist", x, with(x, 5, 1, -1), false}, {"a Dist in the middle", x, with(x, 2, -1, 5), false}, {"the first Next", x, with(x, 0, 2, 1), false}, {"the last Next", x, with(x, 5, 0, 0), false}, {"a Next in the middle", x, with(x, 2, 1, -1), false}, {"a Dist beyond 32 bits", x, with(x, 0, 1<<32+2, 3), false}, {"a Next beyond 32 bits", x, with(x, 0, 2, 1<<32+3), false},
		{"Dist shorter", x, table(5, x.Dist[:5], x.Next), false}, {"Dist longer", x, table(5, append(slices.Clone(x.Dist), 0), x.Next), false}, {"Dist nil", x, table(5, nil, x.Next), false}, {"Dist without the first one", x, table(5, x.Dist[1:], x.Next), false}, {"Next shorter", x, table(5, x.Dist, x.Next[:5]), false}, {"Next longer", x, table(5, x.Dist, append(slices.Clone(x.Next), -1)), false}, {"Next empty", x, table(5, x.Dist, list{}), false}, {"both shorter", x, table(5, x.Dist[:5], x.Next[:5]), false}, {"only one 0 in Dist", table(0, list{0}, nil), impl.Table{}, false}, {"only one 0 in Next", table(0, nil, list{0}), impl.Table{}, false}, {"Dist and Next exchanged", x, table(5, x.Next, x.Dist), false}, {"one in Dist, one in Next", table(0, list{1}, nil), table(0, nil, list{1}), false}, {"one moved from Dist to Next", table(0, list{1, 2}, list{3}), table(0, list{1}, list{2, 3}), false}, {"two exchanged in Dist", table(0, list{1, 2}, nil), table(0, list{2, 1}, nil), false}, {"two exchanged in Next", table(0, nil, list{1, 2}), table(0, nil, list{2, 1}), false},
		{"very many", lineTable(100000), lineTable(100000), true},
	}
	for _, c := range cases {
		checkEqual(t, c.what, c.a, c.b, c.want)
		checkEqual(t, c.what+", to itself", c.a, c.a, true)
		checkEqual(t, c.what+", to itself", c.b, c.b, true)
	}
	far := lineTable(100000)
	far.Next[99999] = 0
	if impl.EqualTables(far, lineTable(100000)) {
		t.Error("very many: the last Next does not count")
	}
}

func TestRouteOf(t *testing.T) {
	type list = []int
	const least, greatest = math.MinInt, math.MaxInt
	x := squareTable()
	cut := table(4, list{-1, -1, 2, 1, 0}, list{-1, -1, 3, 4, -1})
	// Next goes round: 0, 1 and 2, with 3 before them and 4 behind.
	round := func(dst int) impl.Table { return table(dst, nil, list{1, 2, 0, 0, -1}) }
	cases := []struct {
		what string
		x    impl.Table
		from int
		want list
	}{
		{"one link", x, 2, list{2, 5}}, {"two links", x, 1, list{1, 2, 5}}, {"three links", x, 4, list{4, 0, 3, 5}}, {"from Dst", x, 5, list{5}}, {"from Dst, the only one", table(0, list{0}, list{-1}), 0, list{0}}, {"from Dst, which leads on", table(0, nil, list{1, -1}), 0, list{0}}, {"to Dst, which leads on", table(1, nil, list{1, 2, -1}), 0, list{0, 1}},
		{"without a way", cut, 0, nil}, {"without a way, another one", cut, 1, nil}, {"beside those without a way", cut, 2, list{2, 3, 4}}, {"over one without a way", table(2, nil, list{1, -1, -1}), 0, nil}, {"over a number that is no node", table(2, nil, list{1, 3, -1}), 0, nil}, {"over the least int", table(2, nil, list{1, least, -1}), 0, nil},
		{"below 0", x, -1, nil}, {"far below 0", x, -6, nil}, {"at the length", x, 6, nil}, {"beyond", x, 7, nil}, {"the least int", x, least, nil}, {"the greatest int", x, greatest, nil}, {"beyond 32 bits", x, 1<<32 + 1, nil},
		{"Dst -1", table(-1, x.Dist, x.Next), 1, nil}, {"Dst -1, from itself", table(-1, x.Dist, x.Next), -1, nil}, {"Dst at the length", table(6, x.Dist, x.Next), 1, nil}, {"Dst at the length, from itself", table(6, x.Dist, x.Next), 6, nil}, {"Dst at the length, next", table(2, nil, list{1, 2}), 0, nil}, {"Dst the least int, next", table(least, nil, list{least}), 0, nil}, {"Dst the greatest int, next", table(greatest, nil, list{greatest}), 0, nil}, {"the zero table", impl.Table{}, 0, nil}, {"empty", table(0, list{0}, list{}), 0, nil},
		{"round, to 1", round(1), 2, list{2, 0, 1}}, {"round, to 2", round(2), 0, list{0, 1, 2}}, {"round, from Dst", round(0), 0, list{0}}, {"into the circle", round(1), 3, list{3, 0, 1}}, {"round without Dst", round(4), 1, nil}, {"into the circle without Dst", round(4), 3, nil}, {"round without Dst, before it", round(3), 0, nil}, {"to itself", table(1, nil, list{0, -1}), 0, nil}, {"Dst to itself", table(1, nil, list{1, 1}), 0, list{0, 1}},
		// Dist does not count.
		{"no Dist", table(5, nil, x.Next), 4, list{4, 0, 3, 5}}, {"uphill", table(2, list{0, 1, 2}, list{1, 2, -1}), 0, list{0, 1, 2}}, {"a Dist of -1", table(2, list{-1, -1, -1}, list{1, 2, -1}), 0, list{0, 1, 2}}, {"all nodes", lineTable(12), 11, list{11, 10, 9, 8, 7, 6, 5, 4, 3, 2, 1, 0}}, {"more nodes than in a sky", lineTable(14), 13, list{13, 12, 11, 10, 9, 8, 7, 6, 5, 4, 3, 2, 1, 0}},
	}
	for _, c := range cases {
		checkRoute(t, c.what, c.x, c.from, c.want...)
		checkRoutes(t, c.what, c.x)
	}
}

func TestUsesNode(t *testing.T) {
	type list = []int
	const least, greatest = math.MinInt, math.MaxInt
	x := squareTable()
	cut := table(4, list{-1, -1, 2, 1, 0}, list{-1, -1, 3, 4, -1})
	cases := []struct {
		what string
		x    impl.Table
		// uses is for each node, and for no other number.
		uses list
	}{
		{"the zero table", impl.Table{}, nil}, {"empty", table(0, list{0}, list{}), nil}, {"only Next", table(5, nil, x.Next), list{1, 0, 1, 2, 0, 5}}, {"one node", table(0, list{0}, list{-1}), list{0}}, {"one node to itself", table(0, list{0}, list{0}), list{0}},
		{"the square", x, list{1, 0, 1, 2, 0, 5}}, {"the square to 0", table(0, nil, list{-1, 0, 1, 0, 0, 3}), list{5, 1, 0, 1, 0, 0}}, {"a line", lineTable(5), list{4, 3, 2, 1, 0}}, {"a line, the other way", table(3, nil, list{1, 2, 3, -1}), list{0, 1, 2, 3}}, {"all to Dst", table(2, nil, list{2, 2, -1, 2}), list{0, 0, 3, 0}}, {"all over one", table(4, nil, list{2, 2, 4, 2, -1}), list{0, 0, 3, 0, 4}}, {"a tree", table(0, nil, list{-1, 0, 0, 1, 1, 2, 2}), list{6, 2, 2, 0, 0, 0, 0}},
		{"without a way", cut, list{0, 0, 0, 1, 2}}, {"no way", table(1, nil, list{-1, -1, -1}), list{0, 0, 0}}, {"a tree without a way to Dst", table(0, nil, list{-1, -1, 1, 2, 1}), list{0, 0, 0, 0, 0}}, {"over numbers that are no nodes", table(0, nil, list{-1, 6, 1, least, greatest, 0}), list{1, 0, 0, 0, 0, 0}}, {"Dst without others", table(2, nil, list{1, 0, -1}), list{0, 0, 0}},
		{"Dst -1", table(-1, nil, list{-1, 0, 1}), list{0, 0, 0}}, {"Dst at the length", table(3, nil, list{3, 0, 1}), list{0, 0, 0}}, {"Dst the least int", table(least, nil, list{least, 0, 1}), list{0, 0, 0}}, {"Dst the greatest int", table(greatest, nil, list{greatest, 0, 1}), list{0, 0, 0}}, {"Dst beyond 32 bits", table(1<<32, nil, list{-1, 0, 1}), list{0, 0, 0}},
		// Dst leads on: routes end there, also where it leads to node.
		{"Dst leads to a node", table(1, nil, list{1, 2, -1}), list{0, 1, 0}}, {"Dst leads to a node on the way", table(3, nil, list{1, 2, 3, 1}), list{0, 1, 2, 3}}, {"Dst leads to a node from which all come", table(2, nil, list{1, 2, 0}), list{0, 1, 2}}, {"Dst leads to itself", table(2, nil, list{1, 2, 2}), list{0, 1, 2}},
		// Circles through Dst, past it, and without it.
		{"a circle of all, to 0", table(0, nil, list{1, 2, 3, 0}), list{3, 0, 1, 2}}, {"a circle of all, to 2", table(2, nil, list{1, 2, 3, 0}), list{1, 2, 3, 0}}, {"into a circle at Dst", table(1, nil, list{1, 2, 0, 1, 3}), list{1, 4, 0, 1, 0}}, {"into a circle behind Dst", table(1, nil, list{1, 2, 0, 2, 3}), list{3, 4, 2, 1, 0}}, {"a circle without Dst", table(4, nil, list{1, 2, 0, 0, -1}), list{0, 0, 0, 0, 0}}, {"a circle beside the ways", table(4, nil, list{1, 2, 0, 4, -1, 3}), list{0, 0, 0, 1, 2, 0}}, {"a way from a circle's node", table(3, nil, list{1, 0, 0, -1}), list{0, 0, 0, 0}}, {"a node to itself", table(2, nil, list{0, 2, -1, 0}), list{0, 0, 1, 0}}, {"two circles, one with Dst", table(0, nil, list{1, 0, 3, 2, 2}), list{1, 0, 0, 0, 0}},
		{"more nodes than in a sky", lineTable(14), list{13, 12, 11, 10, 9, 8, 7, 6, 5, 4, 3, 2, 1, 0}},
	}
	for _, c := range cases {
		for node, want := range c.uses {
			checkUses(t, c.what, c.x, node, want)
		}
		for _, node := range outsiders(len(c.x.Next)) {
			checkUses(t, c.what+", no node", c.x, node, 0)
		}
		checkUses(t, c.what+", Dst as no node", c.x, c.x.Dst, wantUses(c.x, c.x.Dst))
		checkRoutes(t, c.what, c.x)
	}
	const many = 100000
	long := lineTable(many)
	for _, node := range []int{0, 1, 50000, many - 2, many - 1} {
		if got := impl.UsesNode(long, node); got != many-1-node {
			t.Errorf("very many: UsesNode of %d = %d, want %d", node, got, many-1-node)
		}
	}
	long.Next[0] = many - 1
	if got := impl.UsesNode(long, many/2); got != many/2-1 {
		t.Errorf("very many, round: UsesNode = %d, want %d", got, many/2-1)
	}
}

// TestRoutesOfAllSmallTables has each Next from -1 to a number that is no node, and each Dst.
func TestRoutesOfAllSmallTables(t *testing.T) {
	for size := range 5 {
		listsOf(size, -1, size, func(next []int) {
			for dst := -1; dst <= size; dst++ {
				x := table(dst, nil, next)
				for node := -1; node <= size; node++ {
					checkRoute(t, "small", x, node, wantPath(next, node, dst)...)
					checkUses(t, "small", x, node, wantUses(x, node))
				}
			}
		})
	}
	random := rand.New(rand.NewSource(152))
	for range 3000 {
		size := 5 + random.Intn(12)
		next := []int{}
		for range size {
			next = append(next, random.Intn(size+2)-1)
		}
		checkRoutes(t, "random", table(random.Intn(size), nil, next))
	}
}

// TestTablesChangeNothing has lists that lie in the midst of known memory, and overwrites each result.
func TestTablesChangeNothing(t *testing.T) {
	for _, content := range [][]impl.Link{squareLinks(), line(0, 1, 2, 3, 5), links(5, 3, 2, 1), links(0, 99), {}} {
		g := guard(content, link(0, 5))
		for _, dst := range []int{-1, 0, 5, 6} {
			checkNewMemory(t, "TableOf, Dist", 99, func() []int { return impl.TableOf(g.slice, 6, 4, dst).Dist })
			checkNewMemory(t, "TableOf, Next", 99, func() []int { return impl.TableOf(g.slice, 6, 4, dst).Next })
			x := impl.TableOf(g.slice, 6, 4, dst)
			kept := slices.Clone(x.Next)
			fill(x.Dist, 99)
			if !slices.Equal(x.Next, kept) {
				t.Errorf("TableOf(%v, 6, 4, %d): Next shares memory with Dist", content, dst)
			}
			x = impl.TableOf(g.slice, 6, 4, dst)
			kept = slices.Clone(x.Dist)
			fill(x.Next, 99)
			if !slices.Equal(x.Dist, kept) {
				t.Errorf("TableOf(%v, 6, 4, %d): Dist shares memory with Next", content, dst)
			}
		}
		if g.changed() {
			t.Errorf("the links %v are changed", content)
		}
	}
	dist, next := []int{2, 2, 1, 1, 3, 0}, []int{3, 2, 5, 5, 0, -1}
	calls := []struct {
		what string
		call func(x impl.Table) []int
	}{
		{"IsTable", func(x impl.Table) []int { impl.IsTable(x, 6, 4); return nil }},
		{"IsTable of other nodes", func(x impl.Table) []int { impl.IsTable(x, 5, 1); return nil }},
		{"IsDownhill", func(x impl.Table) []int { impl.IsDownhill(x); return nil }},
		{"EqualTables", func(x impl.Table) []int {
			impl.EqualTables(x, squareTable())
			impl.EqualTables(squareTable(), x)
			return nil
		}},
		{"EqualTables of itself", func(x impl.Table) []int { impl.EqualTables(x, x); return nil }},
		{"RouteOf", func(x impl.Table) []int { return impl.RouteOf(x, 4) }},
		{"RouteOf from Dst", func(x impl.Table) []int { return impl.RouteOf(x, 5) }},
		{"RouteOf from no node", func(x impl.Table) []int { return impl.RouteOf(x, 6) }},
		{"UsesNode", func(x impl.Table) []int { impl.UsesNode(x, 3); impl.UsesNode(x, 5); return nil }},
	}
	for _, c := range calls {
		checkListCalls(t, 0, 99, []listCall[int]{
			{c.what + ", Dist", dist, func(l []int) []int { return c.call(table(5, l, next)) }},
			{c.what + ", Next", next, func(l []int) []int { return c.call(table(5, dist, l)) }},
			{c.what + ", Next uphill and round", []int{1, 0, 2, 5, 0, 4}, func(l []int) []int { return c.call(table(5, dist, l)) }},
		})
	}
}

// TestTablesIgnoreSpareCapacity cuts lists off before what would change each result.
func TestTablesIgnoreSpareCapacity(t *testing.T) {
	l := links(0, 1, 1, 2, 0, 2)
	checkTableOf(t, "spare capacity", l[:2], 3, 3, 2, []int{2, 1, 0}, []int{1, 2, -1})
	checkTableOf(t, "no link", l[:0], 3, 3, 2, []int{-1, -1, 0}, []int{-1, -1, -1})
	x := squareTable()
	checkIsTable(t, "spare capacity", table(5, x.Dist[:5], x.Next[:5]), 6, 4, false)
	checkIsTable(t, "no number", table(5, x.Dist[:0], x.Next[:0]), 6, 4, false)
	checkDownhill(t, "spare capacity", table(5, []int{1, 1, 5}[:2], []int{-1, 2, 0}[:2]), true)
	checkDownhill(t, "spare capacity of Dist", table(5, []int{1, 0}[:1], []int{1, -1}), false)
	checkDownhill(t, "spare capacity of Next", table(5, []int{1, 0}, []int{1, -1}[:1]), false)
	checkEqual(t, "spare capacity", table(0, []int{1, 2}[:1], []int{3, 4}[:1]), table(0, []int{1, 5}[:1], []int{3, 6}[:1]), true)
	cut := table(2, nil, []int{1, 2, -1}[:2])
	checkRoute(t, "spare capacity", cut, 0)
	checkUses(t, "spare capacity", cut, 1, 0)
	cut.Dst = 1
	checkRoute(t, "spare capacity", cut, 0, 0, 1)
	checkUses(t, "spare capacity", cut, 1, 1)
	checkUses(t, "spare capacity", table(1, nil, []int{1, -1, 1}[:2]), 1, 1)
}
