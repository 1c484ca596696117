package tests

import (
	"math"
	"math/rand"
	"slices"
	"testing"

	"loop.example/g00599/impl"
)

const maxNodes = impl.MaxSats + impl.MaxSites

// hasLink asks in both directions.
func hasLink(l []impl.Link, a int, b int) bool {
	return slices.Contains(l, link(a, b)) || slices.Contains(l, link(b, a))
}

// wantDistances goes by rounds: in each one, a node is as far away as a neighbor that may lead on, and one link more. After as many rounds as there are nodes nothing changes any more.
func wantDistances(l []impl.Link, nodes int, first int, dst int) []int {
	const far = 1000
	dist := slices.Repeat([]int{far}, nodes)
	dist[dst] = 0
	for range nodes {
		for node := range nodes {
			for other := range nodes {
				if hasLink(l, node, other) && (other < first || other == dst) {
					dist[node] = min(dist[node], dist[other]+1)
				}
			}
		}
	}
	for node := range nodes {
		if dist[node] >= far {
			dist[node] = -1
		}
	}
	return dist
}

// shortestWay tries all paths that go on from the last node of a way without a node that is on it.
func shortestWay(l []impl.Link, nodes int, first int, dst int, way ...int) int {
	at := way[len(way)-1]
	if at == dst {
		return len(way) - 1
	}
	if len(way) > 1 && at >= first {
		return -1
	}
	shortest := -1
	for node := range nodes {
		if hasLink(l, at, node) && !slices.Contains(way, node) {
			size := shortestWay(l, nodes, first, dst, append(slices.Clone(way), node)...)
			if size >= 0 && (shortest < 0 || size < shortest) {
				shortest = size
			}
		}
	}
	return shortest
}

func wantNext(l []impl.Link, nodes int, first int, dst int) []int {
	dist := wantDistances(l, nodes, first, dst)
	next := slices.Repeat([]int{-1}, nodes)
	for node := range nodes {
		for other := nodes - 1; other >= 0; other-- {
			if dist[node] > 0 && dist[other] == dist[node]-1 && hasLink(l, node, other) && (other < first || other == dst) {
				next[node] = other
			}
		}
	}
	return next
}

// after goes a number of steps; -1 if one of them has a number that is no index.
func after(next []int, node int, steps int) int {
	for range steps {
		if node < 0 || node >= len(next) {
			return -1
		}
		node = next[node]
	}
	if node < 0 || node >= len(next) {
		return -1
	}
	return node
}

// wantPath asks where each number of steps leads to.
func wantPath(next []int, from int, dst int) []int {
	path := []int{}
	for steps := 0; steps <= len(next); steps++ {
		node := after(next, from, steps)
		if node < 0 {
			return nil
		}
		path = append(path, node)
		if node == dst {
			return path
		}
	}
	return nil
}

// wantLoop asks of each node and each number of steps whether they lead back.
func wantLoop(next []int) bool {
	for node := range next {
		for steps := 1; steps <= len(next); steps++ {
			if after(next, node, steps) == node {
				return true
			}
		}
	}
	return false
}

// line has a link from each node to the one behind it.
func line(nodes ...int) []impl.Link {
	l := []impl.Link{}
	for i := 1; i < len(nodes); i++ {
		l = append(l, link(min(nodes[i-1], nodes[i]), max(nodes[i-1], nodes[i])))
	}
	return l
}

// circleOf is a line whose last node is linked to the first one.
func circleOf(nodes ...int) []impl.Link {
	return line(append(nodes, nodes[0])...)
}

// star has a link from the center to each other node.
func star(center int, others ...int) []impl.Link {
	l := []impl.Link{}
	for _, node := range others {
		l = append(l, line(center, node)...)
	}
	return l
}

// upTo has the numbers from 0 to n - 1.
func upTo(n int) []int {
	l := []int{}
	for i := range n {
		l = append(l, i)
	}
	return l
}

// outsiders are no nodes of a graph with so many of them. If one of them counted, all nodes would be near one another.
func outsiders(nodes int) []int {
	return append([]int{-2, -1, -nodes, nodes, nodes + 1, 100, 1 << 32, -1 << 32, 1<<32 + 1}, endsOfInt()...)
}

// sameGraphs are lists with the same paths: in another order, the wrong way round, twice, with links of each node to itself, and with links to numbers that are no nodes.
func sameGraphs(l []impl.Link, nodes int) [][]impl.Link {
	reversed := slices.Clone(l)
	slices.Reverse(reversed)
	turned := []impl.Link{}
	for _, x := range l {
		turned = append(turned, link(x.B, x.A))
	}
	own, outer := []impl.Link{}, []impl.Link{}
	for node := range nodes {
		own = append(own, link(node, node))
		for _, other := range outsiders(nodes) {
			outer = append(outer, link(node, other), link(other, node))
		}
	}
	for _, a := range outsiders(nodes) {
		for _, b := range outsiders(nodes) {
			outer = append(outer, link(a, b))
		}
	}
	return [][]impl.Link{l, reversed, turned, slices.Concat(l, l), slices.Concat(turned, l), slices.Concat(own, l), slices.Concat(outer, l), slices.Concat(l, outer, own, reversed)}
}

// checkPaths has literal lists for both functions.
func checkPaths(t *testing.T, what string, l []impl.Link, nodes int, first int, dst int, dist []int, next []int) {
	t.Helper()
	if got := impl.DistancesTo(l, nodes, first, dst); !slices.Equal(got, dist) {
		t.Errorf("%s: DistancesTo(%v, %d, %d, %d) = %v, want %v", what, l, nodes, first, dst, got, dist)
	}
	if got := impl.NextTo(l, nodes, first, dst); !slices.Equal(got, next) {
		t.Errorf("%s: NextTo(%v, %d, %d, %d) = %v, want %v", what, l, nodes, first, dst, got, next)
	}
}

func checkPathTo(t *testing.T, what string, next []int, from int, dst int, want ...int) {
	t.Helper()
	if got := impl.PathTo(next, from, dst); !slices.Equal(got, want) {
		t.Errorf("%s: PathTo(%v, %d, %d) = %v, want %v", what, next, from, dst, got, want)
	}
}

func checkLoop(t *testing.T, what string, next []int, want bool) {
	t.Helper()
	if got := impl.HasLoop(next); got != want {
		t.Errorf("%s: HasLoop(%v) = %t, want %t", what, next, got, want)
	}
}

// checkShortest is promise 14 for one destination: next nodes are nearer by one, and lead to it along a path with as many links as the distance tells, which relays only over nodes less than first. Where no path is told of, none is found. All distances are those of the second implementation.
func checkShortest(t *testing.T, what string, l []impl.Link, nodes int, first int, dst int) {
	t.Helper()
	checkPaths(t, what, l, nodes, first, dst, wantDistances(l, nodes, first, dst), wantNext(l, nodes, first, dst))
	dist, next := impl.DistancesTo(l, nodes, first, dst), impl.NextTo(l, nodes, first, dst)
	reaching := 0
	for node := range nodes {
		path := impl.PathTo(next, node, dst)
		if len(path) != dist[node]+1 {
			t.Errorf("%s: the path %v from %d to %d by %v has not %d links", what, path, node, dst, next, dist[node])
		}
		if len(path) == 0 {
			continue
		}
		reaching++
		if path[0] != node || path[len(path)-1] != dst {
			t.Errorf("%s: the path %v does not lead from %d to %d", what, path, node, dst)
		}
		for i := 1; i < len(path); i++ {
			if !hasLink(l, path[i-1], path[i]) || dist[path[i]] != dist[path[i-1]]-1 {
				t.Errorf("%s: the path %v goes from %d to %d, with the links %v and the distances %v", what, path, path[i-1], path[i], l, dist)
			}
			if i < len(path)-1 && path[i] >= first {
				t.Errorf("%s: the path %v goes over %d, though the sites begin at %d", what, path, path[i], first)
			}
		}
	}
	if got := impl.CountReaching(dist); got != reaching {
		t.Errorf("%s: CountReaching(%v) = %d, want %d", what, dist, got, reaching)
	}
	checkLoop(t, what, next, false)
}

// squareLinks has the satellites 0 to 3 in a square, and the sites 4 at 0, and 5 at 2 and 3.
func squareLinks() []impl.Link {
	return links(0, 1, 0, 3, 0, 4, 1, 2, 2, 3, 2, 5, 3, 5)
}

func TestPathsOfLinks(t *testing.T) {
	type list = []int
	square := squareLinks()
	byGround := append(line(0, 1, 2, 3), links(0, 4, 3, 4)...)
	cases := []struct {
		what              string
		l                 []impl.Link
		nodes, first, dst int
		dist, next        list
	}{
		{"one node", nil, 1, 1, 0, list{0}, list{-1}}, {"one node, a site", nil, 1, 0, 0, list{0}, list{-1}}, {"no link", nil, 3, 3, 1, list{-1, 0, -1}, list{-1, -1, -1}}, {"no link, of an empty list", []impl.Link{}, 3, 3, 2, list{-1, -1, 0}, list{-1, -1, -1}}, {"no link but with itself", []impl.Link{{}}, 3, 3, 0, list{0, -1, -1}, list{-1, -1, -1}}, {"no link of dst", line(0, 1), 3, 3, 2, list{-1, -1, 0}, list{-1, -1, -1}},
		{"one link", line(0, 1), 2, 2, 1, list{1, 0}, list{1, -1}}, {"one link, back", line(0, 1), 2, 2, 0, list{0, 1}, list{-1, 0}}, {"one link of sites", line(0, 1), 2, 0, 1, list{1, 0}, list{1, -1}}, {"the only link with another node", line(0, 2), 2, 3, 0, list{0, -1}, list{-1, -1}},
		// Lines.
		{"a line", line(0, 1, 2, 3), 4, 4, 3, list{3, 2, 1, 0}, list{1, 2, 3, -1}}, {"a line to its beginning", line(0, 1, 2, 3), 4, 4, 0, list{0, 1, 2, 3}, list{-1, 0, 1, 2}}, {"a line to its middle", line(0, 1, 2, 3), 4, 4, 1, list{1, 0, 1, 2}, list{1, -1, 1, 2}}, {"a line with two sites", line(0, 1, 2, 3), 4, 2, 0, list{0, 1, 2, -1}, list{-1, 0, 1, -1}}, {"a line with two sites, to one of them", line(0, 1, 2, 3), 4, 2, 3, list{-1, -1, 1, 0}, list{-1, -1, 3, -1}}, {"a line with a site in the middle", line(0, 3, 1, 2), 4, 3, 2, list{-1, 1, 0, 2}, list{-1, 2, -1, 1}}, {"a line with sites at both ends", line(3, 0, 2, 1, 4), 5, 3, 4, list{3, 1, 2, 4, 0}, list{2, 4, 1, 0, -1}},
		{"the longest line", line(upTo(12)...), 12, 12, 11, list{11, 10, 9, 8, 7, 6, 5, 4, 3, 2, 1, 0}, list{1, 2, 3, 4, 5, 6, 7, 8, 9, 10, 11, -1}}, {"the longest line to its beginning", line(upTo(12)...), 12, 12, 0, upTo(12), list{-1, 0, 1, 2, 3, 4, 5, 6, 7, 8, 9, 10}}, {"the longest line of satellites", line(upTo(12)...), 12, 8, 0, list{0, 1, 2, 3, 4, 5, 6, 7, 8, -1, -1, -1}, list{-1, 0, 1, 2, 3, 4, 5, 6, 7, -1, -1, -1}}, {"the longest line of which one end is a site", line(11, 0, 10, 1, 9, 2, 8, 3, 7, 4, 6, 5), 12, 11, 11, list{1, 3, 5, 7, 9, 11, 10, 8, 6, 4, 2, 0}, list{11, 10, 9, 8, 7, 6, 4, 3, 2, 1, 0, -1}},
		// Rings: where there are two ways of the same length, the lesser node is next.
		{"a ring of three", circleOf(0, 1, 2), 3, 3, 2, list{1, 1, 0}, list{2, 2, -1}}, {"a ring of four", circleOf(0, 1, 2, 3), 4, 4, 0, list{0, 1, 2, 1}, list{-1, 0, 1, 0}}, {"a ring of four to 2", circleOf(0, 1, 2, 3), 4, 4, 2, list{2, 1, 0, 1}, list{1, 2, -1, 2}}, {"a ring of four, of which one is a site", circleOf(0, 1, 2, 3), 4, 3, 0, list{0, 1, 2, 1}, list{-1, 0, 1, 0}}, {"a ring of four, the way left over the greater one", circleOf(0, 3, 1, 2), 4, 3, 1, list{2, 0, 1, 1}, list{2, -1, 1, 1}}, {"a ring of four, of which two are sites", circleOf(0, 2, 1, 3), 4, 2, 0, list{0, -1, 1, 1}, list{-1, -1, 0, 0}}, {"a ring of five", circleOf(0, 1, 2, 3, 4), 5, 5, 0, list{0, 1, 2, 2, 1}, list{-1, 0, 1, 4, 0}}, {"a ring of five, cut by a site", circleOf(0, 1, 2, 3, 4), 5, 4, 0, list{0, 1, 2, 3, 1}, list{-1, 0, 1, 2, 0}}, {"the largest ring", circleOf(upTo(12)...), 12, 12, 6, list{6, 5, 4, 3, 2, 1, 0, 1, 2, 3, 4, 5}, list{1, 2, 3, 4, 5, 6, -1, 6, 7, 8, 9, 10}},
		// Stars.
		{"a star", star(0, 1, 2, 3, 4), 5, 5, 3, list{1, 2, 2, 0, 2}, list{3, 0, 0, -1, 0}}, {"a star to its center", star(0, 1, 2, 3, 4), 5, 5, 0, list{0, 1, 1, 1, 1}, list{-1, 0, 0, 0, 0}}, {"a star around a site", star(4, 0, 1, 2, 3), 5, 4, 0, list{0, -1, -1, -1, 1}, list{-1, -1, -1, -1, 0}}, {"a star around a site, to it", star(4, 0, 1, 2, 3), 5, 4, 4, list{1, 1, 1, 1, 0}, list{4, 4, 4, 4, -1}}, {"a star of sites around a satellite", star(0, 1, 2, 3), 4, 1, 2, list{1, 2, 0, 2}, list{2, 0, -1, 0}}, {"the largest star", star(5, 0, 1, 2, 3, 4, 6, 7, 8, 9, 10, 11), 12, 6, 11, list{2, 2, 2, 2, 2, 1, 2, 2, 2, 2, 2, 0}, list{5, 5, 5, 5, 5, 11, 5, 5, 5, 5, 5, -1}},
		// Pieces that do not hang together.
		{"two pieces", links(0, 1, 2, 3, 3, 4), 5, 5, 4, list{-1, -1, 2, 1, 0}, list{-1, -1, 3, 4, -1}}, {"two pieces, in the other one", links(0, 1, 2, 3, 3, 4), 5, 5, 0, list{0, 1, -1, -1, -1}, list{-1, 0, -1, -1, -1}}, {"a ring apart", append(circleOf(1, 2, 3), link(0, 4)), 5, 5, 4, list{1, -1, -1, -1, 0}, list{4, -1, -1, -1, -1}}, {"pieces that hang together by a site", append(circleOf(0, 1, 4), line(4, 2, 3)...), 5, 4, 3, list{-1, -1, 1, 0, 2}, list{-1, -1, 3, -1, 2}}, {"pieces that hang together by a number that is no node", links(0, 5, 1, 5, 2, -1, 3, -1, 0, 2), 5, 9, 2, list{1, -1, 0, -1, -1}, list{2, -1, -1, -1, -1}},
		// The way over a site.
		{"a site as the only way", links(0, 2, 1, 2), 3, 2, 1, list{-1, 0, 1}, list{-1, -1, 1}}, {"a satellite as the only way", links(0, 2, 1, 2), 3, 3, 1, list{2, 0, 1}, list{2, -1, 1}}, {"a shorter way over a site", byGround, 5, 4, 3, list{3, 2, 1, 0, 1}, list{1, 2, 3, -1, 3}}, {"the same way over a satellite", byGround, 5, 5, 3, list{2, 2, 1, 0, 1}, list{4, 2, 3, -1, 3}}, {"a shorter way over a site, from a site", append(slices.Clone(byGround), link(0, 5)), 6, 4, 3, list{3, 2, 1, 0, 1, 4}, list{1, 2, 3, -1, 3, 0}}, {"from a site to a site over a site", links(0, 2, 2, 3, 3, 4, 0, 1, 1, 4), 5, 2, 4, list{2, 1, 3, 1, 0}, list{1, 4, 0, 4, -1}}, {"from a site to the next site", links(0, 2, 2, 3), 4, 2, 3, list{-1, -1, 1, 0}, list{-1, -1, 3, -1}}, {"two sites between", links(0, 2, 2, 3, 1, 3), 4, 2, 1, list{-1, 0, -1, 1}, list{-1, -1, -1, 1}},
		{"of the same length over a site", links(0, 1, 1, 4, 0, 3, 3, 4), 5, 3, 4, list{2, 1, -1, 1, 0}, list{1, 4, -1, 4, -1}}, {"a site that is nearer by one, but not next", links(0, 3, 3, 2, 0, 1, 1, 4, 4, 2, 1, 2), 5, 3, 2, list{2, 1, 0, 1, 1}, list{1, 2, -1, 2, 2}},
		// Ways of other lengths.
		{"a shorter way over greater nodes", append(line(0, 1, 2, 5), line(0, 4, 5)...), 6, 6, 5, list{2, 2, 1, -1, 1, 0}, list{4, 2, 5, -1, 5, -1}}, {"three ways of the same length", links(0, 1, 0, 2, 0, 3, 1, 4, 2, 4, 3, 4), 5, 5, 4, list{2, 1, 1, 1, 0}, list{1, 4, 4, 4, -1}}, {"three ways of the same length, back", links(0, 1, 0, 2, 0, 3, 1, 4, 2, 4, 3, 4), 5, 5, 0, list{0, 1, 1, 1, 2}, list{-1, 0, 0, 0, 1}}, {"the least neighbor is as far away", links(0, 1, 0, 3, 1, 3, 1, 2, 0, 2), 4, 4, 3, list{1, 1, 2, 0}, list{3, 3, 0, -1}}, {"the least neighbor is farther away", links(0, 1, 1, 2, 2, 3), 4, 4, 3, list{3, 2, 1, 0}, list{1, 2, 3, -1}}, {"the greatest neighbor is the only one that is nearer", links(2, 0, 2, 1, 2, 5, 0, 1, 5, 3), 6, 6, 3, list{3, 3, 2, 0, -1, 1}, list{2, 2, 5, -1, -1, 3}},
		// Who relays: the satellites are the nodes less than first.
		{"the square", square, 6, 4, 5, list{2, 2, 1, 1, 3, 0}, list{3, 2, 5, 5, 0, -1}}, {"the square to a satellite", square, 6, 4, 1, list{1, 0, 1, 2, 2, 2}, list{1, -1, 1, 0, 0, 2}}, {"all relay", square, 6, 6, 1, list{1, 0, 1, 2, 2, 2}, list{1, -1, 1, 0, 0, 2}}, {"more than all relay", square, 6, 7, 5, list{2, 2, 1, 1, 3, 0}, list{3, 2, 5, 5, 0, -1}}, {"none relays", square, 6, 0, 5, list{-1, -1, 1, 1, -1, 0}, list{-1, -1, 5, 5, -1, -1}}, {"less than none relays", square, 6, -1, 5, list{-1, -1, 1, 1, -1, 0}, list{-1, -1, 5, 5, -1, -1}}, {"one relays", square, 6, 1, 1, list{1, 0, 1, 2, 2, -1}, list{1, -1, 1, 0, 0, -1}}, {"three relay", square, 6, 3, 5, list{3, 2, 1, 1, 4, 0}, list{1, 2, 5, 5, 0, -1}}, {"first is dst", square, 6, 2, 2, list{2, 1, 0, 1, 3, 1}, list{1, 2, -1, 2, 0, 2}}, {"first is dst + 1", square, 6, 3, 2, list{2, 1, 0, 1, 3, 1}, list{1, 2, -1, 2, 0, 2}}, {"the least int", square, 6, math.MinInt, 2, list{-1, 1, 0, 1, -1, 1}, list{-1, 2, -1, 2, -1, 2}}, {"the greatest int", square, 6, math.MaxInt, 4, list{1, 2, 3, 2, 0, 3}, list{4, 0, 1, 0, -1, 3}}, {"beyond 32 bits", square, 6, 1 << 32, 4, list{1, 2, 3, 2, 0, 3}, list{4, 0, 1, 0, -1, 3}},
		// Nodes that are cut off.
		{"without the last one", square, 5, 4, 2, list{2, 1, 0, 1, 3}, list{1, 2, -1, 2, 0}}, {"without all but two", square, 2, 4, 0, list{0, 1}, list{-1, 0}}, {"more nodes than in links", square, 8, 4, 0, list{0, 1, 2, 1, 1, 2, -1, -1}, list{-1, 0, 1, 0, 0, 3, -1, -1}},
	}
	for _, c := range cases {
		for _, l := range sameGraphs(c.l, c.nodes) {
			checkPaths(t, c.what, l, c.nodes, c.first, c.dst, c.dist, c.next)
		}
		checkShortest(t, c.what, c.l, c.nodes, c.first, c.dst)
	}
	many := slices.Concat(slices.Repeat(square, 20000), links(0, 5))
	checkPaths(t, "very many", many, 6, 4, 5, list{1, 2, 1, 1, 2, 0}, list{5, 0, 5, 5, 0, -1})
}

// TestPathsOfFirst has each number of satellites in a line of all nodes: one that is cut off at the first site, unless this is the destination.
func TestPathsOfFirst(t *testing.T) {
	for _, first := range append([]int{-5, -1, maxNodes + 5, 1 << 32, -1 << 32}, append(upTo(maxNodes+2), endsOfInt()...)...) {
		for dst := range maxNodes {
			dist, next := slices.Repeat([]int{-1}, maxNodes), slices.Repeat([]int{-1}, maxNodes)
			dist[dst] = 0
			for node := dst + 1; node < maxNodes; node++ {
				if node == dst+1 || node-1 < first {
					dist[node], next[node] = node-dst, node-1
				}
			}
			for node := dst - 1; node >= 0; node-- {
				if node == dst-1 || dst-1 < first {
					dist[node], next[node] = dst-node, node+1
				}
			}
			checkPaths(t, "line", line(upTo(maxNodes)...), maxNodes, first, dst, dist, next)
		}
	}
}

func TestPathsOfNoNodes(t *testing.T) {
	dense := []impl.Link{}
	for a := -3; a < maxNodes+3; a++ {
		for b := a; b < maxNodes+3; b++ {
			dense = append(dense, link(a, b))
		}
	}
	firsts := []int{math.MinInt, -1, 0, 1, 4, maxNodes, math.MaxInt}
	for _, l := range [][]impl.Link{nil, {}, squareLinks(), dense, line(math.MinInt, -1, 0, math.MaxInt)} {
		for _, nodes := range append([]int{-maxNodes, -2, -1, 0, maxNodes + 1, maxNodes + 2, 100, 1 << 32, 1<<32 + 3, -1 << 32}, endsOfInt()...) {
			for _, first := range firsts {
				for _, dst := range []int{math.MinInt, nodes, nodes - 1, -1, 0, 1, 5, maxNodes - 1, maxNodes, math.MaxInt} {
					checkPaths(t, "nodes", l, nodes, first, dst, nil, nil)
				}
			}
		}
		for nodes := 1; nodes <= maxNodes; nodes++ {
			for _, first := range firsts {
				for _, dst := range append([]int{-nodes, -2, -1, nodes, nodes + 1, maxNodes, maxNodes + 1, 1 << 32, -1 << 32, 1<<32 + nodes - 1}, endsOfInt()...) {
					checkPaths(t, "dst", l, nodes, first, dst, nil, nil)
				}
				for dst := range nodes {
					checkShortest(t, "nodes and dst", l, nodes, first, dst)
				}
			}
		}
	}
}

// pairsOf has the links of all pairs of nodes.
func pairsOf(nodes int) []impl.Link {
	l := []impl.Link{}
	for a := range nodes {
		for b := a + 1; b < nodes; b++ {
			l = append(l, link(a, b))
		}
	}
	return l
}

// graphsOf has each choice among the links of all pairs of nodes.
func graphsOf(nodes int) [][]impl.Link {
	pairs := pairsOf(nodes)
	graphs := [][]impl.Link{}
	for chosen := range 1 << len(pairs) {
		l := []impl.Link{}
		for i, x := range pairs {
			if chosen>>i&1 == 1 {
				l = append(l, x)
			}
		}
		graphs = append(graphs, l)
	}
	return graphs
}

// TestPathsOfAllSmallGraphs tries all paths of all graphs of few nodes.
func TestPathsOfAllSmallGraphs(t *testing.T) {
	for nodes := 1; nodes <= 5; nodes++ {
		for _, l := range graphsOf(nodes) {
			for first := range nodes + 1 {
				for dst := range nodes {
					dist := impl.DistancesTo(l, nodes, first, dst)
					for node := range nodes {
						if want := shortestWay(l, nodes, first, dst, node); dist[node] != want {
							t.Fatalf("DistancesTo(%v, %d, %d, %d) = %v, but from %d there are %d links", l, nodes, first, dst, dist, node, want)
						}
					}
					checkShortest(t, "small", l, nodes, first, dst)
				}
			}
		}
	}
}

// randomLinks has links of nodes, and some with numbers around them, with themselves, twice, and the wrong way round.
func randomLinks(random *rand.Rand, nodes int) []impl.Link {
	l := []impl.Link{}
	for range random.Intn(3 * nodes) {
		l = append(l, link(random.Intn(nodes), random.Intn(nodes)))
	}
	for range random.Intn(4) {
		l = append(l, link(random.Intn(nodes+4)-2, random.Intn(nodes+4)-2))
	}
	return l
}

func TestNextNodesLeadAlongShortestPaths(t *testing.T) {
	random := rand.New(rand.NewSource(14))
	long, cutOff := 0, 0
	for range 3000 {
		nodes := 1 + random.Intn(maxNodes)
		l := randomLinks(random, nodes)
		first := random.Intn(nodes+3) - 1
		for dst := range nodes {
			checkShortest(t, "random", l, nodes, first, dst)
			dist := impl.DistancesTo(l, nodes, first, dst)
			if slices.Max(dist) > 5 {
				long++
			}
			if !slices.Equal(dist, impl.DistancesTo(l, nodes, nodes, dst)) {
				cutOff++
			}
			for node := range nodes {
				if back := impl.DistancesTo(l, nodes, first, node)[dst]; back != dist[node] {
					t.Errorf("with %v, %d and %d, %d is %d links from %d, and back %d", l, nodes, first, node, dist[node], dst, back)
				}
			}
		}
	}
	if long == 0 || cutOff == 0 {
		t.Errorf("%d long paths, %d longer ones for the sites", long, cutOff)
	}
}

// TestPathsOfPlans has the sites of skies as destinations, and its satellites.
func TestPathsOfPlans(t *testing.T) {
	for _, s := range []impl.Sky{acquiring(planSky(), 2), acquiring(silenceSky(), 1), calmSky()} {
		plan := impl.PlanOf(s, 3, 60)
		nodes, first := impl.NodesOf(s), len(s.Sats)
		for _, x := range impl.PiecesOf(plan, 0, 60) {
			l := impl.LinksAt(plan, x.From)
			for dst := range nodes {
				checkShortest(t, "plan", l, nodes, first, dst)
				for node, next := range impl.NextTo(l, nodes, first, dst) {
					if next >= 0 && (!impl.CanSpeak(plan, node, next, x.From) || impl.IsSite(s, next) && next != dst) {
						t.Errorf("from %d to %d at %d is no hop of a path to %d", node, next, x.From, dst)
					}
				}
			}
		}
	}
}

func TestPathTo(t *testing.T) {
	type list = []int
	const least, greatest = math.MinInt, math.MaxInt
	next := list{3, 2, 5, 5, 0, -1}
	cases := []struct {
		what      string
		next      list
		from, dst int
		want      list
	}{
		{"nil", nil, 0, 0, nil}, {"empty", list{}, 0, 0, nil}, {"empty, below 0", list{}, -1, -1, nil}, {"empty, at 1", nil, 1, 1, nil}, {"empty, to another one", nil, 0, 1, nil},
		{"one link", next, 2, 5, list{2, 5}}, {"two links", next, 0, 5, list{0, 3, 5}}, {"three links", next, 4, 5, list{4, 0, 3, 5}}, {"not to the end", next, 4, 3, list{4, 0, 3}}, {"of two links, to the first", next, 4, 0, list{4, 0}}, {"not on the way", next, 4, 2, nil}, {"against the way", next, 3, 0, nil}, {"from the end", next, 5, 0, nil},
		{"from dst", next, 5, 5, list{5}}, {"from dst, which leads on", next, 4, 4, list{4}}, {"from dst at 0", next, 0, 0, list{0}}, {"from dst, the only one", list{-1}, 0, 0, list{0}}, {"from dst, which leads to itself", list{0}, 0, 0, list{0}}, {"from dst, which leads nowhere", list{9}, 0, 0, list{0}}, {"from dst, which leads to the least int", list{1, least}, 1, 1, list{1}}, {"from dst in a circle", list{1, 2, 0}, 1, 1, list{1}},
		// from or dst is no index, also where they are equal, and where a number of next is dst.
		{"from below 0", next, -1, 5, nil}, {"from far below 0", next, -6, 5, nil}, {"from at the length", next, 6, 5, nil}, {"from beyond it", next, 7, 5, nil}, {"from the least int", next, least, 5, nil}, {"from the greatest int", next, greatest, 5, nil}, {"from beyond 32 bits", next, 1 << 32, 5, nil}, {"dst below 0", next, 4, -1, nil}, {"dst below 0, from itself", next, -1, -1, nil}, {"dst below 0, next", list{-1}, 0, -1, nil}, {"dst far below 0, next", list{-7, 0}, 1, -7, nil}, {"dst at the length", next, 4, 6, nil}, {"dst at the length, from itself", next, 6, 6, nil}, {"dst at the length, next", list{1, 2}, 0, 2, nil}, {"dst beyond it, next", list{1, 5}, 0, 5, nil}, {"dst the least int, next", list{least}, 0, least, nil}, {"dst the greatest int, next", list{greatest}, 0, greatest, nil}, {"dst the least int, from itself", next, least, least, nil}, {"dst the greatest int, from itself", next, greatest, greatest, nil}, {"dst beyond 32 bits", next, 0, 1<<32 + 5, nil},
		// Numbers that lead nowhere.
		{"-1 before dst", list{1, -1, -1}, 0, 2, nil}, {"below -1 before dst", list{1, -3, -1}, 0, 2, nil}, {"the length before dst", list{1, 3, -1}, 0, 2, nil}, {"beyond the length before dst", list{1, 4, -1}, 0, 2, nil}, {"the least int before dst", list{1, least, -1}, 0, 2, nil}, {"the greatest int before dst", list{1, greatest, -1}, 0, 2, nil}, {"beyond 32 bits before dst", list{1, 1<<32 + 2, -1}, 0, 2, nil}, {"behind dst", list{1, least, -1}, 0, 1, list{0, 1}}, {"elsewhere", list{2, greatest, -1, least}, 0, 2, list{0, 2}},
		// Circles.
		{"round, to the last one", list{1, 2, 0}, 0, 2, list{0, 1, 2}}, {"round, over the beginning", list{1, 2, 0}, 2, 1, list{2, 0, 1}}, {"round without dst", list{1, 0, -1}, 0, 2, nil}, {"round without dst, from dst on", list{1, 0, 0}, 2, 3, nil}, {"into a circle with dst", list{1, 2, 3, 1}, 0, 3, list{0, 1, 2, 3}}, {"into a circle past dst", list{1, 2, 3, 2}, 0, 1, list{0, 1}}, {"into a circle without dst", list{1, 2, 1, 0}, 0, 3, nil}, {"round all but dst", list{1, 2, 3, 0, 0}, 0, 4, nil}, {"dst leads to itself", list{1, 1}, 0, 1, list{0, 1}}, {"a node that leads to itself", list{0, 0}, 0, 1, nil}, {"a node that leads to one that leads to itself", list{1, 1, 0}, 0, 2, nil},
		// The longest paths.
		{"all nodes", list{1, 2, 3, 4, -1}, 0, 4, list{0, 1, 2, 3, 4}}, {"all nodes, downward", list{-1, 0, 1, 2, 3}, 4, 0, list{4, 3, 2, 1, 0}}, {"all nodes, mixed", list{3, 4, -1, 1, 2}, 0, 2, list{0, 3, 1, 4, 2}}, {"all nodes of a circle", list{1, 2, 3, 4, 0}, 3, 2, list{3, 4, 0, 1, 2}},
	}
	for _, c := range cases {
		checkPathTo(t, c.what, c.next, c.from, c.dst, c.want...)
		checkPathTo(t, c.what+", second implementation", c.next, c.from, c.dst, wantPath(c.next, c.from, c.dst)...)
	}
	const many = 100000
	long := upTo(many + 1)[1:]
	checkPathTo(t, "very many", long, 0, many-1, upTo(many)...)
	checkPathTo(t, "very many, without dst", long, 0, many)
	long[many-1] = 1
	checkPathTo(t, "very many, round", long, 1, 0)
}

func TestHasLoop(t *testing.T) {
	type list = []int
	const least, greatest = math.MinInt, math.MaxInt
	cases := []struct {
		what string
		next list
		want bool
	}{
		{"nil", nil, false}, {"empty", list{}, false}, {"a node that leads nowhere", list{-1}, false}, {"to itself", list{0}, true}, {"to itself at the end", list{-1, -1, 2}, true}, {"to itself in the middle", list{-1, 1, -1}, true}, {"to itself, with ways to it", list{1, 1, 1, 2}, true}, {"all to themselves", list{0, 1, 2}, true},
		{"two", list{1, 0}, true}, {"two apart", list{-1, 3, -1, 1, -1}, true}, {"the last two", list{-1, -1, 3, 2}, true}, {"three", list{1, 2, 0}, true}, {"three, the other way", list{2, 0, 1}, true}, {"all", list{3, 4, 5, 1, 2, 0}, true}, {"two of two each", list{1, 0, 3, 2}, true},
		{"into a circle", list{1, 2, 1}, true}, {"into a circle from below", list{2, 0, 3, 2}, true}, {"a long way into a circle", list{1, 2, 3, 4, 5, 4}, true}, {"from several sides", list{3, 3, 4, 4, 3, 3}, true}, {"a circle that no first node leads to", list{-1, 0, 1, 4, 3}, true}, {"a circle and a line", list{1, 2, -1, 4, 3}, true},
		{"a line", list{1, 2, 3, -1}, false}, {"a line, downward", list{-1, 0, 1, 2}, false}, {"a line, mixed", list{3, 4, -1, 1, 2}, false}, {"a tree", list{2, 2, 4, 4, -1, 4}, false}, {"a tree, downward", list{-1, 0, 0, 1, 1, 2, 2}, false}, {"all to one", list{2, 2, -1, 2}, false}, {"two lines into one", list{2, 2, 3, -1, 2}, false}, {"none leads anywhere", list{-1, -1, -1}, false}, {"next nodes of a graph", list{3, 2, 5, 5, 0, -1}, false},
		{"beyond by one", list{1, 2, 3}, false}, {"the length", list{1}, false}, {"beyond", list{-1, 9}, false}, {"below -1", list{-2, 0, 1}, false}, {"the ends of int", list{least, greatest, 0, 1}, false}, {"the ends of int beside a circle", list{least, greatest, 3, 2}, true}, {"beyond 32 bits", list{1 << 32, 1<<32 + 1}, false}, {"the highest bit", list{least, least + 1}, false}, {"numbers with the same remainder", list{3, 4, 5}, false}, {"numbers below 0 with the same remainder", list{-3, -2, -1}, false},
	}
	for _, c := range cases {
		checkLoop(t, c.what, c.next, c.want)
		checkLoop(t, c.what+", second implementation", c.next, wantLoop(c.next))
	}
	const many = 200000
	up, down := upTo(many + 1)[1:], append([]int{-1}, upTo(many-1)...)
	checkLoopOfMany(t, "up", up, false)
	checkLoopOfMany(t, "down", down, false)
	checkLoopOfMany(t, "all to the last one", slices.Repeat([]int{many - 1}, many), true)
	up[many-1], down[0] = many-1, many-1
	checkLoopOfMany(t, "up, and the last one to itself", up, true)
	checkLoopOfMany(t, "down, and round", down, true)
}

// checkLoopOfMany does not show the list.
func checkLoopOfMany(t *testing.T, what string, next []int, want bool) {
	t.Helper()
	if got := impl.HasLoop(next); got != want {
		t.Errorf("very many, %s: HasLoop = %t, want %t", what, got, want)
	}
}

// TestAllSmallLists has all lists of few numbers, from -1 to one that is no index.
func TestAllSmallLists(t *testing.T) {
	for size := range 5 {
		kinds := size + 2
		all := 1
		for range size {
			all *= kinds
		}
		for chosen := range all {
			next := []int{}
			for rest := chosen; len(next) < size; rest /= kinds {
				next = append(next, rest%kinds-1)
			}
			checkLoop(t, "small", next, wantLoop(next))
			for from := -1; from <= size; from++ {
				for dst := -1; dst <= size; dst++ {
					checkPathTo(t, "small", next, from, dst, wantPath(next, from, dst)...)
				}
			}
		}
	}
	random := rand.New(rand.NewSource(141))
	for range 5000 {
		next := []int{}
		size := 5 + random.Intn(8)
		for range size {
			next = append(next, random.Intn(size+2)-1)
		}
		checkLoop(t, "random", next, wantLoop(next))
		from, dst := random.Intn(size), random.Intn(size)
		checkPathTo(t, "random", next, from, dst, wantPath(next, from, dst)...)
	}
}

func TestCountReaching(t *testing.T) {
	cases := []struct {
		what string
		dist []int
		want int
	}{
		{"nil", nil, 0}, {"empty", []int{}, 0}, {"0", []int{0}, 1}, {"-1", []int{-1}, 0}, {"1", []int{1}, 1}, {"-2", []int{-2}, 0}, {"some", []int{-1, 0, 3}, 2}, {"all", []int{2, 2, 1, 1, 3, 0}, 6}, {"none", []int{-1, -1, -5, -1}, 0}, {"only dst", []int{-1, 0, -1}, 1}, {"the same twice", []int{1, 1, 0, 0, 1}, 5}, {"the first one", []int{4, -1, -1}, 1}, {"the last one", []int{-1, -1, 4}, 1},
		{"the least int", []int{math.MinInt}, 0}, {"the greatest int", []int{math.MaxInt}, 1}, {"the ends of int", []int{math.MinInt, math.MinInt + 1, math.MaxInt - 1, math.MaxInt, -1, 0}, 3}, {"beyond 32 bits", []int{1 << 32, -1 << 32, 1 << 31, -1 << 31}, 2},
	}
	for _, c := range cases {
		if got := impl.CountReaching(c.dist); got != c.want {
			t.Errorf("%s: CountReaching(%v) = %d, want %d", c.what, c.dist, got, c.want)
		}
	}
	if got := impl.CountReaching(slices.Repeat([]int{5, -1, 0, -7}, 50000)); got != 100000 {
		t.Errorf("very many: CountReaching = %d, want 100000", got)
	}
	if got := impl.CountReaching([]int{0, -1, 1, 2}[:2]); got != 1 {
		t.Errorf("spare capacity: CountReaching = %d, want 1", got)
	}
}

// TestPathsChangeNothing has lists that lie in the midst of known memory, and overwrites each result.
func TestPathsChangeNothing(t *testing.T) {
	for _, content := range [][]impl.Link{squareLinks(), line(0, 1, 2, 3, 5), links(5, 3, 2, 1), links(0, 99), {}} {
		g := guard(content, link(0, 5))
		for _, dst := range []int{0, 5, 6} {
			checkNewMemory(t, "DistancesTo", 99, func() []int { return impl.DistancesTo(g.slice, 6, 4, dst) })
			checkNewMemory(t, "NextTo", 99, func() []int { return impl.NextTo(g.slice, 6, 4, dst) })
		}
		if g.changed() {
			t.Errorf("the links %v are changed", content)
		}
	}
	checkListCalls(t, 0, 99, []listCall[int]{
		{"PathTo", []int{3, 2, 5, 5, 0, -1}, func(l []int) []int { return impl.PathTo(l, 4, 5) }},
		{"PathTo in order", []int{1, 2, 3, -1}, func(l []int) []int { return impl.PathTo(l, 0, 3) }},
		{"PathTo of one node", []int{0, 1, 2}, func(l []int) []int { return impl.PathTo(l, 1, 1) }},
		{"PathTo of no path", []int{1, 0, 2}, func(l []int) []int { return impl.PathTo(l, 0, 2) }},
		{"PathTo of nothing", nil, func(l []int) []int { return impl.PathTo(l, 0, 0) }},
		{"HasLoop", []int{1, 2, 0}, func(l []int) []int { impl.HasLoop(l); return nil }},
		{"HasLoop of none", []int{1, 2, 3}, func(l []int) []int { impl.HasLoop(l); return nil }},
		{"CountReaching", []int{1, -1, 0}, func(l []int) []int { impl.CountReaching(l); return nil }},
	})
}

// TestPathsIgnoreSpareCapacity cuts lists off before what would change each result.
func TestPathsIgnoreSpareCapacity(t *testing.T) {
	l := links(0, 1, 1, 2, 0, 2)
	checkPaths(t, "spare capacity", l[:2], 3, 3, 2, []int{2, 1, 0}, []int{1, 2, -1})
	checkPaths(t, "no link", l[:0], 3, 3, 2, []int{-1, -1, 0}, []int{-1, -1, -1})
	next := []int{1, 2, 0, 1}
	checkPathTo(t, "spare capacity", next[:2], 0, 2)
	checkPathTo(t, "spare capacity", next[:2], 0, 1, 0, 1)
	checkPathTo(t, "no number", next[:0], 0, 0)
	checkLoop(t, "spare capacity", next[:2], false)
	checkLoop(t, "no number", next[:0], false)
}
