package tests

import (
	"math"
	"math/big"
	"math/rand"
	"slices"
	"testing"

	"loop.example/g00599/impl"
)

func site(plane int, angle int, speed int) impl.Site {
	return impl.Site{Plane: plane, Angle: angle, Speed: speed}
}

func zone(plane int, x impl.Arc) impl.Zone {
	return impl.Zone{Plane: plane, Arc: x}
}

// validSky has three of the four planes that a sky may have, and room for one more of everything.
func validSky() impl.Sky {
	return impl.Sky{
		Planes:  3,
		Sats:    []impl.Sat{{Plane: 0, Phase: 10, Speed: 7, Error: 2}, {Plane: 2, Phase: 350, Speed: -20, Error: 5}},
		Sites:   []impl.Site{site(0, 5, 2), site(2, 300, -1)},
		Reach:   100,
		Cross:   40,
		View:    30,
		Sun:     3,
		Shadow:  70,
		Zones:   []impl.Zone{zone(0, arc(350, 20)), zone(2, arc(90, 0))},
		Acquire: 4,
	}
}

// skyOf has nothing but nodes, one of each plane given, and a limit of each kind.
func skyOf(planes int, sats []int, sites []int) impl.Sky {
	s := impl.Sky{Planes: planes, Reach: 100, Cross: 40, View: 30}
	for _, p := range sats {
		s.Sats = append(s.Sats, impl.Sat{Plane: p})
	}
	for _, p := range sites {
		s.Sites = append(s.Sites, impl.Site{Plane: p})
	}
	return s
}

func endsOfInt() []int {
	return []int{math.MinInt, math.MinInt + 1, math.MaxInt - 1, math.MaxInt}
}

// planeSamples are the planes of a sky, those around them, and those whose difference is 1 if it wraps around.
func planeSamples() []int {
	return append([]int{-2, -1, 0, 1, 2, 3, 4, 5}, endsOfInt()...)
}

// nodeSamples are the nodes of a sky with n of them, and others.
func nodeSamples(n int) []int {
	nodes := append([]int{-2, -1}, endsOfInt()...)
	for node := range n + 2 {
		nodes = append(nodes, node)
	}
	return append(nodes, impl.MaxSats+impl.MaxSites, 1<<32)
}

// manySats are valid in every sky, and each stands somewhere else.
func manySats(n int) []impl.Sat {
	sats := []impl.Sat{}
	for i := range n {
		sats = append(sats, sat(i, 1))
	}
	return sats
}

func manySites(n int) []impl.Site {
	sites := []impl.Site{}
	for i := range n {
		sites = append(sites, site(0, i, 1))
	}
	return sites
}

func manyZones(n int) []impl.Zone {
	return slices.Repeat([]impl.Zone{zone(0, arc(5, 5))}, n)
}

// wantNeighbors walks round the planes of a sky, and round one plane more than a valid sky has; of planes beyond, it knows only that they differ by 1.
func wantNeighbors(planes int, p int, q int) bool {
	if p < 0 || q < 0 {
		return false
	}
	ring := map[int][][2]int{
		1: {},
		2: {{0, 1}},
		3: {{0, 1}, {1, 2}, {2, 0}},
		4: {{0, 1}, {1, 2}, {2, 3}, {3, 0}},
		5: {{0, 1}, {1, 2}, {2, 3}, {3, 4}, {4, 0}},
	}
	by := new(big.Int).Sub(big.NewInt(int64(p)), big.NewInt(int64(q)))
	return by.CmpAbs(big.NewInt(1)) == 0 || slices.Contains(ring[planes], [2]int{p, q}) || slices.Contains(ring[planes], [2]int{q, p})
}

// wantLimit lists all nodes first, as the document does.
func wantLimit(s impl.Sky, a int, b int) int {
	type listed struct {
		isSite bool
		plane  int
	}
	nodes := map[int]listed{}
	for _, x := range s.Sats {
		nodes[len(nodes)] = listed{false, x.Plane}
	}
	for _, x := range s.Sites {
		nodes[len(nodes)] = listed{true, x.Plane}
	}
	x, isX := nodes[a]
	y, isY := nodes[b]
	switch {
	case !isX || !isY || a == b || x.isSite && y.isSite:
		return -1
	case x.isSite || y.isSite:
		if x.plane == y.plane || wantNeighbors(s.Planes, x.plane, y.plane) {
			return s.View
		}
	case x.plane == y.plane:
		return s.Reach
	case wantNeighbors(s.Planes, x.plane, y.plane):
		return s.Cross
	}
	return -1
}

func checkSky(t *testing.T, what string, s impl.Sky, want bool) {
	t.Helper()
	if got := impl.IsSky(s); got != want {
		t.Errorf("%s: IsSky(%+v) = %t, want %t", what, s, got, want)
	}
}

func checkNodeAt(t *testing.T, s impl.Sky, node int, tick int, want impl.Arc) {
	t.Helper()
	if got := impl.NodeAt(s, node, tick); got != want {
		t.Errorf("NodeAt(%+v, %d, %d) = %v, want %v", s, node, tick, got, want)
	}
}

// checkLimit asks for the limit in both directions.
func checkLimit(t *testing.T, s impl.Sky, a int, b int, want int) {
	t.Helper()
	if there, back := impl.LimitOf(s, a, b), impl.LimitOf(s, b, a); there != want || back != want {
		t.Errorf("LimitOf of %d and %d in %+v = %d, and back %d, want %d", a, b, s, there, back, want)
	}
}

func TestIsSky(t *testing.T) {
	type sats = []impl.Sat
	type sites = []impl.Site
	type zones = []impl.Zone
	cases := []struct {
		what   string
		change func(s *impl.Sky)
		want   bool
	}{
		{"as it is", func(s *impl.Sky) {}, true},
		{"one plane too few for a satellite", func(s *impl.Sky) { s.Planes, s.Sites, s.Zones = 2, nil, nil }, false},
		{"one plane too few for a site", func(s *impl.Sky) { s.Planes, s.Sats, s.Zones = 2, manySats(1), nil }, false},
		{"one plane too few for a zone", func(s *impl.Sky) { s.Planes, s.Sats, s.Sites = 2, manySats(1), nil }, false},
		{"all planes", func(s *impl.Sky) { s.Planes = 4 }, true},
		{"a plane too many", func(s *impl.Sky) { s.Planes = 5 }, false},
		{"one plane", func(s *impl.Sky) { s.Planes, s.Sats, s.Sites, s.Zones = 1, manySats(8), manySites(4), manyZones(4) }, true},
		{"no plane", func(s *impl.Sky) { s.Planes, s.Sats, s.Sites, s.Zones = 0, manySats(1), nil, nil }, false},
		{"no satellite", func(s *impl.Sky) { s.Sats = nil }, false},
		{"no satellite in an empty list", func(s *impl.Sky) { s.Sats = sats{} }, false},
		{"one satellite", func(s *impl.Sky) { s.Sats = manySats(1) }, true},
		{"the zero satellite", func(s *impl.Sky) { s.Sats = sats{{}} }, true},
		{"two satellites that are equal", func(s *impl.Sky) { s.Sats = sats{sat(5, 5), sat(5, 5)} }, true},
		{"all satellites", func(s *impl.Sky) { s.Sats = manySats(8) }, true},
		{"a satellite too many", func(s *impl.Sky) { s.Sats = manySats(9) }, false},
		{"many satellites", func(s *impl.Sky) { s.Sats = manySats(1000) }, false},
		{"no site", func(s *impl.Sky) { s.Sites = nil }, true},
		{"no site in an empty list", func(s *impl.Sky) { s.Sites = sites{} }, true},
		{"one site", func(s *impl.Sky) { s.Sites = manySites(1) }, true},
		{"all sites", func(s *impl.Sky) { s.Sites = manySites(4) }, true},
		{"a site too many", func(s *impl.Sky) { s.Sites = manySites(5) }, false},
		{"many sites", func(s *impl.Sky) { s.Sites = manySites(1000) }, false},
		{"least site", func(s *impl.Sky) { s.Sites = sites{site(0, 0, -60)} }, true},
		{"greatest site", func(s *impl.Sky) { s.Sites = sites{site(2, 359, 60)} }, true},
		{"no zone", func(s *impl.Sky) { s.Zones = nil }, true},
		{"no zone in an empty list", func(s *impl.Sky) { s.Zones = zones{} }, true},
		{"one zone", func(s *impl.Sky) { s.Zones = manyZones(1) }, true},
		{"all zones", func(s *impl.Sky) { s.Zones = manyZones(4) }, true},
		{"a zone too many", func(s *impl.Sky) { s.Zones = manyZones(5) }, false},
		{"many zones", func(s *impl.Sky) { s.Zones = manyZones(1000) }, false},
		{"least zone", func(s *impl.Sky) { s.Zones = zones{zone(0, arc(0, 0))} }, true},
		{"greatest zone", func(s *impl.Sky) { s.Zones = zones{zone(2, arc(359, 359))} }, true},
		{"all of everything", func(s *impl.Sky) { s.Sats, s.Sites, s.Zones = manySats(8), manySites(4), manyZones(4) }, true},
		{"least of everything", func(s *impl.Sky) { *s = impl.Sky{Planes: 1, Sats: manySats(1)} }, true},
		{"greatest of everything", func(s *impl.Sky) {
			*s = impl.Sky{Planes: 4, Sats: manySats(8), Sites: manySites(4), Reach: 180, Cross: 180, View: 180, Sun: 60, Shadow: 180, Zones: manyZones(4), Acquire: 20}
		}, true},
		{"the zero sky", func(s *impl.Sky) { *s = impl.Sky{} }, false},
		{"nodes of no sky", func(s *impl.Sky) { *s = impl.Sky{Sats: manySats(8), Sites: manySites(4)} }, false},
	}
	for _, c := range cases {
		s := validSky()
		c.change(&s)
		checkSky(t, c.what, s, c.want)
	}
	if impl.MaxPlanes != 4 || impl.MaxSites != 4 || impl.MaxZones != 4 {
		t.Errorf("MaxPlanes = %d, MaxSites = %d, MaxZones = %d, want 4 each", impl.MaxPlanes, impl.MaxSites, impl.MaxZones)
	}
}

// TestIsSkyAroundTheLimits sets one number of a valid sky at a time: to all numbers around its limits, and to the ends of int's range.
func TestIsSkyAroundTheLimits(t *testing.T) {
	numbers := []struct {
		what      string
		set       func(s *impl.Sky, n int)
		low, high int
	}{
		{"Planes", func(s *impl.Sky, n int) { s.Planes = n }, 3, 4},
		{"Planes of a sky with one", func(s *impl.Sky, n int) { s.Planes, s.Sats, s.Sites, s.Zones = n, manySats(1), nil, nil }, 1, 4},
		{"Plane of a satellite", func(s *impl.Sky, n int) { s.Sats[0].Plane = n }, 0, 2},
		{"Phase of a satellite", func(s *impl.Sky, n int) { s.Sats[0].Phase = n }, 0, 359},
		{"Speed of a satellite", func(s *impl.Sky, n int) { s.Sats[0].Speed = n }, -60, 60},
		{"Error of a satellite", func(s *impl.Sky, n int) { s.Sats[0].Error = n }, 0, 20},
		{"Plane of the last satellite", func(s *impl.Sky, n int) { s.Sats[1].Plane = n }, 0, 2},
		{"Error of the last satellite", func(s *impl.Sky, n int) { s.Sats[1].Error = n }, 0, 20},
		{"Plane of a site", func(s *impl.Sky, n int) { s.Sites[0].Plane = n }, 0, 2},
		{"Angle of a site", func(s *impl.Sky, n int) { s.Sites[0].Angle = n }, 0, 359},
		{"Speed of a site", func(s *impl.Sky, n int) { s.Sites[0].Speed = n }, -60, 60},
		{"Plane of the last site", func(s *impl.Sky, n int) { s.Sites[1].Plane = n }, 0, 2},
		{"Angle of the last site", func(s *impl.Sky, n int) { s.Sites[1].Angle = n }, 0, 359},
		{"Speed of the last site", func(s *impl.Sky, n int) { s.Sites[1].Speed = n }, -60, 60},
		{"Plane of a zone", func(s *impl.Sky, n int) { s.Zones[0].Plane = n }, 0, 2},
		{"Start of a zone", func(s *impl.Sky, n int) { s.Zones[0].Arc.Start = n }, math.MinInt, math.MaxInt},
		{"Width of a zone", func(s *impl.Sky, n int) { s.Zones[0].Arc.Width = n }, 0, 359},
		{"Plane of the last zone", func(s *impl.Sky, n int) { s.Zones[1].Plane = n }, 0, 2},
		{"Width of the last zone", func(s *impl.Sky, n int) { s.Zones[1].Arc.Width = n }, 0, 359},
		{"Reach", func(s *impl.Sky, n int) { s.Reach = n }, 0, 180},
		{"Cross", func(s *impl.Sky, n int) { s.Cross = n }, 0, 180},
		{"View", func(s *impl.Sky, n int) { s.View = n }, 0, 180},
		{"Sun", func(s *impl.Sky, n int) { s.Sun = n }, -60, 60},
		{"Shadow", func(s *impl.Sky, n int) { s.Shadow = n }, 0, 180},
		{"Acquire", func(s *impl.Sky, n int) { s.Acquire = n }, 0, 20},
	}
	samples := append(endsOfInt(), numberSamples()...)
	for n := -circle - 2; n <= circle+2; n++ {
		samples = append(samples, n)
	}
	for _, number := range numbers {
		for _, n := range samples {
			s := validSky()
			number.set(&s, n)
			checkSky(t, number.what, s, number.low <= n && n <= number.high)
		}
	}
}

// checkEachOne has lists of all lengths up to one more than most, and puts each bad one at each place of them.
func checkEachOne[E any](t *testing.T, what string, most int, list func(n int) []E, bad []E, put func(s *impl.Sky, l []E)) {
	t.Helper()
	for n := 1; n <= most+1; n++ {
		s := validSky()
		put(&s, list(n))
		checkSky(t, what+", all valid", s, n <= most)
		for i := range n {
			for _, x := range bad {
				l := list(n)
				l[i] = x
				put(&s, l)
				checkSky(t, what+", one not valid", s, false)
			}
		}
	}
}

func TestIsSkyAsksEachOne(t *testing.T) {
	badSats := []impl.Sat{{Plane: 3}, {Plane: -1}, sat(360, 0), sat(-1, 0), sat(0, 61), sat(0, -61), {Error: 21}, {Error: -1}}
	checkEachOne(t, "satellites", impl.MaxSats, manySats, badSats, func(s *impl.Sky, l []impl.Sat) { s.Sats = l })
	badSites := []impl.Site{site(3, 0, 0), site(-1, 0, 0), site(0, 360, 0), site(0, -1, 0), site(0, 0, 61), site(0, 0, -61)}
	checkEachOne(t, "sites", impl.MaxSites, manySites, badSites, func(s *impl.Sky, l []impl.Site) { s.Sites = l })
	badZones := []impl.Zone{zone(3, arc(0, 0)), zone(-1, arc(0, 0)), zone(0, arc(0, 360)), zone(0, arc(0, -1))}
	checkEachOne(t, "zones", impl.MaxZones, manyZones, badZones, func(s *impl.Sky, l []impl.Zone) { s.Zones = l })
}

// TestNodes has skies with all numbers of satellites and sites, up to more than a valid sky has.
func TestNodes(t *testing.T) {
	for sats := range impl.MaxSats + 3 {
		for sites := range impl.MaxSites + 3 {
			s := impl.Sky{Sats: manySats(sats), Sites: manySites(sites)}
			for i := range s.Sats {
				s.Sats[i].Plane = 10 + i
			}
			for i := range s.Sites {
				s.Sites[i].Plane = 50 + i
			}
			if got := impl.NodesOf(s); got != sats+sites {
				t.Errorf("NodesOf of %d satellites and %d sites = %d", sats, sites, got)
			}
			for _, node := range nodeSamples(sats + sites) {
				isSite, plane := false, -1
				if 0 <= node && node < sats {
					plane = 10 + node
				} else if sats <= node && node < sats+sites {
					isSite, plane = true, 50+node-sats
				}
				if impl.IsSite(s, node) != isSite || impl.PlaneOf(s, node) != plane {
					t.Errorf("node %d of %d satellites and %d sites: IsSite %t, PlaneOf %d, want %t, %d", node, sats, sites, impl.IsSite(s, node), impl.PlaneOf(s, node), isSite, plane)
				}
			}
		}
	}
	none := impl.Sky{}
	if impl.NodesOf(none) != 0 || impl.IsSite(none, 0) || impl.PlaneOf(none, 0) != -1 {
		t.Error("the zero sky has a node")
	}
}

func TestPlaneOfAnyPlane(t *testing.T) {
	s := skyOf(3, planeSamples(), planeSamples())
	for i, p := range append(planeSamples(), planeSamples()...) {
		if got := impl.PlaneOf(s, i); got != p {
			t.Errorf("PlaneOf(%+v, %d) = %d, want %d", s, i, got, p)
		}
	}
}

func TestNodeAt(t *testing.T) {
	s := impl.Sky{
		Sats:  []impl.Sat{withError(sat(350, 20), 2), sat(90, 0), withError(sat(10, -20), 20), withError(sat(0, 61), 361), withError(sat(-10, 5), -1)},
		Sites: []impl.Site{site(0, 5, 2), site(3, 359, -60), site(-1, 725, 61), site(math.MaxInt, math.MaxInt, 0), site(0, math.MaxInt, 1)},
	}
	cases := []struct {
		node, tick int
		want       impl.Arc
	}{
		{0, 0, arc(348, 4)}, {0, 1, arc(8, 4)}, {0, maxTick, arc(188, 4)}, {0, maxTick + 1, arc(348, 4)}, {0, -1, arc(348, 4)}, {0, math.MaxInt, arc(348, 4)}, {0, math.MinInt, arc(348, 4)},
		{1, 0, arc(90, 0)}, {1, 5, arc(90, 0)}, {1, maxTick, arc(90, 0)}, {2, 0, arc(350, 40)}, {2, 1, arc(330, 40)},
		// Satellites that are not valid: the node 3 is too fast, and so stands still, and no arc is widened by the error of either.
		{3, 0, arc(0, 0)}, {3, 1, arc(0, 0)}, {3, maxTick, arc(0, 0)}, {4, 0, arc(350, 0)}, {4, 1, arc(355, 0)}, {4, 2, arc(0, 0)}, {4, maxTick + 1, arc(350, 0)},
		{5, 0, arc(5, 0)}, {5, 1, arc(7, 0)}, {5, 10, arc(25, 0)}, {5, 177, arc(359, 0)}, {5, 178, arc(1, 0)}, {5, maxTick, arc(205, 0)}, {5, maxTick + 1, arc(5, 0)}, {5, -1, arc(5, 0)}, {5, math.MaxInt, arc(5, 0)}, {5, math.MinInt, arc(5, 0)},
		{6, 0, arc(359, 0)}, {6, 1, arc(299, 0)}, {6, 5, arc(59, 0)}, {6, 6, arc(359, 0)}, {6, maxTick, arc(119, 0)}, {6, maxTick + 1, arc(359, 0)}, {6, -1, arc(359, 0)},
		{7, 0, arc(5, 0)}, {7, 1, arc(5, 0)}, {7, maxTick, arc(5, 0)}, {8, 0, arc(7, 0)}, {8, maxTick, arc(7, 0)},
		// The sum wraps around: after math.MaxInt comes math.MinInt.
		{9, 0, arc(7, 0)}, {9, 1, arc(352, 0)}, {9, maxTick + 1, arc(7, 0)},
		{10, 0, arc(0, 0)}, {11, 0, arc(0, 0)}, {-1, 0, arc(0, 0)}, {-1, maxTick, arc(0, 0)}, {-5, 0, arc(0, 0)}, {math.MaxInt, 1, arc(0, 0)}, {math.MaxInt - 1, 1, arc(0, 0)}, {math.MinInt, 1, arc(0, 0)}, {math.MinInt + 1, math.MinInt, arc(0, 0)}, {math.MinInt + 5, 1, arc(0, 0)},
	}
	for _, c := range cases {
		checkNodeAt(t, s, c.node, c.tick, c.want)
	}
	noSats, noSites := impl.Sky{Sites: s.Sites}, impl.Sky{Sats: s.Sats}
	checkNodeAt(t, noSats, 0, 1, arc(7, 0))
	checkNodeAt(t, noSats, 4, 0, arc(7, 0))
	checkNodeAt(t, noSats, 5, 0, arc(0, 0))
	checkNodeAt(t, noSites, 0, 1, arc(8, 4))
	checkNodeAt(t, noSites, 4, 1, arc(355, 0))
	checkNodeAt(t, noSites, 5, 1, arc(0, 0))
	for _, node := range nodeSamples(0) {
		checkNodeAt(t, impl.Sky{}, node, 1, arc(0, 0))
	}
}

func TestNodeAtByTheRule(t *testing.T) {
	for _, phase := range phaseSamples() {
		for _, speed := range speedSamples() {
			s := impl.Sky{Sites: []impl.Site{site(0, phase, speed), site(math.MinInt, phase, speed)}}
			for _, degrees := range []int{0, 1, 20, 21, 180, circle, circle + 1, -1, math.MaxInt, math.MinInt} {
				s.Sats = append(s.Sats, withError(sat(phase, speed), degrees))
			}
			for _, tick := range momentSamples() {
				place := wantPlace(sat(phase, speed), tick)
				for i, x := range s.Sats {
					checkNodeAt(t, s, i, tick, wantWider(arc(place, 0), x.Error))
				}
				checkNodeAt(t, s, len(s.Sats), tick, arc(place, 0))
				checkNodeAt(t, s, len(s.Sats)+1, tick, arc(place, 0))
				checkNodeAt(t, s, len(s.Sats)+2, tick, arc(0, 0))
			}
		}
	}
}

func TestLimitOf(t *testing.T) {
	// The nodes 0 to 4 are satellites, of the planes 0, 0, 1, 2 and 3, and the nodes 5 to 8 are sites, of the planes 0, 0, 1 and 2.
	s := skyOf(4, []int{0, 0, 1, 2, 3}, []int{0, 0, 1, 2})
	cases := []struct{ a, b, want int }{
		{0, 1, 100}, {0, 2, 40}, {0, 3, -1}, {0, 4, 40}, {1, 2, 40}, {1, 3, -1}, {1, 4, 40}, {2, 3, 40}, {2, 4, -1}, {3, 4, 40},
		{0, 5, 30}, {0, 6, 30}, {0, 7, 30}, {0, 8, -1}, {1, 5, 30}, {1, 8, -1}, {2, 5, 30}, {2, 7, 30}, {2, 8, 30}, {3, 5, -1}, {3, 7, 30}, {3, 8, 30}, {4, 5, 30}, {4, 6, 30}, {4, 7, -1}, {4, 8, 30},
		{5, 6, -1}, {5, 7, -1}, {5, 8, -1}, {6, 7, -1}, {7, 8, -1},
		{0, 0, -1}, {2, 2, -1}, {4, 4, -1}, {5, 5, -1}, {8, 8, -1},
		{0, 9, -1}, {4, 9, -1}, {5, 9, -1}, {8, 9, -1}, {9, 9, -1}, {9, 10, -1}, {0, -1, -1}, {5, -1, -1}, {-1, -1, -1}, {-1, -2, -1}, {-1, 9, -1},
		{0, math.MaxInt, -1}, {0, math.MinInt, -1}, {5, math.MaxInt, -1}, {5, math.MinInt, -1}, {math.MaxInt, math.MinInt, -1}, {math.MaxInt, math.MaxInt, -1}, {math.MinInt, math.MinInt, -1}, {math.MinInt + 5, 0, -1},
	}
	for _, c := range cases {
		checkLimit(t, s, c.a, c.b, c.want)
	}
	checkLimit(t, impl.Sky{}, 0, 1, -1)
	checkLimit(t, skyOf(4, nil, []int{0, 1}), 0, 1, -1)
	checkLimit(t, skyOf(4, nil, []int{0, 0}), 0, 1, -1)
	checkLimit(t, skyOf(4, []int{0, 1}, nil), 0, 1, 40)
	checkLimit(t, skyOf(4, []int{0, 0}, nil), 0, 1, 100)
	checkLimit(t, skyOf(4, []int{0}, []int{0}), 0, 1, 30)
	// A node that does not exist has the plane -1 in PlaneOf, but is not of it.
	checkLimit(t, skyOf(4, []int{-1}, []int{-1}), 0, 2, -1)
	checkLimit(t, skyOf(4, []int{-1}, []int{-1}), 1, -1, -1)
	checkLimit(t, skyOf(4, []int{-1}, []int{-1}), 2, 3, -1)
}

// TestLimitOfTwoPlanes puts two satellites, or a satellite and a site, on two planes.
func TestLimitOfTwoPlanes(t *testing.T) {
	const same, near, apart = 0, 1, 2
	cases := []struct {
		planes, p, q int
		want         int
	}{
		{1, 0, 0, same}, {4, 0, 0, same}, {4, 3, 3, same}, {0, 0, 0, same}, {-1, 0, 0, same}, {5, 0, 0, same}, {math.MinInt, 0, 0, same}, {2, 9, 9, same},
		{4, -1, -1, same}, {4, -9, -9, same}, {0, -1, -1, same}, {4, math.MaxInt, math.MaxInt, same}, {4, math.MinInt, math.MinInt, same},
		{4, 0, 1, near}, {4, 1, 2, near}, {4, 2, 3, near}, {4, 0, 3, near}, {4, 0, 2, apart}, {4, 1, 3, apart},
		{3, 0, 1, near}, {3, 1, 2, near}, {3, 0, 2, near}, {3, 0, 3, apart}, {3, 2, 3, near}, {3, 1, 3, apart},
		{2, 0, 1, near}, {2, 0, 2, apart}, {2, 1, 2, near}, {2, 0, 3, apart}, {1, 0, 1, near}, {1, 1, 2, near}, {1, 0, 2, apart}, {1, 0, 3, apart},
		// Planes - 1 is from 1 to MaxPlanes: with MaxPlanes + 1 planes, the last one is a neighbor of the first one too, and with more it is not.
		{5, 0, 4, near}, {5, 3, 4, near}, {5, 0, 1, near}, {5, 0, 2, apart}, {5, 0, 3, apart}, {5, 1, 4, apart}, {5, 0, 5, apart}, {6, 0, 5, apart}, {6, 0, 4, apart}, {6, 0, 1, near}, {6, 4, 5, near}, {7, 0, 6, apart}, {100, 0, 99, apart}, {math.MaxInt, 0, math.MaxInt - 1, apart}, {math.MaxInt, 0, math.MaxInt, apart}, {math.MaxInt, 0, 1, near},
		{0, 0, 1, near}, {0, 0, -1, apart}, {0, 0, 2, apart}, {0, 0, 3, apart}, {-1, 0, -2, apart}, {-1, 0, 1, near}, {-4, 0, 3, apart}, {-4, 0, -5, apart},
		// One less than math.MinInt is math.MaxInt, but no sky has as few planes.
		{math.MinInt, 0, math.MaxInt, apart}, {math.MinInt, 0, math.MaxInt - 1, apart}, {math.MinInt + 1, 0, math.MinInt, apart}, {math.MinInt, 0, 1, near},
		{4, -1, 0, apart}, {4, -2, -1, apart}, {4, -1, 1, apart}, {4, -1, 3, apart}, {4, -4, 0, apart}, {4, -3, 0, apart}, {4, 4, 0, apart}, {4, 3, 4, near}, {4, 4, 5, near}, {4, 4, 6, apart}, {4, 0, 7, apart}, {4, 1, 4, apart},
		{4, math.MaxInt, math.MaxInt - 1, near}, {4, math.MaxInt, math.MaxInt - 2, apart}, {4, math.MaxInt, 0, apart}, {4, math.MaxInt, math.MinInt, apart}, {4, math.MaxInt, math.MinInt + 1, apart}, {4, math.MaxInt, -1, apart}, {4, math.MaxInt - 1, math.MinInt, apart},
		{4, math.MinInt, math.MinInt + 1, apart}, {4, math.MinInt, 0, apart}, {4, math.MinInt, 1, apart}, {4, math.MinInt, -1, apart},
	}
	for _, c := range cases {
		checkLimit(t, skyOf(c.planes, []int{c.p, c.q}, nil), 0, 1, []int{100, 40, -1}[c.want])
		checkLimit(t, skyOf(c.planes, []int{c.p}, []int{c.q}), 0, 1, []int{30, 30, -1}[c.want])
		checkLimit(t, skyOf(c.planes, []int{c.q}, []int{c.p}), 0, 1, []int{30, 30, -1}[c.want])
		checkLimit(t, skyOf(c.planes, nil, []int{c.p, c.q}), 0, 1, -1)
	}
}

// TestLimitOfAnyLimits has limits that no valid sky has: they are returned as they are.
func TestLimitOfAnyLimits(t *testing.T) {
	s := skyOf(4, []int{0, 0, 1, 2}, []int{0, 2})
	for _, n := range []int{0, 1, 180, 181, -1, -2, math.MaxInt, math.MinInt} {
		s.Reach, s.Cross, s.View = n, 7, 8
		checkLimit(t, s, 0, 1, n)
		s.Reach, s.Cross, s.View = 6, n, 8
		checkLimit(t, s, 0, 2, n)
		s.Reach, s.Cross, s.View = 6, 7, n
		checkLimit(t, s, 0, 4, n)
		checkLimit(t, s, 2, 5, n)
		s.Reach, s.Cross, s.View = n, n, n
		checkLimit(t, s, 0, 3, -1)
		checkLimit(t, s, 4, 5, -1)
	}
}

// TestLimitOfNeedsPlanesOnly changes all of a sky that limits do not depend on.
func TestLimitOfNeedsPlanesOnly(t *testing.T) {
	s := validSky()
	s.Sats = append(s.Sats, impl.Sat{Plane: 1, Phase: -1, Speed: 99, Error: 99}, impl.Sat{Plane: 1, Phase: math.MaxInt, Speed: math.MinInt, Error: -1})
	s.Sites = append(s.Sites, site(1, -1, 99))
	s.Sun, s.Shadow, s.Zones, s.Acquire = 99, -1, nil, 99
	for a := range impl.NodesOf(s) {
		for b := range impl.NodesOf(s) {
			checkLimit(t, s, a, b, wantLimit(s, a, b))
		}
	}
}

// TestLimitsAreTheSameInBothDirections is promise 7: it has all pairs of nodes, and others, in skies with all planes that a sky may have and others.
func TestLimitsAreTheSameInBothDirections(t *testing.T) {
	random := rand.New(rand.NewSource(7))
	pick := func() []int {
		picked := []int{}
		for range random.Intn(5) {
			samples := planeSamples()
			picked = append(picked, samples[random.Intn(len(samples))])
		}
		return picked
	}
	skies := []impl.Sky{skyOf(4, []int{0, 0, 1, 2, 2, 3}, []int{3, 0, 1, 1, 2}), validSky(), {}}
	for _, planes := range append(planeSamples(), 6, 100) {
		skies = append(skies, skyOf(planes, planeSamples(), planeSamples()), skyOf(planes, planeSamples(), nil), skyOf(planes, nil, planeSamples()))
		for range 40 {
			skies = append(skies, skyOf(planes, pick(), pick()))
		}
	}
	for _, s := range skies {
		nodes := nodeSamples(impl.NodesOf(s))
		for _, a := range nodes {
			for _, b := range nodes {
				checkLimit(t, s, a, b, wantLimit(s, a, b))
			}
		}
	}
}

// TestSkiesAreNotChanged has lists that lie in the midst of known memory.
func TestSkiesAreNotChanged(t *testing.T) {
	for _, n := range []int{0, 1, 2} {
		s := validSky()
		sats, sites, zones := guard(s.Sats[:n], sat(77, 77)), guard(s.Sites[:n], site(77, 77, 77)), guard(s.Zones[:n], zone(77, arc(77, 77)))
		s.Sats, s.Sites, s.Zones = sats.slice, sites.slice, zones.slice
		for _, a := range nodeSamples(2 * n) {
			valid, nodes, isSite, place, plane := impl.IsSky(s), impl.NodesOf(s), impl.IsSite(s, a), impl.NodeAt(s, a, 5), impl.PlaneOf(s, a)
			if valid != impl.IsSky(s) || nodes != impl.NodesOf(s) || isSite != impl.IsSite(s, a) || place != impl.NodeAt(s, a, 5) || plane != impl.PlaneOf(s, a) {
				t.Errorf("a second call for the node %d of %+v returns something else", a, s)
			}
			for _, b := range nodeSamples(2 * n) {
				impl.LimitOf(s, a, b)
			}
		}
		if sats.changed() || sites.changed() || zones.changed() {
			t.Errorf("a list of a sky with %d of everything is changed", n)
		}
	}
}

// TestSkiesIgnoreSpareCapacity has a satellite, a site and a zone that are not valid behind the end of each list.
func TestSkiesIgnoreSpareCapacity(t *testing.T) {
	s := validSky()
	s.Sats = []impl.Sat{sat(5, 5), {Plane: 9}}[:1]
	s.Sites = []impl.Site{site(1, 5, 5), site(9, 9, 9)}[:1]
	s.Zones = []impl.Zone{zone(0, arc(5, 5)), zone(9, arc(9, 999))}[:1]
	checkSky(t, "not valid behind the end", s, true)
	if impl.NodesOf(s) != 2 || impl.IsSite(s, 2) || impl.PlaneOf(s, 1) != 1 || impl.PlaneOf(s, 2) != -1 || impl.LimitOf(s, 0, 2) != -1 {
		t.Errorf("%+v has a node behind the end of a list", s)
	}
}
