package tests

import (
	"math"
	"math/rand"
	"slices"
	"testing"

	"loop.example/g00599/impl"
)

const (
	noSight   = impl.NoSight
	maySight  = impl.MaySight
	sureSight = impl.SureSight
)

// sightSky has the satellites 0 to 3 and the sites 4 to 7. The satellites 0 and 1 and the satellite 3 and the site 6 go round side by side.
func sightSky() impl.Sky {
	return impl.Sky{
		Planes: 4,
		Sats: []impl.Sat{
			{Plane: 0, Phase: 0, Speed: 10},
			{Plane: 0, Phase: 40, Speed: 10, Error: 3},
			{Plane: 1, Phase: 0, Speed: -10, Error: 2},
			{Plane: 2, Phase: 5, Speed: 10, Error: 1},
		},
		Sites: []impl.Site{site(0, 0, 0), site(0, 180, 0), site(2, 10, 10), site(0, 280, 0)},
		Reach: 43,
		Cross: 42,
		View:  60,
	}
}

// pairSkies have x as the node 0 and y as the node 1 (the site in the last one has its Phase only), and the limit for these two. The other limits would lead to another sight.
func pairSkies(x impl.Sat, y impl.Sat, limit int) []impl.Sky {
	other := 1000
	if limit > 180 {
		other = -1
	}
	next := y
	next.Plane = x.Plane + 1
	return []impl.Sky{
		{Planes: 4, Sats: []impl.Sat{x, y}, Reach: limit, Cross: other, View: other},
		{Planes: 4, Sats: []impl.Sat{x, next}, Reach: other, Cross: limit, View: other},
		{Planes: 4, Sats: []impl.Sat{x}, Sites: []impl.Site{site(x.Plane, y.Phase, 0)}, Reach: other, Cross: other, View: limit},
	}
}

// wantArcs lists where each node may be.
func wantArcs(s impl.Sky, tick int) []impl.Arc {
	arcs := []impl.Arc{}
	for _, x := range s.Sats {
		arcs = append(arcs, wantWider(arc(wantPlace(x, tick), 0), x.Error))
	}
	for _, x := range s.Sites {
		arcs = append(arcs, arc(wantPlace(sat(x.Angle, x.Speed), tick), 0))
	}
	return arcs
}

// wantSight walks from middle to middle, and one degree more or less for every two of the widths.
func wantSight(s impl.Sky, a int, b int, tick int) int {
	limit := wantLimit(s, a, b)
	if limit < 0 {
		return 0
	}
	arcs := wantArcs(s, tick)
	least := wantGap(wantMiddle(arcs[a]), wantMiddle(arcs[b]))
	greatest := least
	for width := arcs[a].Width + arcs[b].Width; width >= 2; width -= 2 {
		least--
		greatest++
	}
	if least > limit {
		return 0
	}
	if greatest > limit {
		return 1
	}
	return 2
}

// sureTicks asks for each tick that a window may have.
func sureTicks(s impl.Sky, a int, b int) [1000]bool {
	sure := [1000]bool{}
	for tick := range sure {
		sure[tick] = wantSight(s, a, b, tick) == 2
	}
	return sure
}

// inRange says of a tick whether it is before to. The one number whose predecessor is above it is math.MinInt.
func inRange(tick int, from int, to int) bool {
	return 0 <= tick && tick < 1000 && from <= tick && (tick < to || to == math.MinInt)
}

// rangeEnds are on both sides of each limit of a range, and of the ends of some windows of sightSky.
func rangeEnds() []int {
	return append(endsOfInt(), -1000, -2, -1, 0, 1, 2, 6, 7, 8, 29, 30, 31, 42, 43, 500, 966, 978, 979, maxTick-2, maxTick-1, maxTick, maxTick+1, maxTick+2, 2000)
}

// checkSight asks in both directions.
func checkSight(t *testing.T, s impl.Sky, a int, b int, tick int, want int) {
	t.Helper()
	if there, back := impl.SightAt(s, a, b, tick), impl.SightAt(s, b, a, tick); there != want || back != want {
		t.Errorf("SightAt of %d and %d at %d in %+v = %d, and back %d, want %d", a, b, tick, s, there, back, want)
	}
	if there, back := impl.IsSure(s, a, b, tick), impl.IsSure(s, b, a, tick); there != (want == sureSight) || back != there {
		t.Errorf("IsSure of %d and %d at %d in %+v = %t, and back %t, SightAt is %d", a, b, tick, s, there, back, want)
	}
}

func checkNeighbors(t *testing.T, s impl.Sky, a int, tick int, want ...int) {
	t.Helper()
	if got := impl.SureNeighbors(s, a, tick); !slices.Equal(got, want) {
		t.Errorf("SureNeighbors(%+v, %d, %d) = %v, want %v", s, a, tick, got, want)
	}
}

// checkWindows asks for the windows and the share, in both directions. Of all ticks of the range, want has those in which sight is sure.
func checkWindows(t *testing.T, s impl.Sky, a int, b int, from int, to int, want []impl.Span, all int) {
	t.Helper()
	ticks := 0
	for _, x := range want {
		ticks += x.To - x.From
	}
	for _, pair := range [][2]int{{a, b}, {b, a}} {
		checkSpans(t, impl.SureWindows(s, pair[0], pair[1], from, to), want, "SureWindows", s, pair, from, to)
		if sure, n := impl.SureShare(s, pair[0], pair[1], from, to); sure != ticks || n != all {
			t.Errorf("SureShare(%+v, %d, %d, %d, %d) = %d, %d, want %d, %d", s, pair[0], pair[1], from, to, sure, n, ticks, all)
		}
	}
}

// checkRange goes by the sure ticks of a pair (sureTicks).
func checkRange(t *testing.T, s impl.Sky, a int, b int, sure [1000]bool, from int, to int) {
	t.Helper()
	all := 0
	for tick := range sure {
		if inRange(tick, from, to) {
			all++
		}
	}
	want := wantSpans(func(tick int) bool { return inRange(tick, from, to) && sure[tick] })
	checkWindows(t, s, a, b, from, to, want, all)
}

// randomSky is valid, but may have nodes that stand side by side and limits that no two nodes are within.
func randomSky(random *rand.Rand) impl.Sky {
	s := impl.Sky{Planes: 1 + random.Intn(impl.MaxPlanes), Reach: random.Intn(181), Cross: random.Intn(181), View: random.Intn(181)}
	for range 1 + random.Intn(impl.MaxSats) {
		s.Sats = append(s.Sats, impl.Sat{Plane: random.Intn(s.Planes), Phase: random.Intn(circle), Speed: random.Intn(2*maxSpeed+1) - maxSpeed, Error: random.Intn(21)})
	}
	for range random.Intn(impl.MaxSites + 1) {
		s.Sites = append(s.Sites, site(random.Intn(s.Planes), random.Intn(circle), random.Intn(2*maxSpeed+1)-maxSpeed))
	}
	return s
}

func TestSightAt(t *testing.T) {
	s := sightSky()
	checkSky(t, "of sight", s, true)
	cases := []struct{ a, b, tick, want int }{
		// Satellites of one plane: the gap is 40, give or take 3, and the limit 43.
		{0, 1, 0, sureSight}, {0, 1, 1, sureSight}, {0, 1, 500, sureSight}, {0, 1, maxTick - 1, sureSight}, {0, 1, maxTick, sureSight}, {0, 1, maxTick + 1, sureSight}, {0, 1, -1, sureSight}, {0, 1, math.MaxInt, sureSight}, {0, 1, math.MinInt, sureSight},
		// Satellites of neighboring planes: they are 20 further apart each tick, and the limit is 42.
		{0, 2, 0, sureSight}, {0, 2, 1, sureSight}, {0, 2, 2, sureSight}, {0, 2, 3, noSight}, {0, 2, 9, noSight}, {0, 2, 15, noSight}, {0, 2, 16, sureSight}, {0, 2, 18, sureSight}, {0, 2, maxTick - 1, noSight}, {0, 2, maxTick, noSight}, {0, 2, maxTick + 1, sureSight}, {0, 2, -1, sureSight}, {0, 2, math.MaxInt, sureSight}, {0, 2, math.MinInt, sureSight},
		{1, 2, 0, maySight}, {1, 2, 1, noSight}, {1, 2, 13, noSight}, {1, 2, 14, maySight}, {1, 2, 15, sureSight}, {1, 2, 16, sureSight}, {1, 2, 17, sureSight}, {1, 2, 18, maySight}, {1, 2, 19, noSight}, {1, 2, -1, maySight}, {1, 2, maxTick + 1, maySight}, {1, 2, math.MinInt, maySight},
		{2, 3, 0, sureSight}, {2, 3, 1, sureSight}, {2, 3, 2, maySight}, {2, 3, 3, noSight}, {2, 3, 15, noSight}, {2, 3, 16, sureSight}, {2, 3, 17, sureSight}, {2, 3, maxTick, noSight},
		// Satellites of planes that are no neighbors.
		{0, 3, 0, noSight}, {1, 3, 0, noSight}, {0, 3, maxTick, noSight},
		// A satellite and a site: the limit is 60.
		{0, 4, 0, sureSight}, {0, 4, 5, sureSight}, {0, 4, 6, sureSight}, {0, 4, 7, noSight}, {0, 4, 18, noSight}, {0, 4, 29, noSight}, {0, 4, 30, sureSight}, {0, 4, 36, sureSight}, {0, 4, 42, sureSight}, {0, 4, 43, noSight}, {0, 4, maxTick - 1, noSight}, {0, 4, maxTick, noSight}, {0, 4, maxTick + 1, sureSight}, {0, 4, -1, sureSight}, {0, 4, -30, sureSight},
		{1, 4, 0, sureSight}, {1, 4, 1, sureSight}, {1, 4, 2, maySight}, {1, 4, 3, noSight}, {1, 4, 25, noSight}, {1, 4, 26, maySight}, {1, 4, 27, sureSight},
		{0, 5, 0, noSight}, {0, 5, 11, noSight}, {0, 5, 12, sureSight}, {0, 5, 18, sureSight}, {0, 5, 24, sureSight}, {0, 5, 25, noSight},
		{0, 7, 0, noSight}, {0, 7, 21, noSight}, {0, 7, 22, sureSight}, {0, 7, 34, sureSight}, {0, 7, 35, noSight}, {0, 7, maxTick - 1, sureSight}, {0, 7, maxTick, sureSight}, {0, 7, maxTick + 1, noSight}, {0, 7, -1, noSight}, {0, 7, math.MaxInt, noSight}, {0, 7, math.MaxInt - 1, noSight}, {0, 7, math.MinInt, noSight}, {0, 7, math.MinInt + 1, noSight},
		{3, 6, 0, sureSight}, {3, 6, 500, sureSight}, {3, 6, maxTick, sureSight}, {2, 6, 0, sureSight}, {2, 6, 2, sureSight}, {2, 6, 3, noSight}, {0, 6, 0, noSight}, {3, 4, 0, noSight},
		// Two sites, and a node and itself.
		{4, 5, 0, noSight}, {4, 6, 0, noSight}, {4, 7, maxTick, noSight}, {0, 0, 0, noSight}, {2, 2, 5, noSight}, {4, 4, 0, noSight}, {7, 7, maxTick, noSight},
		// Nodes that do not exist have the zero Arc, but no limit.
		{0, 8, 0, noSight}, {4, 8, 0, noSight}, {8, 8, 0, noSight}, {8, 9, 0, noSight}, {0, -1, 0, noSight}, {-1, -1, 0, noSight}, {-1, 8, 0, noSight}, {0, math.MaxInt, 0, noSight}, {0, math.MinInt, 0, noSight}, {math.MinInt, math.MaxInt, 0, noSight}, {math.MinInt + 4, 0, 0, noSight}, {0, 1 << 32, 0, noSight},
	}
	for _, c := range cases {
		checkSight(t, s, c.a, c.b, c.tick, c.want)
	}
	checkSight(t, impl.Sky{}, 0, 1, 0, noSight)
	checkSight(t, impl.Sky{}, 0, 0, 0, noSight)
	if noSight != 0 || maySight != 1 || sureSight != 2 {
		t.Errorf("NoSight = %d, MaySight = %d, SureSight = %d, want 0, 1, 2", noSight, maySight, sureSight)
	}
}

// TestSightAtTheLimit has limits that are met exactly, and those beside them.
func TestSightAtTheLimit(t *testing.T) {
	off := func(phase int, degrees int) impl.Sat { return withError(sat(phase, 0), degrees) }
	cases := []struct {
		x, y  impl.Sat
		limit int
		want  int
	}{
		// Without an error there is nothing between none and sure.
		{off(0, 0), off(20, 0), 21, sureSight}, {off(0, 0), off(20, 0), 20, sureSight}, {off(0, 0), off(20, 0), 19, noSight}, {off(350, 0), off(10, 0), 20, sureSight}, {off(350, 0), off(10, 0), 19, noSight},
		{off(0, 0), off(0, 0), 0, sureSight}, {off(0, 0), off(0, 0), 1, sureSight}, {off(0, 0), off(0, 0), -1, noSight}, {off(0, 0), off(0, 0), math.MinInt, noSight}, {off(0, 0), off(1, 0), 0, noSight}, {off(0, 0), off(359, 0), 0, noSight},
		{off(0, 0), off(180, 0), 180, sureSight}, {off(0, 0), off(180, 0), 179, noSight}, {off(0, 0), off(179, 0), 179, sureSight}, {off(0, 0), off(181, 0), 179, sureSight}, {off(0, 0), off(181, 0), 178, noSight},
		// The gap is 20, give or take 4.
		{off(0, 4), off(20, 0), 25, sureSight}, {off(0, 4), off(20, 0), 24, sureSight}, {off(0, 4), off(20, 0), 23, maySight}, {off(0, 4), off(20, 0), 20, maySight}, {off(0, 4), off(20, 0), 17, maySight}, {off(0, 4), off(20, 0), 16, maySight}, {off(0, 4), off(20, 0), 15, noSight}, {off(0, 4), off(20, 0), 0, noSight}, {off(0, 4), off(20, 0), -1, noSight},
		// No gap is less than 0, but what is left of one after the error may be.
		{off(0, 4), off(2, 0), 7, sureSight}, {off(0, 4), off(2, 0), 6, sureSight}, {off(0, 4), off(2, 0), 5, maySight}, {off(0, 4), off(2, 0), 0, maySight}, {off(0, 4), off(2, 0), -1, noSight}, {off(0, 4), off(2, 0), -2, noSight}, {off(0, 4), off(2, 0), -3, noSight}, {off(0, 4), off(2, 0), math.MinInt, noSight},
		{off(0, 4), off(4, 0), 0, maySight}, {off(0, 4), off(5, 0), 0, noSight}, {off(0, 4), off(5, 0), 1, maySight}, {off(0, 1), off(0, 0), 0, maySight}, {off(0, 1), off(0, 0), 1, sureSight},
		// The greatest error of a valid satellite, at the other side of the circle.
		{off(0, 20), off(180, 0), 159, noSight}, {off(0, 20), off(180, 0), 160, maySight}, {off(0, 20), off(180, 0), 180, maySight}, {off(0, 20), off(180, 0), 199, maySight}, {off(0, 20), off(180, 0), 200, sureSight}, {off(0, 20), off(160, 0), 180, sureSight}, {off(0, 20), off(161, 0), 180, maySight},
		// From 180 on, the Width is odd, and the middle is not the place: it is a degree before it for 180, and so on.
		{off(1, 179), off(0, 0), 180, sureSight}, {off(1, 179), off(0, 0), 179, maySight}, {off(1, 180), off(0, 0), 180, sureSight}, {off(1, 180), off(0, 0), 179, sureSight}, {off(1, 180), off(0, 0), 178, maySight}, {off(1, 180), off(0, 0), 0, maySight}, {off(1, 180), off(0, 0), -1, noSight},
		{off(1, 180), off(180, 0), 0, noSight}, {off(1, 180), off(180, 0), 1, maySight}, {off(1, 180), off(180, 0), 2, maySight}, {off(1, 180), off(180, 0), 358, maySight}, {off(1, 180), off(180, 0), 359, sureSight}, {off(2, 181), off(0, 0), 179, sureSight}, {off(2, 181), off(0, 0), 178, maySight}, {off(3, 181), off(0, 0), 179, maySight}, {off(1, 181), off(0, 0), 179, maySight},
		{off(181, 360), off(0, 0), 179, sureSight}, {off(181, 360), off(0, 0), 178, maySight}, {off(181, 360), off(180, 0), 0, noSight}, {off(181, 360), off(180, 0), 1, maySight},
		// No arc is widened by what is below 0 or beyond the circle.
		{off(0, 361), off(20, 0), 20, sureSight}, {off(0, 361), off(20, 0), 19, noSight}, {off(0, -1), off(20, 0), 20, sureSight}, {off(0, -1), off(20, 0), 19, noSight}, {off(0, math.MaxInt), off(20, 0), 19, noSight}, {off(0, math.MinInt), off(20, 0), 20, sureSight},
		{off(0, 4), off(20, 0), math.MaxInt, sureSight}, {off(1, 180), off(180, 0), math.MaxInt, sureSight},
		{off(math.MaxInt, 0), off(math.MinInt, 0), 15, sureSight}, {off(math.MaxInt, 0), off(math.MinInt, 0), 14, noSight}, {off(math.MaxInt, 4), off(-8, 0), 19, sureSight}, {off(math.MaxInt, 4), off(-8, 0), 18, maySight}, {off(math.MaxInt, 4), off(-8, 0), 11, maySight}, {off(math.MaxInt, 4), off(-8, 0), 10, noSight},
	}
	for _, c := range cases {
		for _, s := range pairSkies(c.x, c.y, c.limit) {
			checkSight(t, s, 0, 1, 0, c.want)
			checkSight(t, s, 0, 1, maxTick, c.want)
		}
	}
}

// TestSightOfTwoErrors has sums of two Widths: half of an odd one is rounded down once, not for each Width.
func TestSightOfTwoErrors(t *testing.T) {
	cases := []struct{ phase, error, otherPhase, otherError, least, greatest int }{
		{0, 2, 20, 3, 15, 25}, {0, 3, 20, 2, 15, 25}, {0, 20, 100, 20, 60, 140}, {0, 1, 1, 1, -1, 3}, {0, 90, 180, 90, 0, 360}, {0, 179, 0, 179, -358, 358},
		{1, 180, 0, 1, -180, 180}, {1, 180, 100, 20, -99, 299}, {1, 180, 100, 179, -258, 458}, {1, 180, 101, 180, -259, 459}, {1, 180, 2, 181, -359, 359}, {181, 360, 0, 1, -180, 180}, {181, 360, 1, 180, -359, 359},
		{0, 361, 20, 3, 17, 23}, {0, 3, 20, -1, 17, 23}, {0, -5, 20, 361, 20, 20}, {1, 180, 20, 361, -159, 199},
	}
	for _, c := range cases {
		x, y := withError(sat(c.phase, 0), c.error), withError(sat(c.otherPhase, 0), c.otherError)
		for limit := -3; limit <= c.greatest+3; limit++ {
			want := maySight
			if limit < 0 || limit < c.least {
				want = noSight
			} else if limit >= c.greatest {
				want = sureSight
			}
			for _, s := range pairSkies(x, y, limit)[:2] {
				checkSight(t, s, 0, 1, 7, want)
			}
		}
	}
}

// TestSightAtByTheRule has errors from 0 to beyond the circle, and with each of them the limits around the least and the greatest gap.
func TestSightAtByTheRule(t *testing.T) {
	errors := []int{0, 1, 2, 19, 20, 21, 89, 90, 91, 178, 179, 180, 181, 200, circle - 1, circle, circle + 1, -1, math.MaxInt, math.MinInt}
	met := map[int]int{}
	for _, phase := range []int{0, 1, 20, 89, 90, 179, 180, 181, 270, 359, 360, -10, math.MaxInt, math.MinInt} {
		for _, degrees := range errors {
			for _, other := range errors {
				x, y := withError(sat(350, 0), degrees), withError(sat(phase, 0), other)
				limits := []int{-2, -1, 0, 1, 90, 179, 180, 181, math.MaxInt, math.MinInt}
				arcs := wantArcs(impl.Sky{Sats: []impl.Sat{x, y}}, 0)
				gap, half := wantGap(wantMiddle(arcs[0]), wantMiddle(arcs[1])), (arcs[0].Width+arcs[1].Width)/2
				for by := -1; by <= 1; by++ {
					limits = append(limits, gap-half+by, gap+half+by)
				}
				for _, limit := range limits {
					for _, s := range pairSkies(x, y, limit) {
						want := wantSight(s, 0, 1, 0)
						met[want]++
						checkSight(t, s, 0, 1, 0, want)
					}
				}
			}
		}
	}
	if met[noSight] == 0 || met[maySight] == 0 || met[sureSight] == 0 {
		t.Errorf("not all sights are met: %v", met)
	}
}

// TestSightOfAllNodes has all pairs of nodes, and others, at ticks that count and at others.
func TestSightOfAllNodes(t *testing.T) {
	wrapping := sightSky()
	wrapping.Sats[0].Phase, wrapping.Sats[1].Phase, wrapping.Sats[2].Speed = math.MaxInt, math.MinInt, math.MinInt
	wrapping.Sats[1].Error, wrapping.Sites[0].Speed, wrapping.Sites[1].Angle = 300, -61, math.MaxInt-5000
	negative := sightSky()
	negative.Reach, negative.Cross, negative.View = -1, -2, math.MinInt
	wide := skyOf(5, []int{0, 4, 3, -1, 0}, []int{4, 0, -1})
	wide.Reach, wide.Cross, wide.View = 0, math.MaxInt, 1
	for _, s := range []impl.Sky{sightSky(), validSky(), wrapping, negative, wide, skyOf(4, nil, []int{0, 0}), {}} {
		nodes := nodeSamples(impl.NodesOf(s))
		for _, tick := range momentSamples() {
			for _, a := range nodes {
				want := []int{}
				for _, b := range nodes {
					sight := wantSight(s, a, b, tick)
					checkSight(t, s, a, b, tick, sight)
					if sight == sureSight {
						want = append(want, b)
					}
				}
				checkNeighbors(t, s, a, tick, want...)
			}
		}
	}
}

func TestIsSure(t *testing.T) {
	s := sightSky()
	cases := []struct {
		a, b, tick int
		want       bool
	}{
		{1, 4, 0, true}, {1, 4, 1, true}, {1, 4, 2, false}, {1, 4, 3, false}, {1, 4, 26, false}, {1, 4, 27, true}, {1, 2, 0, false}, {1, 2, 15, true}, {0, 1, 5, true},
		{1, 4, -1, true}, {1, 4, maxTick + 1, true}, {1, 4, maxTick, true}, {1, 5, maxTick, false}, {0, 7, maxTick, true}, {0, 7, 0, false}, {4, 5, 0, false}, {0, 0, 0, false}, {0, 8, 0, false}, {-1, 0, 0, false}, {math.MinInt, math.MaxInt, math.MinInt, false},
	}
	for _, c := range cases {
		if there, back := impl.IsSure(s, c.a, c.b, c.tick), impl.IsSure(s, c.b, c.a, c.tick); there != c.want || back != c.want {
			t.Errorf("IsSure of %d and %d at %d = %t, and back %t, want %t", c.a, c.b, c.tick, there, back, c.want)
		}
	}
}

func TestSureNeighbors(t *testing.T) {
	s := sightSky()
	for _, tick := range []int{0, -1, maxTick + 1, math.MaxInt, math.MinInt} {
		checkNeighbors(t, s, 0, tick, 1, 2, 4)
		checkNeighbors(t, s, 1, tick, 0, 4)
		checkNeighbors(t, s, 2, tick, 0, 3, 4, 6)
		checkNeighbors(t, s, 3, tick, 2, 6)
		checkNeighbors(t, s, 4, tick, 0, 1, 2)
		checkNeighbors(t, s, 5, tick)
		checkNeighbors(t, s, 6, tick, 2, 3)
		checkNeighbors(t, s, 7, tick)
		for _, node := range []int{8, 9, -1, -8, 1 << 32, math.MaxInt, math.MinInt, math.MinInt + 1} {
			checkNeighbors(t, s, node, tick)
		}
	}
	checkNeighbors(t, s, 0, 2, 1, 2, 4)
	checkNeighbors(t, s, 0, 3, 1, 4)
	checkNeighbors(t, s, 1, 2, 0)
	checkNeighbors(t, s, 0, maxTick, 1, 7)
	checkNeighbors(t, s, 7, maxTick, 0, 1)
	checkNeighbors(t, s, 3, maxTick, 6)
	checkNeighbors(t, impl.Sky{}, 0, 0)
	checkNeighbors(t, skyOf(4, []int{0}, nil), 0, 0)
	checkNeighbors(t, skyOf(4, nil, []int{0, 0, 0}), 1, 0)
}

// TestSureNeighborsOfAllAndNone has skies whose satellites see all of the others or none, and one with more nodes than a valid sky has.
func TestSureNeighborsOfAllAndNone(t *testing.T) {
	all := skyOf(1, make([]int, impl.MaxSats), make([]int, impl.MaxSites))
	all.Reach, all.View = 0, 0
	many := skyOf(1, make([]int, 300), make([]int, 3))
	none := all
	none.Reach, none.View = -1, -1
	for _, s := range []impl.Sky{all, many} {
		sats, nodes := len(s.Sats), impl.NodesOf(s)
		for a := range nodes {
			want := []int{}
			for b := range nodes {
				if a != b && (a < sats || b < sats) {
					want = append(want, b)
				}
			}
			checkNeighbors(t, s, a, 5, want...)
		}
	}
	for a := range impl.NodesOf(none) {
		checkNeighbors(t, none, a, 5)
	}
}

func TestSureWindows(t *testing.T) {
	s := sightSky()
	all := spans(0, maxTick)
	cases := []struct {
		a, b, from, to int
		want           []impl.Span
		all            int
	}{
		// The satellite 0 and the site 4: sure from 6 ticks before to 6 ticks after each 36th tick.
		{0, 4, 0, 40, spans(0, 7, 30, 40), 40}, {0, 4, -5, 40, spans(0, 7, 30, 40), 40}, {0, 4, 0, 43, spans(0, 7, 30, 43), 43}, {0, 4, 0, 44, spans(0, 7, 30, 43), 44}, {0, 4, 1, 42, spans(1, 7, 30, 42), 41},
		{0, 4, 6, 31, spans(6, 7, 30, 31), 25}, {0, 4, 7, 30, nil, 23}, {0, 4, 7, 31, spans(30, 31), 24}, {0, 4, 6, 30, spans(6, 7), 24}, {0, 4, 3, 5, spans(3, 5), 2}, {0, 4, 0, 7, spans(0, 7), 7}, {0, 4, 30, 43, spans(30, 43), 13}, {0, 4, 29, 44, spans(30, 43), 15},
		{0, 4, 6, 7, spans(6, 7), 1}, {0, 4, 7, 8, nil, 1}, {0, 4, 6, 6, nil, 0}, {0, 4, 6, 5, nil, 0}, {0, 4, 0, 1, spans(0, 1), 1}, {0, 4, 0, 0, nil, 0}, {0, 4, -1, 0, nil, 0}, {0, 4, -1, 1, spans(0, 1), 1}, {0, 4, 0, -1, nil, 0}, {0, 4, -5, -3, nil, 0}, {0, 4, -3, -5, nil, 0}, {0, 4, 9, 5, nil, 0}, {0, 4, 40, 4, nil, 0},
		{0, 4, 940, maxTick, spans(940, 943, 966, 979), 60}, {0, 4, 978, maxTick, spans(978, 979), 22}, {0, 4, 979, maxTick, nil, 21}, {0, 4, 970, 975, spans(970, 975), 5},
		// The satellite 0 and the site 7, in the last ticks.
		{0, 7, 990, maxTick, spans(994, maxTick), 10}, {0, 7, 990, maxTick + 1, spans(994, maxTick), 10}, {0, 7, 990, maxTick - 1, spans(994, maxTick-1), 9}, {0, 7, maxTick - 1, maxTick, spans(maxTick-1, maxTick), 1}, {0, 7, maxTick - 1, maxTick + 1, spans(maxTick-1, maxTick), 1}, {0, 7, maxTick - 1, maxTick - 1, nil, 0}, {0, 7, maxTick, maxTick + 1, nil, 0}, {0, 7, maxTick + 1, maxTick + 2, nil, 0}, {0, 7, maxTick, 2000, nil, 0}, {0, 7, 995, math.MaxInt, spans(995, maxTick), 5},
		// The satellites 0 and 1, at all ticks.
		{0, 1, 0, maxTick, all, 1000}, {0, 1, -1, maxTick + 1, all, 1000}, {0, 1, math.MinInt, math.MaxInt, all, 1000}, {0, 1, 0, maxTick - 1, spans(0, maxTick-1), 999}, {0, 1, 1, maxTick, spans(1, maxTick), 999}, {0, 1, 5, 6, spans(5, 6), 1}, {0, 1, 5, 5, nil, 0}, {0, 1, 6, 5, nil, 0}, {0, 1, maxTick - 1, maxTick, spans(maxTick-1, maxTick), 1}, {0, 1, maxTick, maxTick, nil, 0}, {0, 1, maxTick, maxTick + 1, nil, 0}, {0, 1, maxTick + 1, maxTick, nil, 0},
		{0, 1, math.MinInt, 0, nil, 0}, {0, 1, math.MinInt, 1, spans(0, 1), 1}, {0, 1, math.MinInt + 1, maxTick, all, 1000}, {0, 1, maxTick - 1, math.MaxInt, spans(maxTick-1, maxTick), 1}, {0, 1, maxTick, math.MaxInt, nil, 0}, {0, 1, math.MaxInt, math.MaxInt, nil, 0}, {0, 1, math.MaxInt - 1, math.MaxInt, nil, 0}, {0, 1, math.MaxInt, 5, nil, 0}, {0, 1, 5, math.MinInt + 1, nil, 0}, {0, 1, math.MinInt, math.MinInt + 1, nil, 0}, {0, 1, math.MaxInt, math.MinInt + 1, nil, 0},
		// One less than math.MinInt is math.MaxInt.
		{0, 1, math.MinInt, math.MinInt, all, 1000}, {0, 1, 0, math.MinInt, all, 1000}, {0, 1, 500, math.MinInt, spans(500, maxTick), 500}, {0, 1, maxTick, math.MinInt, nil, 0}, {0, 1, math.MaxInt, math.MinInt, nil, 0}, {0, 4, 979, math.MinInt, nil, 21},
		// The satellites 2 and 1: where sight may be, it is not sure.
		{1, 2, 0, 20, spans(15, 18), 20}, {1, 2, 14, 19, spans(15, 18), 5}, {1, 2, 0, 1, nil, 1}, {1, 4, 0, 30, spans(0, 2, 27, 30), 30},
		// None of all ticks: two sites, a node and itself, no neighbors, and nodes that do not exist. The range has its ticks even so.
		{4, 5, 0, maxTick, nil, 1000}, {4, 5, -5, 40, nil, 40}, {0, 0, 0, maxTick, nil, 1000}, {4, 4, 5, 10, nil, 5}, {0, 3, 0, maxTick, nil, 1000}, {0, 8, 0, maxTick, nil, 1000}, {8, 9, 0, 10, nil, 10}, {-1, 0, 0, 10, nil, 10}, {math.MinInt, math.MaxInt, math.MinInt, math.MaxInt, nil, 1000}, {0, 8, 9, 5, nil, 0},
	}
	for _, c := range cases {
		checkWindows(t, s, c.a, c.b, c.from, c.to, c.want, c.all)
	}
	checkWindows(t, impl.Sky{}, 0, 1, 0, maxTick, nil, 1000)
	windows := []impl.Span{span(0, 7)}
	for tick := 36; tick < maxTick; tick += 36 {
		windows = append(windows, span(tick-6, tick+7))
	}
	checkWindows(t, s, 0, 4, 0, maxTick, windows, 1000)
	checkWindows(t, s, 0, 4, math.MinInt, math.MaxInt, windows, 1000)
	// The tick MaxTick is in no window, though it counts in SightAt.
	if !impl.IsSure(s, 0, 7, maxTick) {
		t.Error("the nodes 0 and 7 do not see each other at MaxTick")
	}
}

// TestSureWindowsOfFewTicks has pairs that see each other at single ticks.
func TestSureWindowsOfFewTicks(t *testing.T) {
	meet := func(x impl.Sat, angle int) impl.Sky {
		return impl.Sky{Planes: 1, Sats: []impl.Sat{x}, Sites: []impl.Site{site(0, angle, 0)}}
	}
	// One tick of a round.
	checkWindows(t, meet(sat(0, 1), 359), 0, 1, 0, 360, spans(359, 360), 360)
	checkWindows(t, meet(sat(0, 1), 359), 0, 1, 0, 359, nil, 359)
	checkWindows(t, meet(sat(0, 1), 359), 0, 1, 359, 719, spans(359, 360), 360)
	checkWindows(t, meet(sat(0, 1), 359), 0, 1, 360, 719, nil, 359)
	checkWindows(t, meet(sat(0, 1), 359), 0, 1, 0, maxTick, spans(359, 360, 719, 720), 1000)
	checkWindows(t, meet(sat(0, 1), 0), 0, 1, 0, maxTick, spans(0, 1, 360, 361, 720, 721), 1000)
	checkWindows(t, meet(sat(0, 1), 279), 0, 1, 0, maxTick, spans(279, 280, 639, 640, maxTick-1, maxTick), 1000)
	checkWindows(t, meet(sat(0, 1), 280), 0, 1, 0, maxTick, spans(280, 281, 640, 641), 1000)
	// A place whose sum wraps around at the next tick is met at one tick only, and one whose sum has just wrapped around is, too.
	checkWindows(t, meet(sat(math.MaxInt, 60), angleOfMaxInt), 0, 1, 0, maxTick, spans(0, 1), 1000)
	checkWindows(t, meet(sat(math.MaxInt-60*998, 60), 51), 0, 1, 0, maxTick, spans(maxTick-1, maxTick), 1000)
	// The gap is 0, 90, 180, 90 and so on.
	turning := impl.Sky{Planes: 1, Sats: []impl.Sat{sat(0, 60), sat(0, -30)}}
	checkWindows(t, turning, 0, 1, 0, 10, spans(0, 1, 4, 5, 8, 9), 10)
	checkWindows(t, turning, 0, 1, 1, 8, spans(4, 5), 7)
	turning.Reach = 90
	checkWindows(t, turning, 0, 1, 0, 10, spans(0, 2, 3, 6, 7, 10), 10)
	checkWindows(t, turning, 0, 1, 1, 8, spans(1, 2, 3, 6, 7, 8), 7)
}

// TestSureWindowsOfManyRanges has ranges that begin and end on both sides of each limit.
func TestSureWindowsOfManyRanges(t *testing.T) {
	s := sightSky()
	for _, pair := range [][2]int{{0, 1}, {0, 4}, {0, 7}, {1, 2}, {2, 3}, {4, 5}, {3, 3}, {0, 8}} {
		sure := sureTicks(s, pair[0], pair[1])
		for _, from := range rangeEnds() {
			for _, to := range rangeEnds() {
				checkRange(t, s, pair[0], pair[1], sure, from, to)
			}
		}
	}
}

func TestSureWindowsOfManySkies(t *testing.T) {
	random := rand.New(rand.NewSource(8))
	for range 60 {
		s := randomSky(random)
		a, b := random.Intn(impl.NodesOf(s)), random.Intn(impl.NodesOf(s))
		sure := sureTicks(s, a, b)
		checkRange(t, s, a, b, sure, 0, maxTick)
		for range 10 {
			from := random.Intn(maxTick+40) - 20
			checkRange(t, s, a, b, sure, from, from+random.Intn(1+random.Intn(maxTick))-3)
		}
	}
}

// TestSureSightHoldsForAllTruePlaces is promise 8: it holds all true places of both nodes against the limit.
func TestSureSightHoldsForAllTruePlaces(t *testing.T) {
	random := rand.New(rand.NewSource(88))
	gaps := [circle][circle]int{}
	for a := range circle {
		for b := range circle {
			gaps[a][b] = wantGap(a, b)
		}
	}
	met := map[int]int{}
	for range 60 {
		s := randomSky(random)
		checkSky(t, "random", s, true)
		tick := random.Intn(maxTick + 1)
		arcs := wantArcs(s, tick)
		for a := range arcs {
			for b := range arcs {
				limit := wantLimit(s, a, b)
				if limit < 0 {
					continue
				}
				within, beyond := 0, 0
				for x, isX := range anglesIn(arcs[a]) {
					for y, isY := range anglesIn(arcs[b]) {
						if isX && isY && gaps[x][y] <= limit {
							within++
						} else if isX && isY {
							beyond++
						}
					}
				}
				sight := impl.SightAt(s, a, b, tick)
				met[sight]++
				if sight == sureSight && beyond > 0 || sight == noSight && within > 0 {
					t.Errorf("SightAt(%+v, %d, %d, %d) = %d, but %d true places are within the limit, and %d beyond", s, a, b, tick, sight, within, beyond)
				}
				// With a limit of half of the circle no place is beyond it.
				if sight == maySight && (within == 0 || beyond == 0 && limit < 180) {
					t.Errorf("SightAt(%+v, %d, %d, %d) = MaySight, but %d true places are within the limit, and %d beyond", s, a, b, tick, within, beyond)
				}
			}
		}
	}
	if met[noSight] == 0 || met[maySight] == 0 || met[sureSight] == 0 {
		t.Errorf("not all sights are met: %v", met)
	}
}

// TestSureWindowsHoldForTrueSatellites moves each satellite by as much as its error allows: what was sure, the satellites without an error see, and what was out of sight, they do not.
func TestSureWindowsHoldForTrueSatellites(t *testing.T) {
	random := rand.New(rand.NewSource(888))
	for range 30 {
		s := randomSky(random)
		for range 3 {
			truth := s
			truth.Sats = slices.Clone(s.Sats)
			for i, x := range s.Sats {
				by := []int{-x.Error, x.Error, random.Intn(2*x.Error+1) - x.Error}[random.Intn(3)]
				truth.Sats[i].Phase, truth.Sats[i].Error = wantAngle(x.Phase+by), 0
			}
			a, b := random.Intn(impl.NodesOf(s)), random.Intn(impl.NodesOf(s))
			sure, seen := impl.SureWindows(s, a, b, 0, maxTick), impl.SureWindows(truth, a, b, 0, maxTick)
			for tick := range maxTick {
				isSeen := hasTick(seen, tick)
				if hasTick(sure, tick) && !isSeen || impl.SightAt(s, a, b, tick) == noSight && isSeen {
					t.Errorf("sight of %d and %d at %d is %d in %+v, and seen is %t in %+v", a, b, tick, impl.SightAt(s, a, b, tick), s, isSeen, truth)
				}
			}
		}
	}
}

// TestSightChangesNothing has lists that lie in the midst of known memory, and overwrites each result.
func TestSightChangesNothing(t *testing.T) {
	s := sightSky()
	sats, sites := guard(s.Sats, sat(77, 77)), guard(s.Sites, site(77, 77, 77))
	s.Sats, s.Sites = sats.slice, sites.slice
	for _, a := range nodeSamples(8) {
		first := impl.SureNeighbors(s, a, 0)
		kept := slices.Clone(first)
		fill(impl.SureNeighbors(s, a, 0), 99)
		if !slices.Equal(first, kept) {
			t.Errorf("SureNeighbors of %d returns the same memory twice", a)
		}
		for _, b := range nodeSamples(8) {
			windows := impl.SureWindows(s, a, b, 0, 60)
			keptWindows := slices.Clone(windows)
			fill(impl.SureWindows(s, a, b, 0, 60), span(99, 99))
			checkSpans(t, windows, keptWindows, "SureWindows, changed by another result", a, b)
			checkSpans(t, impl.SureWindows(s, a, b, 0, 60), keptWindows, "SureWindows, called again", a, b)
			sure, all := impl.SureShare(s, a, b, 0, 60)
			if again, allAgain := impl.SureShare(s, a, b, 0, 60); again != sure || allAgain != all || impl.SightAt(s, a, b, 2) != impl.SightAt(s, a, b, 2) {
				t.Errorf("a second call for %d and %d returns something else", a, b)
			}
		}
	}
	if sats.changed() || sites.changed() {
		t.Error("a list of a sky is changed")
	}
}

// TestSightIgnoresSpareCapacity has nodes that are in sight behind the end of each list.
func TestSightIgnoresSpareCapacity(t *testing.T) {
	s := sightSky()
	s.Sats, s.Sites = s.Sats[:1], s.Sites[:1]
	checkNeighbors(t, s, 0, 0, 1)
	checkSight(t, s, 0, 1, 0, sureSight)
	checkSight(t, s, 0, 2, 0, noSight)
	checkWindows(t, s, 0, 2, 0, 10, nil, 10)
}
