package tests

import (
	"math"
	"math/rand"
	"slices"
	"testing"

	"loop.example/g00599/impl"
)

// shadowSky has the satellites 0 to 7 and the sites 8 and 9. The sun stands still, so that the shadow is from 130 to 230.
func shadowSky() impl.Sky {
	return impl.Sky{
		Planes: 2,
		Sats: []impl.Sat{
			sat(0, 10),                   // dark in the ticks 13 to 23 of each 36
			sat(180, 0),                  // always dark
			sat(0, 0),                    // always lit
			withError(sat(230, 0), 3),    // neither lit nor in the deepest shadow
			sat(180, 10),                 // dark at the first tick
			sat(270, 10),                 // dark at the last tick
			withError(sat(100, -50), 20), // dark for three ticks at a time, not all in the deepest shadow
			{Plane: 1, Phase: 129, Speed: 1},
		},
		Sites:  []impl.Site{site(0, 180, 0), site(1, 0, 10)},
		Shadow: 50,
	}
}

// shadedSky has one satellite and a sun that stands still: the middle of the shadow is at 180.
func shadedSky(x impl.Sat, shadow int) impl.Sky {
	return impl.Sky{Planes: 1, Sats: []impl.Sat{x}, Shadow: shadow}
}

// errorSamples are valid errors, and ones around a quarter, half and all of the circle.
func errorSamples() []int {
	return append(endsOfInt(), -circle, -20, -1, 0, 1, 2, 19, 20, 21, 45, 89, 90, 91, 178, 179, 180, 181, 182, 269, 270, 271, circle-1, circle, circle+1, 2*circle)
}

// wantShadow walks half of the circle on from the sun, and from the gap one degree more or less for every two of the width.
func wantShadow(s impl.Sky, node int, tick int) int {
	if node < 0 || node >= len(s.Sats) {
		return 0
	}
	x := s.Sats[node]
	places := wantWider(arc(wantPlace(x, tick), 0), x.Error)
	least := wantGap(wantMiddle(places), moved(wantPlace(sat(0, s.Sun), tick), 180))
	greatest := least
	for width := places.Width; width >= 2; width -= 2 {
		least--
		greatest++
	}
	if least > s.Shadow {
		return 0
	}
	if greatest > s.Shadow {
		return 1
	}
	return 2
}

// darkTicks asks for each tick that a span may have.
func darkTicks(s impl.Sky, node int) [1000]bool {
	dark := [1000]bool{}
	for tick := range dark {
		dark[tick] = wantShadow(s, node, tick) > 0
	}
	return dark
}

// darkIn makes the dark ticks of a list of spans.
func darkIn(l []impl.Span) [1000]bool {
	dark := [1000]bool{}
	for tick := range dark {
		dark[tick] = hasTick(l, tick)
	}
	return dark
}

func checkSun(t *testing.T, s impl.Sky, tick int, want int) {
	t.Helper()
	if got := impl.SunAt(s, tick); got != want {
		t.Errorf("SunAt with the Sun %d at %d = %d, want %d", s.Sun, tick, got, want)
	}
}

func checkShadow(t *testing.T, s impl.Sky, node int, tick int, want int) {
	t.Helper()
	if got := impl.ShadowAt(s, node, tick); got != want {
		t.Errorf("ShadowAt(%+v, %d, %d) = %d, want %d", s, node, tick, got, want)
	}
}

// checkLight asks for both lists and the longest dark span. Of all ticks that there are, dark has those that are dark.
func checkLight(t *testing.T, s impl.Sky, node int, dark [1000]bool, from int, to int) {
	t.Helper()
	lit := impl.LitSpans(s, node, from, to)
	checkSpans(t, lit, wantSpans(func(tick int) bool { return inRange(tick, from, to) && !dark[tick] }), "LitSpans", s, node, from, to)
	unlit := impl.DarkSpans(s, node, from, to)
	checkSpans(t, unlit, wantSpans(func(tick int) bool { return inRange(tick, from, to) && dark[tick] }), "DarkSpans", s, node, from, to)
	longest, run := 0, 0
	for tick, isDark := range dark {
		if isDark && inRange(tick, from, to) {
			run++
		} else {
			run = 0
		}
		longest = max(longest, run)
	}
	if got := impl.LongestDark(s, node, from, to); got != longest {
		t.Errorf("LongestDark(%+v, %d, %d, %d) = %d, want %d", s, node, from, to, got, longest)
	}
}

// checkLightIn has literal lists.
func checkLightIn(t *testing.T, s impl.Sky, node int, from int, to int, lit []impl.Span, dark []impl.Span, longest int) {
	t.Helper()
	checkSpans(t, impl.LitSpans(s, node, from, to), lit, "LitSpans", s, node, from, to)
	checkSpans(t, impl.DarkSpans(s, node, from, to), dark, "DarkSpans", s, node, from, to)
	if got := impl.LongestDark(s, node, from, to); got != longest {
		t.Errorf("LongestDark(%+v, %d, %d, %d) = %d, want %d", s, node, from, to, got, longest)
	}
}

// randomShadowSky is a random valid sky, with a sun and a shadow.
func randomShadowSky(random *rand.Rand) impl.Sky {
	s := randomSky(random)
	s.Sun = random.Intn(2*maxSpeed+1) - maxSpeed
	s.Shadow = random.Intn(181)
	if random.Intn(4) == 0 {
		s.Shadow = []int{0, 1, 178, 179, 180}[random.Intn(5)]
	}
	return s
}

func TestSunAt(t *testing.T) {
	cases := []struct{ sun, tick, want int }{
		{0, 0, 0}, {0, 1, 0}, {0, 500, 0}, {0, maxTick, 0}, {0, maxTick + 1, 0}, {0, -1, 0}, {0, math.MaxInt, 0}, {0, math.MinInt, 0},
		{1, 0, 0}, {1, 1, 1}, {1, 359, 359}, {1, 360, 0}, {1, maxTick - 1, 279}, {1, maxTick, 280}, {1, maxTick + 1, 0}, {1, -1, 0}, {1, math.MaxInt, 0}, {1, math.MinInt, 0},
		{-1, 0, 0}, {-1, 1, 359}, {-1, 359, 1}, {-1, 360, 0}, {-1, maxTick - 1, 81}, {-1, maxTick, 80}, {-1, maxTick + 1, 0}, {-1, -1, 0}, {-1, math.MaxInt, 0}, {-1, math.MinInt, 0},
		{10, 7, 70}, {10, 35, 350}, {10, 36, 0}, {10, 37, 10}, {-10, 7, 290}, {-10, 37, 350}, {7, 100, 340}, {-7, 100, 20},
		{59, 1, 59}, {59, maxTick, 320}, {-59, 1, 301}, {-59, maxTick, 40},
		{maxSpeed, 0, 0}, {maxSpeed, 1, 60}, {maxSpeed, 5, 300}, {maxSpeed, 6, 0}, {maxSpeed, maxTick - 1, 180}, {maxSpeed, maxTick, 240}, {maxSpeed, maxTick + 1, 0}, {maxSpeed, -1, 0}, {maxSpeed, math.MaxInt, 0}, {maxSpeed, math.MinInt, 0},
		{-maxSpeed, 0, 0}, {-maxSpeed, 1, 300}, {-maxSpeed, 5, 60}, {-maxSpeed, 6, 0}, {-maxSpeed, maxTick - 1, 180}, {-maxSpeed, maxTick, 120}, {-maxSpeed, maxTick + 1, 0}, {-maxSpeed, -1, 0},
		{maxSpeed + 1, 1, 0}, {maxSpeed + 1, 5, 0}, {maxSpeed + 1, maxTick, 0}, {-maxSpeed - 1, 1, 0}, {-maxSpeed - 1, maxTick, 0}, {circle + 1, 1, 0}, {math.MaxInt, 1, 0}, {math.MaxInt, maxTick, 0}, {math.MinInt, 1, 0}, {math.MinInt, maxTick, 0},
	}
	for _, c := range cases {
		// Nothing but Sun counts.
		s := validSky()
		s.Sun = c.sun
		checkSun(t, s, c.tick, c.want)
		checkSun(t, impl.Sky{Sun: c.sun}, c.tick, c.want)
	}
	for _, sun := range speedSamples() {
		for _, tick := range momentSamples() {
			checkSun(t, impl.Sky{Sun: sun}, tick, wantPlace(sat(0, sun), tick))
		}
	}
}

func TestShadowAt(t *testing.T) {
	s := shadowSky()
	checkSky(t, "of shadows", s, true)
	cases := []struct{ node, tick, want int }{
		{0, 0, 0}, {0, 12, 0}, {0, 13, 2}, {0, 18, 2}, {0, 23, 2}, {0, 24, 0}, {0, 48, 0}, {0, 49, 2}, {0, 59, 2}, {0, 60, 0}, {0, maxTick - 1, 0}, {0, maxTick, 0},
		{1, 0, 2}, {1, 500, 2}, {1, maxTick, 2}, {1, maxTick + 1, 2}, {1, -1, 2}, {2, 0, 0}, {2, 500, 0}, {2, maxTick, 0}, {2, maxTick + 1, 0}, {2, -1, 0},
		{3, 0, 1}, {3, 500, 1}, {3, maxTick, 1}, {3, maxTick + 1, 1}, {3, -1, 1},
		// A tick that does not count is the tick 0.
		{4, 0, 2}, {4, 5, 2}, {4, 6, 0}, {4, 6 - 36, 2}, {4, maxTick, 0}, {4, maxTick + 1, 2}, {4, -1, 2}, {4, -6, 2}, {4, math.MaxInt, 2}, {4, math.MinInt, 2},
		{5, 0, 0}, {5, 993, 0}, {5, 994, 2}, {5, maxTick - 1, 2}, {5, maxTick, 2}, {5, maxTick + 1, 0}, {5, -1, 0}, {5, math.MaxInt, 0}, {5, math.MinInt, 0},
		{6, 0, 0}, {6, 1, 0}, {6, 4, 0}, {6, 5, 2}, {6, 6, 2}, {6, 7, 1}, {6, 8, 0}, {6, 11, 0}, {6, 12, 1}, {6, 13, 2}, {6, 14, 1}, {6, 15, 0},
		{7, 0, 0}, {7, 1, 2}, {7, 101, 2}, {7, 102, 0}, {7, 361, 2}, {7, 461, 2}, {7, 462, 0}, {7, maxTick, 0},
		// The sites 8 and 9 are where the shadow is, too, but are no satellites.
		{8, 0, 0}, {8, 18, 0}, {8, maxTick, 0}, {9, 0, 0}, {9, 13, 0}, {9, 18, 0}, {9, maxTick + 1, 0},
		{10, 0, 0}, {10, 18, 0}, {11, 18, 0}, {-1, 0, 0}, {-1, 18, 0}, {-8, 18, 0}, {1 << 32, 18, 0}, {1<<32 + 1, 18, 0}, {math.MaxInt, 18, 0}, {math.MinInt, 18, 0}, {math.MinInt + 1, 18, 0},
	}
	for _, c := range cases {
		checkShadow(t, s, c.node, c.tick, c.want)
	}
	checkShadow(t, impl.Sky{}, 0, 0, 0)
	checkShadow(t, impl.Sky{Shadow: 180}, 0, 0, 0)
	checkShadow(t, impl.Sky{Shadow: 180}, -1, 0, 0)
	// A site is no satellite also where it is the node 0, in a shadow that is everywhere.
	checkShadow(t, impl.Sky{Planes: 1, Sites: []impl.Site{site(0, 180, 0)}, Shadow: 180}, 0, 0, 0)
	checkShadow(t, impl.Sky{Planes: 1, Sites: []impl.Site{site(0, 180, 0)}, Shadow: math.MaxInt}, 0, 0, 0)
}

// TestShadowAtTheEdge has shadows that end at the least and the greatest gap, and those beside them.
func TestShadowAtTheEdge(t *testing.T) {
	cases := []struct{ phase, error, shadow, want int }{
		// Without an error there is nothing between lit and dark.
		{130, 0, 49, 0}, {130, 0, 50, 2}, {130, 0, 51, 2}, {230, 0, 49, 0}, {230, 0, 50, 2}, {230, 0, 51, 2}, {180, 0, 0, 2}, {180, 0, 1, 2}, {180, 0, -1, 0}, {181, 0, 0, 0}, {179, 0, 0, 0}, {181, 0, 1, 2}, {179, 0, 1, 2}, {182, 0, 1, 0},
		{0, 0, 0, 0}, {0, 0, 178, 0}, {0, 0, 179, 0}, {0, 0, 180, 2}, {0, 0, 181, 2}, {0, 0, circle, 2}, {0, 0, math.MaxInt, 2}, {1, 0, 178, 0}, {1, 0, 179, 2}, {1, 0, 180, 2}, {359, 0, 178, 0}, {359, 0, 179, 2},
		// The gap is 50, give or take 3.
		{130, 3, 45, 0}, {130, 3, 46, 0}, {130, 3, 47, 1}, {130, 3, 48, 1}, {130, 3, 50, 1}, {130, 3, 51, 1}, {130, 3, 52, 1}, {130, 3, 53, 2}, {130, 3, 54, 2}, {230, 3, 46, 0}, {230, 3, 47, 1}, {230, 3, 52, 1}, {230, 3, 53, 2}, {130, 3, 0, 0}, {130, 3, -1, 0}, {130, 3, math.MinInt, 0}, {130, 3, math.MaxInt, 2},
		// No gap is less than 0, but what is left of one after the error may be, and Shadow may be as little.
		{180, 3, 4, 2}, {180, 3, 3, 2}, {180, 3, 2, 1}, {180, 3, 0, 1}, {180, 3, -1, 1}, {180, 3, -2, 1}, {180, 3, -3, 1}, {180, 3, -4, 0}, {180, 3, math.MinInt, 0}, {182, 3, -1, 1}, {182, 3, -2, 0}, {183, 3, 0, 1}, {183, 3, -1, 0}, {184, 3, 0, 0}, {184, 3, 1, 1}, {184, 3, 6, 1}, {184, 3, 7, 2},
		// The shadow is as wide as the circle, and the greatest gap with the error is greater still.
		{0, 1, 178, 0}, {0, 1, 179, 1}, {0, 1, 180, 1}, {0, 1, 181, 2}, {1, 1, 179, 1}, {1, 1, 180, 2}, {1, 1, 178, 1}, {1, 1, 177, 0}, {0, 20, 159, 0}, {0, 20, 160, 1}, {0, 20, 179, 1}, {0, 20, 180, 1}, {0, 20, 181, 1}, {0, 20, 199, 1}, {0, 20, 200, 2}, {0, 20, math.MaxInt, 2}, {20, 20, 180, 2}, {19, 20, 180, 1}, {340, 20, 180, 2}, {341, 20, 180, 1},
		{0, 21, 158, 0}, {0, 21, 159, 1}, {0, 21, 200, 1}, {0, 21, 201, 2}, {180, 90, -91, 0}, {180, 90, -90, 1}, {180, 90, 89, 1}, {180, 90, 90, 2}, {0, 90, 89, 0}, {0, 90, 90, 1}, {0, 90, 180, 1}, {0, 90, 269, 1}, {0, 90, 270, 2}, {180, 179, 178, 1}, {180, 179, 179, 2}, {180, 179, -179, 1}, {180, 179, -180, 0}, {0, 179, 0, 0}, {0, 179, 1, 1}, {0, 179, 358, 1}, {0, 179, 359, 2},
		// From 180 on, the Width is odd, and the middle is not the place: it is a degree before it for 180, and so on.
		{181, 180, 179, 2}, {181, 180, 178, 1}, {181, 180, 0, 1}, {181, 180, -1, 1}, {181, 180, -179, 1}, {181, 180, -180, 0}, {180, 180, 179, 1}, {180, 180, 180, 2}, {1, 180, 0, 0}, {1, 180, 1, 1}, {1, 180, 180, 1}, {1, 180, 358, 1}, {1, 180, 359, 2}, {182, 181, 178, 1}, {182, 181, 179, 2}, {1, circle, 178, 1}, {1, circle, 179, 2}, {181, circle, 0, 0}, {181, circle, 1, 1},
		// No arc is widened by what is below 0 or beyond the circle.
		{130, circle + 1, 49, 0}, {130, circle + 1, 50, 2}, {130, -1, 49, 0}, {130, -1, 50, 2}, {130, math.MaxInt, 49, 0}, {130, math.MaxInt, 50, 2}, {130, math.MinInt, 49, 0}, {130, math.MinInt, 50, 2},
		{math.MaxInt, 0, 172, 0}, {math.MaxInt, 0, 173, 2}, {math.MinInt, 0, 171, 0}, {math.MinInt, 0, 172, 2}, {-230, 3, 46, 0}, {-230, 3, 47, 1}, {490, 3, 52, 1}, {490, 3, 53, 2},
	}
	for _, c := range cases {
		s := shadedSky(withError(sat(c.phase, 0), c.error), c.shadow)
		for _, tick := range []int{0, 7, maxTick, maxTick + 1, -1} {
			checkShadow(t, s, 0, tick, c.want)
		}
	}
}

// TestShadowAtByTheRule has with each error the shadows around the least and the greatest gap.
func TestShadowAtByTheRule(t *testing.T) {
	met := map[int]int{}
	for _, phase := range []int{0, 1, 20, 89, 90, 130, 179, 180, 181, 230, 270, 359, 360, -10, math.MaxInt, math.MinInt} {
		for _, degrees := range errorSamples() {
			x := withError(sat(phase, 7), degrees)
			for _, tick := range []int{0, 33, maxTick, -1} {
				places := wantWider(arc(wantPlace(x, tick), 0), degrees)
				gap, half := wantGap(wantMiddle(places), 180), places.Width/2
				shadows := append(endsOfInt(), -2, -1, 0, 1, 90, 178, 179, 180, 181, 359, 360)
				for by := -1; by <= 1; by++ {
					shadows = append(shadows, gap-half+by, gap+half+by)
				}
				for _, shadow := range shadows {
					want := 0
					if shadow >= gap-half {
						want = 1
					}
					if shadow >= gap+half {
						want = 2
					}
					met[want]++
					checkShadow(t, shadedSky(x, shadow), 0, tick, want)
				}
			}
		}
	}
	if met[0] == 0 || met[1] == 0 || met[2] == 0 {
		t.Errorf("not all shadows are met: %v", met)
	}
}

// TestShadowUnderAMovingSun has suns that move along with the satellite, and against it.
func TestShadowUnderAMovingSun(t *testing.T) {
	cases := []struct {
		x                 impl.Sat
		sun, shadow, tick int
		want              int
	}{
		{sat(180, 10), 10, 0, 0, 2}, {sat(180, 10), 10, 0, 7, 2}, {sat(180, 10), 10, 0, maxTick, 2}, {sat(180, 10), 10, 0, maxTick + 1, 2}, {sat(180, 10), 10, 0, -1, 2}, {sat(181, 10), 10, 0, 7, 0}, {sat(0, 10), 10, 179, 7, 0}, {sat(0, 10), 10, 180, 7, 2}, {sat(180, -60), -60, 0, 999, 2}, {withError(sat(130, 60), 3), 60, 50, 5, 1}, {withError(sat(133, -7), 3), -7, 50, 5, 2}, {withError(sat(126, -7), 3), -7, 50, 5, 0},
		// Against it, the gap grows by 20 each tick.
		{sat(180, 10), -10, 50, 0, 2}, {sat(180, 10), -10, 50, 2, 2}, {sat(180, 10), -10, 50, 3, 0}, {sat(180, 10), -10, 50, 15, 0}, {sat(180, 10), -10, 50, 16, 2}, {sat(180, 10), -10, 50, 18, 2}, {sat(180, 10), -10, 50, 20, 2}, {sat(180, 10), -10, 50, 21, 0}, {sat(180, -10), 10, 50, 2, 2}, {sat(180, -10), 10, 50, 3, 0}, {sat(180, 10), -10, 50, maxTick, 0}, {sat(180, 10), -10, 50, maxTick + 1, 2}, {sat(180, 10), -10, 50, -3, 2}, {withError(sat(180, 10), 15), -10, 50, 2, 1}, {withError(sat(180, 10), 15), -10, 50, 1, 2}, {withError(sat(180, 10), 15), -10, 50, 3, 1}, {withError(sat(180, 10), 15), -10, 50, 4, 0},
		{sat(180, 60), -60, 0, 3, 2}, {sat(180, 60), -60, 0, 1, 0}, {sat(180, 60), -60, 119, 1, 0}, {sat(180, 60), -60, 120, 1, 2},
		// The satellite stands still, and the sun goes round.
		{sat(180, 0), 5, 50, 10, 2}, {sat(180, 0), 5, 50, 11, 0}, {sat(180, 0), 5, 50, 61, 0}, {sat(180, 0), 5, 50, 62, 2}, {sat(180, 0), -5, 50, 10, 2}, {sat(180, 0), -5, 50, 11, 0}, {sat(0, 0), 5, 50, 0, 0}, {sat(0, 0), 5, 50, 25, 0}, {sat(0, 0), 5, 50, 26, 2}, {sat(0, 0), 60, 0, 3, 2}, {sat(60, 0), 60, 0, 4, 2}, {sat(300, 0), -60, 0, maxTick, 2}, {sat(60, 0), 60, 0, maxTick, 2}, {sat(60, 0), 60, 0, maxTick + 1, 0},
		// A sun that is too fast stands still.
		{sat(180, 0), 61, 0, 1, 2}, {sat(180, 0), -61, 0, 1, 2}, {sat(180, 0), math.MaxInt, 0, 999, 2}, {sat(180, 0), math.MinInt, 0, 999, 2}, {sat(180, 61), 61, 0, 1, 2}, {sat(180, 60), 61, 0, 1, 0}, {sat(180, 61), 60, 0, 1, 0},
	}
	for _, c := range cases {
		s := shadedSky(c.x, c.shadow)
		s.Sun = c.sun
		checkShadow(t, s, 0, c.tick, c.want)
	}
	for _, speed := range speedSamples() {
		for _, sun := range speedSamples() {
			s := shadedSky(withError(sat(200, speed), 4), 60)
			s.Sun = sun
			for _, tick := range momentSamples() {
				checkShadow(t, s, 0, tick, wantShadow(s, 0, tick))
			}
		}
	}
}

// TestShadowOfAllNodes has every node of each sky, and others, at ticks that count and at others.
func TestShadowOfAllNodes(t *testing.T) {
	wrapping := shadowSky()
	wrapping.Sats[0].Phase, wrapping.Sats[1].Phase, wrapping.Sats[2].Speed = math.MaxInt, math.MinInt, math.MinInt
	wrapping.Sats[3].Error, wrapping.Sats[4].Plane, wrapping.Sun = 300, -5, 60
	negative := shadowSky()
	negative.Shadow, negative.Sun = -5, -17
	wide := shadowSky()
	wide.Shadow = 180
	for _, s := range []impl.Sky{shadowSky(), validSky(), wrapping, negative, wide, skyOf(4, nil, []int{0, 0}), {}} {
		for _, node := range nodeSamples(impl.NodesOf(s)) {
			for _, tick := range momentSamples() {
				checkShadow(t, s, node, tick, wantShadow(s, node, tick))
			}
		}
	}
}

func TestLitAndDarkSpans(t *testing.T) {
	s := shadowSky()
	all := spans(0, maxTick)
	cases := []struct {
		node, from, to int
		lit, dark      []impl.Span
		longest        int
	}{
		// Spans that begin before, at and after the first tick of the range, and end at, before and after the last one.
		{0, 0, 30, spans(0, 13, 24, 30), spans(13, 24), 11}, {0, 0, 13, spans(0, 13), nil, 0}, {0, 0, 14, spans(0, 13), spans(13, 14), 1}, {0, 12, 24, spans(12, 13), spans(13, 24), 11}, {0, 13, 24, nil, spans(13, 24), 11}, {0, 13, 25, spans(24, 25), spans(13, 24), 11}, {0, 14, 23, nil, spans(14, 23), 9}, {0, 12, 25, spans(12, 13, 24, 25), spans(13, 24), 11}, {0, 24, 49, spans(24, 49), nil, 0}, {0, 23, 50, spans(24, 49), spans(23, 24, 49, 50), 1}, {0, 23, 49, spans(24, 49), spans(23, 24), 1}, {0, 24, 50, spans(24, 49), spans(49, 50), 1},
		{0, 18, 19, nil, spans(18, 19), 1}, {0, 18, 18, nil, nil, 0}, {0, 18, 17, nil, nil, 0}, {0, 17, 18, nil, spans(17, 18), 1}, {0, 24, 25, spans(24, 25), nil, 0}, {0, 30, 10, nil, nil, 0},
		{0, -5, 14, spans(0, 13), spans(13, 14), 1}, {0, -5, 0, nil, nil, 0}, {0, -5, 1, spans(0, 1), nil, 0}, {0, -5, -3, nil, nil, 0}, {0, 5, -3, nil, nil, 0}, {0, 0, 0, nil, nil, 0}, {0, -1, -1, nil, nil, 0}, {0, -1, 0, nil, nil, 0}, {0, 0, 1, spans(0, 1), nil, 0}, {0, 0, -1, nil, nil, 0},
		// The satellite 4 is dark in the first ticks, and the satellite 5 in the last ones.
		{4, 0, 40, spans(6, 31), spans(0, 6, 31, 40), 9}, {4, -1, 6, nil, spans(0, 6), 6}, {4, 0, 1, nil, spans(0, 1), 1}, {4, -1, 1, nil, spans(0, 1), 1}, {4, -1, 0, nil, nil, 0}, {4, 0, 7, spans(6, 7), spans(0, 6), 6}, {4, 1, 6, nil, spans(1, 6), 5}, {4, math.MinInt, 7, spans(6, 7), spans(0, 6), 6}, {4, 0, 0, nil, nil, 0},
		{5, 990, maxTick, spans(990, 994), spans(994, maxTick), 6}, {5, 990, maxTick + 1, spans(990, 994), spans(994, maxTick), 6}, {5, 990, maxTick - 1, spans(990, 994), spans(994, maxTick-1), 5}, {5, maxTick - 1, maxTick, nil, spans(maxTick-1, maxTick), 1}, {5, maxTick - 1, maxTick + 1, nil, spans(maxTick-1, maxTick), 1}, {5, maxTick - 1, maxTick - 1, nil, nil, 0}, {5, maxTick, maxTick + 1, nil, nil, 0}, {5, maxTick, maxTick, nil, nil, 0}, {5, maxTick + 1, maxTick + 2, nil, nil, 0}, {5, maxTick, maxTick - 1, nil, nil, 0}, {5, 990, math.MaxInt, spans(990, 994), spans(994, maxTick), 6},
		// Always dark, always lit, and neither lit nor in the deepest shadow.
		{1, 0, maxTick, nil, all, 1000}, {1, math.MinInt, math.MaxInt, nil, all, 1000}, {1, -1, maxTick + 1, nil, all, 1000}, {1, 1, maxTick - 1, nil, spans(1, maxTick-1), 998}, {1, 5, 5, nil, nil, 0}, {1, 5, 6, nil, spans(5, 6), 1}, {1, 6, 5, nil, nil, 0}, {1, maxTick - 1, math.MaxInt, nil, spans(maxTick-1, maxTick), 1}, {1, math.MinInt, 1, nil, spans(0, 1), 1},
		{2, 0, maxTick, all, nil, 0}, {2, math.MinInt, math.MaxInt, all, nil, 0}, {2, -1, maxTick + 1, all, nil, 0}, {2, 1, maxTick - 1, spans(1, maxTick-1), nil, 0}, {2, 5, 5, nil, nil, 0}, {2, 5, 6, spans(5, 6), nil, 0}, {2, 6, 5, nil, nil, 0}, {2, maxTick - 1, math.MaxInt, spans(maxTick-1, maxTick), nil, 0}, {2, math.MinInt, 1, spans(0, 1), nil, 0},
		{3, 0, maxTick, nil, all, 1000}, {3, math.MinInt, math.MaxInt, nil, all, 1000}, {3, 5, 8, nil, spans(5, 8), 3}, {3, 5, 5, nil, nil, 0}, {3, 5, 4, nil, nil, 0},
		{0, math.MaxInt, math.MaxInt, nil, nil, 0}, {1, math.MaxInt - 1, math.MaxInt, nil, nil, 0}, {1, maxTick, math.MaxInt, nil, nil, 0}, {2, maxTick, math.MaxInt, nil, nil, 0}, {1, math.MaxInt, 5, nil, nil, 0}, {1, 5, math.MinInt + 1, nil, nil, 0}, {1, math.MinInt, math.MinInt + 1, nil, nil, 0}, {2, math.MinInt, math.MinInt + 1, nil, nil, 0}, {2, math.MaxInt, math.MinInt + 1, nil, nil, 0}, {1, math.MinInt, 0, nil, nil, 0},
		// One less than math.MinInt is math.MaxInt.
		{1, 0, math.MinInt, nil, all, 1000}, {2, math.MinInt, math.MinInt, all, nil, 0}, {5, 990, math.MinInt, spans(990, 994), spans(994, maxTick), 6}, {1, maxTick, math.MinInt, nil, nil, 0}, {2, math.MaxInt, math.MinInt, nil, nil, 0},
		// A tick that may be dark is dark, beside one that surely is and alone.
		{6, 0, 16, spans(0, 5, 8, 12, 15, 16), spans(5, 8, 12, 15), 3}, {6, 7, 12, spans(8, 12), spans(7, 8), 1}, {6, 6, 13, spans(8, 12), spans(6, 8, 12, 13), 2}, {6, 12, 13, nil, spans(12, 13), 1}, {6, 14, 15, nil, spans(14, 15), 1},
		{7, 0, maxTick, spans(0, 1, 102, 361, 462, 721, 822, maxTick), spans(1, 102, 361, 462, 721, 822), 101},
		// Sites and nodes that do not exist are always lit.
		{8, 0, maxTick, all, nil, 0}, {9, 0, maxTick, all, nil, 0}, {9, 10, 20, spans(10, 20), nil, 0}, {10, 0, maxTick, all, nil, 0}, {10, 5, 5, nil, nil, 0}, {-1, 0, maxTick, all, nil, 0}, {-1, -5, 5, spans(0, 5), nil, 0}, {math.MaxInt, 0, 5, spans(0, 5), nil, 0}, {math.MinInt, math.MinInt, math.MaxInt, all, nil, 0}, {math.MinInt, 9, 5, nil, nil, 0}, {1<<32 + 1, 0, 5, spans(0, 5), nil, 0},
	}
	for _, c := range cases {
		checkLightIn(t, s, c.node, c.from, c.to, c.lit, c.dark, c.longest)
	}
	checkLightIn(t, impl.Sky{}, 0, 0, maxTick, all, nil, 0)
	checkLightIn(t, impl.Sky{Shadow: 180}, 0, 0, maxTick, all, nil, 0)
	dark := []impl.Span{}
	for tick := 13; tick < maxTick; tick += 36 {
		dark = append(dark, span(tick, tick+11))
	}
	checkLight(t, s, 0, darkIn(dark), 0, maxTick)
	checkLight(t, s, 0, darkIn(dark), math.MinInt, math.MaxInt)
	// The tick MaxTick is in no span, though it counts in ShadowAt.
	checkShadow(t, s, 5, maxTick, 2)
}

func TestLongestDark(t *testing.T) {
	s := shadowSky()
	cases := []struct {
		from, to, want int
		dark           []impl.Span
	}{
		// The first one is the longest, one between, the last one, and none more than another.
		{13, 55, 11, spans(13, 24, 49, 55)}, {0, 90, 11, spans(13, 24, 49, 60, 85, 90)}, {15, 58, 9, spans(15, 24, 49, 58)}, {14, 58, 10, spans(14, 24, 49, 58)}, {13, 50, 11, spans(13, 24, 49, 50)},
		{20, 90, 11, spans(20, 24, 49, 60, 85, 90)}, {23, 86, 11, spans(23, 24, 49, 60, 85, 86)},
		{20, 60, 11, spans(20, 24, 49, 60)}, {20, 55, 6, spans(20, 24, 49, 55)}, {16, 58, 9, spans(16, 24, 49, 58)}, {23, 51, 2, spans(23, 24, 49, 51)}, {20, 61, 11, spans(20, 24, 49, 60)},
		{13, 60, 11, spans(13, 24, 49, 60)}, {20, 53, 4, spans(20, 24, 49, 53)}, {23, 50, 1, spans(23, 24, 49, 50)},
		{20, 24, 4, spans(20, 24)}, {24, 49, 0, nil}, {0, 13, 0, nil}, {20, 20, 0, nil}, {24, 13, 0, nil},
	}
	for _, c := range cases {
		checkSpans(t, impl.DarkSpans(s, 0, c.from, c.to), c.dark, "DarkSpans", c.from, c.to)
		if got := impl.LongestDark(s, 0, c.from, c.to); got != c.want {
			t.Errorf("LongestDark from %d to %d = %d, want %d", c.from, c.to, got, c.want)
		}
	}
	// A round takes 13 ticks and a third, and so the spans are not all as long.
	uneven := shadedSky(sat(0, 27), 60)
	checkLightIn(t, uneven, 0, 0, 45, spans(0, 5, 9, 18, 23, 32, 36, 45), spans(5, 9, 18, 23, 32, 36), 5)
	checkLightIn(t, uneven, 0, 0, 18, spans(0, 5, 9, 18), spans(5, 9), 4)
	checkLightIn(t, uneven, 0, 18, 45, spans(23, 32, 36, 45), spans(18, 23, 32, 36), 5)
}

// TestShadowsAsWideAsTheCircle has shadows of which no place is out, and ones that leave out one place only.
func TestShadowsAsWideAsTheCircle(t *testing.T) {
	all := spans(0, maxTick)
	for _, degrees := range errorSamples() {
		for _, shadow := range []int{180, 181, 200, 359, 360, math.MaxInt} {
			for _, speed := range []int{0, 1, 7, -60} {
				s := shadedSky(withError(sat(0, speed), degrees), shadow)
				s.Sun = 3
				checkLightIn(t, s, 0, 0, maxTick, nil, all, 1000)
			}
		}
	}
	// It is lit only where it stands before the sun, without an error.
	checkLightIn(t, shadedSky(sat(0, 10), 179), 0, 0, 73, spans(0, 1, 36, 37, 72, 73), spans(1, 36, 37, 72), 35)
	checkLightIn(t, shadedSky(sat(0, 10), 180), 0, 0, 73, nil, spans(0, 73), 73)
	checkLightIn(t, shadedSky(withError(sat(0, 10), 1), 179), 0, 0, 73, nil, spans(0, 73), 73)
	checkLightIn(t, shadedSky(withError(sat(0, 10), 1), 178), 0, 0, 73, spans(0, 1, 36, 37, 72, 73), spans(1, 36, 37, 72), 35)
	// It is dark only where it stands behind, and with an error also beside.
	checkLightIn(t, shadedSky(sat(180, 10), 0), 0, 0, 73, spans(1, 36, 37, 72), spans(0, 1, 36, 37, 72, 73), 1)
	checkLightIn(t, shadedSky(withError(sat(180, 10), 10), 0), 0, 0, 73, spans(2, 35, 38, 71), spans(0, 2, 35, 38, 71, 73), 3)
	checkLightIn(t, shadedSky(sat(180, 10), -1), 0, 0, 73, spans(0, 73), nil, 0)
	checkLightIn(t, shadedSky(withError(sat(180, 10), 10), -1), 0, 0, 73, spans(1, 36, 37, 72), spans(0, 1, 36, 37, 72, 73), 1)
	checkLightIn(t, shadedSky(withError(sat(180, 10), 10), -11), 0, 0, 73, spans(0, 73), nil, 0)
}

// TestLightUnderAMovingSun has a sun that the satellite never leaves or meets, and one that it meets more often.
func TestLightUnderAMovingSun(t *testing.T) {
	s := shadowSky()
	s.Sun = 10
	checkLightIn(t, s, 0, 0, maxTick, spans(0, maxTick), nil, 0)
	checkLightIn(t, s, 4, 0, maxTick, nil, spans(0, maxTick), 1000)
	checkLightIn(t, s, 1, 0, 40, spans(6, 31), spans(0, 6, 31, 40), 9)
	s.Sun = -10
	checkLightIn(t, s, 0, 0, 30, spans(0, 7, 12, 25), spans(7, 12, 25, 30), 5)
	checkLightIn(t, s, 4, 0, 30, spans(3, 16, 21, 30), spans(0, 3, 16, 21), 5)
	checkLightIn(t, s, 2, 0, 40, spans(0, 13, 24, 40), spans(13, 24), 11)
	s.Sun = -maxSpeed
	checkLightIn(t, s, 1, 0, 12, spans(1, 6, 7, 12), spans(0, 1, 6, 7), 1)
	s.Sun = -maxSpeed - 1
	checkLightIn(t, s, 1, 0, 12, nil, spans(0, 12), 12)
}

// TestLightOfManyRanges has ranges that begin and end on both sides of each limit.
func TestLightOfManyRanges(t *testing.T) {
	s := shadowSky()
	ends := append(rangeEnds(), 5, 12, 13, 14, 23, 24, 25, 49, 993, 994, 995)
	for _, node := range []int{0, 1, 2, 3, 4, 5, 8, 10, -1} {
		dark := darkTicks(s, node)
		for _, from := range ends {
			for _, to := range ends {
				checkLight(t, s, node, dark, from, to)
			}
		}
	}
}

func TestLightOfManySkies(t *testing.T) {
	random := rand.New(rand.NewSource(9))
	for range 150 {
		s := randomShadowSky(random)
		checkSky(t, "random", s, true)
		node := random.Intn(impl.NodesOf(s) + 1)
		dark := darkTicks(s, node)
		checkLight(t, s, node, dark, 0, maxTick)
		for range 10 {
			from := random.Intn(maxTick+40) - 20
			checkLight(t, s, node, dark, from, from+random.Intn(1+random.Intn(maxTick))-3)
		}
	}
}

// TestEveryTickIsLitOrDark is promise 9: each tick of the range is in one of both lists, and in one only.
func TestEveryTickIsLitOrDark(t *testing.T) {
	random := rand.New(rand.NewSource(99))
	lits, darks := 0, 0
	for range 300 {
		s := randomShadowSky(random)
		node := random.Intn(impl.NodesOf(s))
		from, to := random.Intn(maxTick+40)-20, random.Intn(maxTick+40)-20
		lit, dark := impl.LitSpans(s, node, from, to), impl.DarkSpans(s, node, from, to)
		for tick := -30; tick < maxTick+30; tick++ {
			isLit, isDark := hasTick(lit, tick), hasTick(dark, tick)
			isOne := 0 <= tick && tick < maxTick && from <= tick && tick < to
			if isOne != (isLit || isDark) || isLit && isDark {
				t.Errorf("the tick %d of the range from %d to %d is lit: %t, and dark: %t, for the node %d of %+v", tick, from, to, isLit, isDark, node, s)
			}
			if isOne && isLit != (impl.ShadowAt(s, node, tick) == 0) {
				t.Errorf("the tick %d is lit: %t, but ShadowAt(%+v, %d) is %d", tick, isLit, s, node, impl.ShadowAt(s, node, tick))
			}
			if isLit {
				lits++
			}
			if isDark {
				darks++
			}
		}
		longest := 0
		for _, x := range dark {
			longest = max(longest, x.To-x.From)
		}
		if got := impl.LongestDark(s, node, from, to); got != longest {
			t.Errorf("LongestDark(%+v, %d, %d, %d) = %d, but the dark spans are %v", s, node, from, to, got, dark)
		}
	}
	if lits == 0 || darks == 0 {
		t.Errorf("%d ticks are lit and %d dark", lits, darks)
	}
}

// TestShadowHoldsForAllTruePlaces holds all true places of a satellite against the shadow.
func TestShadowHoldsForAllTruePlaces(t *testing.T) {
	random := rand.New(rand.NewSource(999))
	met := map[int]int{}
	for range 300 {
		s := randomShadowSky(random)
		tick := random.Intn(maxTick + 1)
		middle := moved(wantPlace(sat(0, s.Sun), tick), 180)
		for node, x := range s.Sats {
			inside, outside := 0, 0
			for place, isOne := range anglesIn(wantWider(arc(wantPlace(x, tick), 0), x.Error)) {
				if isOne && wantGap(place, middle) <= s.Shadow {
					inside++
				} else if isOne {
					outside++
				}
			}
			shadow := impl.ShadowAt(s, node, tick)
			met[shadow]++
			if shadow == 0 && inside > 0 || shadow == 2 && outside > 0 {
				t.Errorf("ShadowAt(%+v, %d, %d) = %d, but %d true places are in the shadow, and %d out of it", s, node, tick, shadow, inside, outside)
			}
			// Out of a shadow that is as wide as the circle there is no place.
			if shadow == 1 && (inside == 0 || outside == 0 && s.Shadow < 180) {
				t.Errorf("ShadowAt(%+v, %d, %d) = 1, but %d true places are in the shadow, and %d out of it", s, node, tick, inside, outside)
			}
		}
	}
	if met[0] == 0 || met[1] == 0 || met[2] == 0 {
		t.Errorf("not all shadows are met: %v", met)
	}
}

// TestShadowChangesNothing has lists that lie in the midst of known memory, and overwrites each result.
func TestShadowChangesNothing(t *testing.T) {
	s := shadowSky()
	sats, sites := guard(s.Sats, sat(77, 77)), guard(s.Sites, site(77, 77, 77))
	s.Sats, s.Sites = sats.slice, sites.slice
	for _, node := range nodeSamples(10) {
		for _, list := range []func(s impl.Sky, node int, from int, to int) []impl.Span{impl.LitSpans, impl.DarkSpans} {
			first := list(s, node, 0, 60)
			kept := slices.Clone(first)
			fill(list(s, node, 0, 60), span(99, 99))
			checkSpans(t, first, kept, "a list, changed by another result,", node)
			checkSpans(t, list(s, node, 0, 60), kept, "a list, called again,", node)
		}
		if impl.ShadowAt(s, node, 13) != impl.ShadowAt(s, node, 13) || impl.LongestDark(s, node, 0, 60) != impl.LongestDark(s, node, 0, 60) {
			t.Errorf("a second call for %d returns something else", node)
		}
	}
	if sats.changed() || sites.changed() {
		t.Error("a list of a sky is changed")
	}
}

// TestShadowIgnoresSpareCapacity has satellites in the shadow behind the end of the list.
func TestShadowIgnoresSpareCapacity(t *testing.T) {
	s := shadowSky()
	s.Sats = s.Sats[:1]
	checkShadow(t, s, 0, 13, 2)
	checkShadow(t, s, 1, 13, 0)
	checkShadow(t, s, 3, 13, 0)
	checkLightIn(t, s, 3, 0, 10, spans(0, 10), nil, 0)
}
