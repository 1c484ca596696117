package tests

import (
	"math"
	"math/rand"
	"slices"
	"testing"

	"loop.example/g00599/impl"
)

// silenceSky has the satellites 0 to 6 and the sites 7 and 8. The planes 0 and 1 have zones, of which one begins at the last degree.
func silenceSky() impl.Sky {
	return impl.Sky{
		Planes: 3,
		Sats: []impl.Sat{
			sat(0, 10),                        // in the zones of its plane in the ticks 3, 4 and 20 of each 36
			withError(sat(100, -10), 3),       // in the ticks 6, 7 and 26 of each 36
			{Plane: 1, Phase: 355, Speed: 1},  // in the ticks 4, 5 and 6 of each 360
			{Plane: 1},                        // in all ticks
			{Plane: 2, Phase: 30, Speed: 10},  // in none: its plane has no zone
			{Plane: 1, Phase: 359, Speed: 10}, // in the first tick of each 36
			{Plane: 1, Phase: 90, Speed: 10},  // in the last tick, and in every 36th one before
		},
		Sites: []impl.Site{site(0, 30, 0), site(1, 0, 0)},
		Reach: 180,
		Cross: 180,
		View:  60,
		Zones: []impl.Zone{zone(0, arc(25, 20)), zone(1, arc(359, 2)), zone(0, arc(200, 0))},
	}
}

// zonedSky has one satellite, of the plane 0, and one zone of each arc in this plane.
func zonedSky(x impl.Sat, arcs ...impl.Arc) impl.Sky {
	s := impl.Sky{Planes: 1, Sats: []impl.Sat{x}}
	for _, zoned := range arcs {
		s.Zones = append(s.Zones, zone(0, zoned))
	}
	return s
}

// anywhere is an arc with all angles.
func anywhere() impl.Arc {
	return arc(0, circle-1)
}

// wantDisturb lists all true places of the satellite, and all places of each zone.
func wantDisturb(s impl.Sky, node int, tick int) bool {
	if node < 0 || node >= len(s.Sats) {
		return false
	}
	x := s.Sats[node]
	places := anglesIn(wantWider(arc(wantPlace(x, tick), 0), x.Error))
	for _, z := range s.Zones {
		if z.Plane != x.Plane {
			continue
		}
		for place, isQuiet := range anglesIn(z.Arc) {
			if isQuiet && places[place] {
				return true
			}
		}
	}
	return false
}

// quietTicks asks for each tick that a span may have.
func quietTicks(s impl.Sky, node int) [1000]bool {
	quiet := [1000]bool{}
	for tick := range quiet {
		quiet[tick] = wantDisturb(s, node, tick)
	}
	return quiet
}

func checkDisturb(t *testing.T, s impl.Sky, node int, tick int, want bool) {
	t.Helper()
	if got := impl.MayDisturb(s, node, tick); got != want {
		t.Errorf("MayDisturb(%+v, %d, %d) = %t, want %t", s, node, tick, got, want)
	}
}

func checkQuietSky(t *testing.T, s impl.Sky, tick int, want bool) {
	t.Helper()
	if got := impl.IsQuietSky(s, tick); got != want {
		t.Errorf("IsQuietSky(%+v, %d) = %t, want %t", s, tick, got, want)
	}
}

// checkQuiet has a literal list.
func checkQuiet(t *testing.T, s impl.Sky, node int, from int, to int, want []impl.Span) {
	t.Helper()
	checkSpans(t, impl.QuietSpans(s, node, from, to), want, "QuietSpans", s, node, from, to)
}

// checkQuietRange goes by the quiet ticks of a node (quietTicks).
func checkQuietRange(t *testing.T, s impl.Sky, node int, quiet [1000]bool, from int, to int) {
	t.Helper()
	checkQuiet(t, s, node, from, to, wantSpans(func(tick int) bool { return inRange(tick, from, to) && quiet[tick] }))
}

// checkSpeaking has a literal list, and asks in both directions.
func checkSpeaking(t *testing.T, s impl.Sky, a int, b int, from int, to int, want []impl.Span) {
	t.Helper()
	checkSpans(t, impl.SpeakingSpans(s, a, b, from, to), want, "SpeakingSpans", s, a, b, from, to)
	checkSpans(t, impl.SpeakingSpans(s, b, a, from, to), want, "SpeakingSpans", s, b, a, from, to)
}

// speakingTicks asks for each tick whether sight is sure and both are out of all zones.
func speakingTicks(s impl.Sky, a int, b int) [1000]bool {
	speaking := sureTicks(s, a, b)
	for tick, isSure := range speaking {
		speaking[tick] = isSure && !wantDisturb(s, a, tick) && !wantDisturb(s, b, tick)
	}
	return speaking
}

// checkSpeakingRange goes by the speaking ticks of a pair (speakingTicks).
func checkSpeakingRange(t *testing.T, s impl.Sky, a int, b int, speaking [1000]bool, from int, to int) {
	t.Helper()
	checkSpeaking(t, s, a, b, from, to, wantSpans(func(tick int) bool { return inRange(tick, from, to) && speaking[tick] }))
}

// randomZonedSky is a random valid sky with zones, narrow ones for the most part.
func randomZonedSky(random *rand.Rand) impl.Sky {
	s := randomSky(random)
	for range random.Intn(impl.MaxZones + 1) {
		width := random.Intn(1 + random.Intn(1+random.Intn(circle)))
		s.Zones = append(s.Zones, zone(random.Intn(s.Planes), arc(random.Intn(circle), width)))
	}
	if random.Intn(3) == 0 {
		s.Zones = append(s.Zones[:min(len(s.Zones), impl.MaxZones-1)], zone(random.Intn(s.Planes), arc(circle-1, random.Intn(30))))
	}
	return s
}

func TestMayDisturb(t *testing.T) {
	s := silenceSky()
	checkSky(t, "of silence", s, true)
	cases := []struct {
		node, tick int
		want       bool
	}{
		{0, 0, false}, {0, 2, false}, {0, 3, true}, {0, 4, true}, {0, 5, false}, {0, 19, false}, {0, 20, true}, {0, 21, false}, {0, 39, true}, {0, 40, true}, {0, 41, false}, {0, 56, true},
		{1, 0, false}, {1, 5, false}, {1, 6, true}, {1, 7, true}, {1, 8, false}, {1, 25, false}, {1, 26, true}, {1, 27, false},
		{2, 0, false}, {2, 3, false}, {2, 4, true}, {2, 5, true}, {2, 6, true}, {2, 7, false}, {2, 363, false}, {2, 364, true}, {2, 366, true}, {2, 367, false},
		{3, 0, true}, {3, 500, true}, {3, maxTick - 1, true}, {3, maxTick, true}, {3, maxTick + 1, true}, {3, -1, true}, {3, math.MaxInt, true}, {3, math.MinInt, true},
		{4, 0, false}, {4, 17, false}, {4, 33, false}, {4, maxTick, false},
		// A tick that does not count is the tick 0.
		{5, 0, true}, {5, 1, false}, {5, 35, false}, {5, 36, true}, {5, 37, false}, {5, maxTick - 1, false}, {5, maxTick, false}, {5, maxTick + 1, true}, {5, maxTick + 8, true}, {5, -1, true}, {5, -35, true}, {5, math.MaxInt, true}, {5, math.MaxInt - 1, true}, {5, math.MinInt, true}, {5, math.MinInt + 1, true},
		{6, 0, false}, {6, 26, false}, {6, 27, true}, {6, 28, false}, {6, 963, true}, {6, maxTick - 2, false}, {6, maxTick - 1, true}, {6, maxTick, false}, {6, maxTick + 1, false}, {6, maxTick + 35, false}, {6, -9, false}, {6, -1, false}, {6, math.MaxInt, false}, {6, math.MinInt, false},
		// The sites 7 and 8 stand in zones of their planes.
		{7, 0, false}, {7, 3, false}, {7, maxTick, false}, {8, 0, false}, {8, 36, false}, {8, maxTick + 1, false}, {8, -1, false},
		{9, 0, false}, {10, 0, false}, {-1, 0, false}, {-1, 3, false}, {-4, 0, false}, {1 << 32, 3, false}, {1<<32 + 3, 0, false}, {math.MaxInt, 0, false}, {math.MinInt, 0, false}, {math.MinInt + 3, 0, false},
	}
	for _, c := range cases {
		checkDisturb(t, s, c.node, c.tick, c.want)
	}
	// The tick MaxTick counts.
	atTheEnd := zonedSky(sat(0, 7), arc(160, 0))
	checkDisturb(t, atTheEnd, 0, maxTick-1, false)
	checkDisturb(t, atTheEnd, 0, maxTick, true)
	checkDisturb(t, atTheEnd, 0, maxTick+1, false)
	checkDisturb(t, impl.Sky{}, 0, 0, false)
	checkDisturb(t, impl.Sky{Planes: 1, Zones: []impl.Zone{zone(0, anywhere())}}, 0, 0, false)
}

// TestMayDisturbAtTheEndsOfZones has the angles at both ends of zones and beside them, and some between.
func TestMayDisturbAtTheEndsOfZones(t *testing.T) {
	samples := []int{0, 1, 90, 179, 180, 181, 358, 359}
	cases := []struct {
		x       impl.Arc
		in, out []int
	}{
		// Zones that begin at the last degree.
		{arc(359, 0), []int{359}, []int{357, 358, 0, 1, 180}}, {arc(359, 1), []int{359, 0}, []int{358, 1, 180}}, {arc(359, 2), []int{359, 0, 1}, []int{358, 2, 180}}, {arc(359, 5), []int{359, 0, 3, 4}, []int{357, 358, 5, 6}}, {arc(359, 180), []int{359, 0, 90, 179}, []int{358, 180, 270}},
		{arc(359, 357), []int{359, 0, 1, 180, 356}, []int{357, 358}}, {arc(359, 358), []int{359, 0, 1, 180, 357}, []int{358}}, {arc(359, 359), samples, nil}, {arc(359, 360), samples, nil}, {arc(359, -1), nil, samples},
		// Zones that begin at 0, and ones that end at the last degree.
		{arc(0, 0), []int{0}, []int{358, 359, 1, 2, 180}}, {arc(0, 1), []int{0, 1}, []int{359, 2}}, {arc(0, 10), []int{0, 5, 10}, []int{359, 11, 350}}, {arc(0, 357), []int{0, 180, 357}, []int{358, 359}}, {arc(0, 358), []int{0, 180, 358}, []int{359}}, {arc(0, 359), samples, nil}, {arc(0, 360), samples, nil}, {arc(0, -1), nil, samples},
		{arc(350, 9), []int{350, 355, 359}, []int{349, 0, 1}}, {arc(358, 1), []int{358, 359}, []int{357, 0}}, {arc(1, 358), []int{1, 2, 180, 359}, []int{0}}, {arc(180, 179), []int{180, 181, 359}, []int{179, 0}},
		// Zones that go round over 0.
		{arc(350, 10), []int{350, 359, 0}, []int{349, 1}}, {arc(350, 20), []int{350, 359, 0, 9, 10}, []int{348, 349, 11, 12, 180}}, {arc(358, 2), []int{358, 359, 0}, []int{357, 1}}, {arc(200, 300), []int{200, 359, 0, 140}, []int{199, 141, 170}},
		{arc(5, 0), []int{5}, []int{4, 6, 185}}, {arc(25, 20), []int{25, 26, 35, 44, 45}, []int{23, 24, 46, 47}}, {arc(180, 0), []int{180}, []int{179, 181, 0}},
		// All angles but one, all angles and none.
		{arc(5, 358), []int{5, 0, 359, 3}, []int{4}}, {arc(180, 358), []int{180, 181, 0, 178}, []int{179}}, {arc(5, 359), samples, nil}, {arc(5, 360), samples, nil}, {arc(5, 361), samples, nil}, {arc(5, 720), samples, nil}, {arc(5, math.MaxInt), samples, nil}, {arc(5, math.MaxInt-1), samples, nil},
		{arc(5, -1), nil, append(samples, 4, 5, 6)}, {arc(5, -2), nil, append(samples, 3, 4, 5)}, {arc(5, -359), nil, append(samples, 4, 5, 6)}, {arc(5, -360), nil, append(samples, 5)}, {arc(5, math.MinInt), nil, append(samples, 5)}, {arc(5, math.MinInt+1), nil, append(samples, 5)},
		// The angle of a Start counts.
		{arc(-1, 0), []int{359}, []int{358, 0}}, {arc(-1, 1), []int{359, 0}, []int{358, 1}}, {arc(-10, 20), []int{350, 0, 10}, []int{349, 11}}, {arc(-360, 1), []int{0, 1}, []int{359, 2}}, {arc(-361, 1), []int{359, 0}, []int{358, 1}}, {arc(360, 0), []int{0}, []int{359, 1}}, {arc(360, 1), []int{0, 1}, []int{359, 2}}, {arc(361, 0), []int{1}, []int{0, 2}}, {arc(719, 1), []int{359, 0}, []int{358, 1}},
		{arc(math.MaxInt, 0), []int{7}, []int{6, 8}}, {arc(math.MaxInt, 1), []int{7, 8}, []int{6, 9}}, {arc(math.MaxInt, 352), []int{7, 359}, []int{6, 0}}, {arc(math.MaxInt, 353), []int{7, 359, 0}, []int{6, 1}}, {arc(math.MinInt, 0), []int{352}, []int{351, 353}}, {arc(math.MinInt, 8), []int{352, 359, 0}, []int{351, 1}}, {arc(math.MaxInt, math.MaxInt), samples, nil}, {arc(math.MinInt, math.MaxInt), samples, nil}, {arc(math.MinInt, math.MinInt), nil, samples}, {arc(math.MaxInt, math.MinInt), nil, samples},
	}
	for _, c := range cases {
		for _, place := range c.in {
			checkAtPlace(t, c.x, place, true)
		}
		for _, place := range c.out {
			checkAtPlace(t, c.x, place, false)
		}
	}
}

// checkAtPlace has satellites without an error that are at the place in some tick, moving in both directions and standing still.
func checkAtPlace(t *testing.T, x impl.Arc, place int, want bool) {
	t.Helper()
	for _, speed := range []int{0, 1, -1, 10, -10, maxSpeed, -maxSpeed} {
		for _, tick := range []int{0, 1, 7, maxTick - 1, maxTick} {
			checkDisturb(t, zonedSky(sat(moved(place, -speed*tick%circle), speed), x), 0, tick, want)
		}
	}
}

// TestMayDisturbOnTheWay follows satellites degree by degree into zones and out of them.
func TestMayDisturbOnTheWay(t *testing.T) {
	cases := []struct {
		x    impl.Sat
		arc  impl.Arc
		want []impl.Span
	}{
		{sat(350, 1), arc(359, 0), spans(9, 10)}, {sat(350, 1), arc(359, 3), spans(9, 13)}, {sat(10, -1), arc(359, 3), spans(8, 12)}, {sat(10, -1), arc(359, 0), spans(11, 12)}, {sat(358, 1), arc(359, 3), spans(1, 5)}, {sat(3, -1), arc(359, 3), spans(1, 5)},
		{sat(350, 1), arc(0, 3), spans(10, 14)}, {sat(10, -1), arc(0, 3), spans(7, 11)}, {sat(350, 1), arc(357, 2), spans(7, 10)}, {sat(10, -1), arc(357, 2), spans(11, 14)},
		{withError(sat(350, 1), 2), arc(359, 0), spans(7, 12)}, {withError(sat(350, 1), 2), arc(359, 3), spans(7, 15)}, {withError(sat(10, -1), 2), arc(359, 3), spans(6, 14)}, {withError(sat(350, 1), 20), arc(10, 10), spans(0, 40)},
		{sat(350, 3), arc(359, 3), spans(3, 5)}, {sat(350, 7), arc(359, 3), nil}, {sat(350, 7), arc(359, 5), spans(2, 3)}, {withError(sat(350, 7), 1), arc(359, 3), nil}, {withError(sat(350, 7), 2), arc(359, 3), spans(1, 3)},
		{sat(0, 0), arc(359, 1), spans(0, 40)}, {sat(1, 0), arc(359, 1), nil}, {withError(sat(1, 0), 1), arc(359, 1), spans(0, 40)}, {withError(sat(357, 0), 1), arc(359, 1), nil}, {withError(sat(357, 0), 2), arc(359, 1), spans(0, 40)},
		// All angles but one.
		{sat(350, 1), arc(0, 358), spans(0, 9, 10, 40)}, {sat(10, -1), arc(0, 358), spans(0, 11, 12, 40)}, {sat(350, 1), arc(359, 358), spans(0, 8, 9, 40)}, {withError(sat(350, 1), 1), arc(0, 358), spans(0, 40)},
		// A satellite that is too fast stands still.
		{sat(0, 61), arc(359, 1), spans(0, 40)}, {sat(2, -61), arc(359, 1), nil}, {sat(0, math.MinInt), arc(359, 1), spans(0, 40)}, {sat(math.MaxInt, math.MaxInt), arc(7, 0), spans(0, 40)},
	}
	for _, c := range cases {
		s := zonedSky(c.x, c.arc)
		checkQuiet(t, s, 0, 0, 40, c.want)
		for tick := range 40 {
			checkDisturb(t, s, 0, tick, hasTick(c.want, tick))
			checkQuietSky(t, s, tick, !hasTick(c.want, tick))
		}
	}
}

// TestMayDisturbWithErrors has satellites of whose places only the edge is in the zone, or just not.
func TestMayDisturbWithErrors(t *testing.T) {
	cases := []struct {
		x            impl.Arc
		error, place int
		want         bool
	}{
		{arc(359, 0), 0, 359, true}, {arc(359, 0), 0, 358, false}, {arc(359, 0), 0, 0, false}, {arc(359, 0), 1, 358, true}, {arc(359, 0), 1, 357, false}, {arc(359, 0), 1, 0, true}, {arc(359, 0), 1, 1, false},
		{arc(359, 0), 20, 339, true}, {arc(359, 0), 20, 338, false}, {arc(359, 0), 20, 19, true}, {arc(359, 0), 20, 20, false}, {arc(359, 10), 20, 339, true}, {arc(359, 10), 20, 338, false}, {arc(359, 10), 20, 29, true}, {arc(359, 10), 20, 30, false},
		{arc(0, 10), 3, 357, true}, {arc(0, 10), 3, 356, false}, {arc(0, 10), 3, 13, true}, {arc(0, 10), 3, 14, false}, {arc(350, 9), 3, 347, true}, {arc(350, 9), 3, 346, false}, {arc(350, 9), 3, 2, true}, {arc(350, 9), 3, 3, false}, {arc(350, 20), 5, 345, true}, {arc(350, 20), 5, 344, false}, {arc(350, 20), 5, 15, true}, {arc(350, 20), 5, 16, false}, {arc(350, 20), 5, 0, true},
		// The zone is within the places, without an end of them.
		{arc(100, 2), 20, 101, true}, {arc(100, 0), 20, 110, true}, {arc(359, 1), 20, 0, true}, {arc(359, 1), 90, 80, true},
		// A quarter, half and all of the circle.
		{arc(0, 0), 90, 90, true}, {arc(0, 0), 90, 91, false}, {arc(0, 0), 90, 270, true}, {arc(0, 0), 90, 269, false}, {arc(0, 0), 90, 180, false}, {arc(359, 0), 90, 89, true}, {arc(359, 0), 90, 90, false}, {arc(359, 0), 90, 269, true}, {arc(359, 0), 90, 268, false},
		{arc(180, 0), 178, 0, false}, {arc(180, 0), 178, 1, false}, {arc(180, 0), 178, 359, false}, {arc(180, 0), 178, 2, true}, {arc(180, 0), 178, 358, true}, {arc(180, 0), 179, 0, false}, {arc(180, 0), 179, 1, true}, {arc(180, 0), 179, 359, true}, {arc(180, 1), 179, 0, true}, {arc(180, 1), 179, 1, true}, {arc(359, 0), 179, 179, false}, {arc(359, 0), 179, 178, true}, {arc(359, 0), 179, 180, true}, {arc(359, 1), 179, 179, true},
		{arc(180, 0), 180, 0, true}, {arc(180, 0), 180, 1, true}, {arc(180, 0), 180, 180, true}, {arc(359, 0), 180, 179, true}, {arc(180, 0), 181, 0, true}, {arc(180, 0), 359, 0, true}, {arc(180, 0), 360, 0, true}, {arc(359, 0), 360, 5, true},
		// No arc is widened by what is below 0 or beyond the circle.
		{arc(180, 0), 361, 180, true}, {arc(180, 0), 361, 181, false}, {arc(180, 0), 361, 0, false}, {arc(180, 0), math.MaxInt, 180, true}, {arc(180, 0), math.MaxInt, 179, false}, {arc(180, 0), -1, 180, true}, {arc(180, 0), -1, 181, false}, {arc(180, 0), -20, 181, false}, {arc(180, 0), math.MinInt, 180, true}, {arc(180, 0), math.MinInt, 0, false},
		// Nothing has an angle in common with no angle, and everything with all.
		{arc(180, -1), 20, 180, false}, {arc(180, -1), 180, 0, false}, {arc(180, -1), 360, 180, false}, {arc(180, math.MinInt), 360, 180, false}, {arc(180, 359), 0, 179, true}, {arc(180, 359), 20, 0, true}, {arc(180, 360), 0, 0, true}, {arc(180, 360), 179, 0, true}, {arc(180, math.MaxInt), 0, 0, true}, {arc(180, math.MaxInt), 360, 0, true},
		// All angles but one: only satellites without an error fit in.
		{arc(0, 358), 0, 359, false}, {arc(0, 358), 1, 359, true}, {arc(359, 358), 0, 358, false}, {arc(359, 358), 1, 358, true}, {arc(0, 357), 1, 359, true}, {arc(0, 356), 1, 358, false}, {arc(0, 356), 1, 357, true}, {arc(0, 356), 1, 359, true},
	}
	for _, c := range cases {
		for _, speed := range []int{0, 10, -10} {
			for _, tick := range []int{0, 7, maxTick} {
				x := withError(sat(moved(c.place, -speed*tick%circle), speed), c.error)
				checkDisturb(t, zonedSky(x, c.x), 0, tick, c.want)
			}
		}
	}
}

// TestMayDisturbByTheRule has with each error and zone the places around both ends.
func TestMayDisturbByTheRule(t *testing.T) {
	met := map[bool]int{}
	for _, x := range append(arcSamples(), arc(circle-1, 0), arc(circle-1, 30), arc(circle-1, circle-2)) {
		for _, degrees := range errorSamples() {
			for _, at := range []int{x.Start, x.Start + x.Width} {
				for _, by := range []int{-181, -180, -179, -91, -21, -20, -19, -2, -1, 0, 1, 2, 19, 20, 21, 91, 179, 180, 181} {
					s := zonedSky(withError(sat(wantAngle(at)+by, 7), degrees), x)
					want := wantDisturb(s, 0, 0)
					met[want]++
					checkDisturb(t, s, 0, 0, want)
				}
			}
		}
	}
	if met[true] == 0 || met[false] == 0 {
		t.Errorf("not both answers are met: %v", met)
	}
}

// TestZonesOfPlanes has satellites and zones of all planes that a sky may have, and of others.
func TestZonesOfPlanes(t *testing.T) {
	samples := append(planeSamples(), -5, -4, -3, 6, 7, 8, 9, 1<<32, 1<<32+1, -1<<32, math.MaxInt-3, math.MaxInt-4, math.MinInt+3, math.MinInt+4)
	for _, planes := range []int{0, 1, 3, 4, 5, -1, math.MaxInt, math.MinInt} {
		for _, p := range samples {
			for _, q := range samples {
				s := impl.Sky{Planes: planes, Sats: []impl.Sat{{Plane: p}}, Sites: []impl.Site{{Plane: p}}, Zones: []impl.Zone{zone(q, anywhere())}}
				checkDisturb(t, s, 0, 5, p == q)
				checkQuietSky(t, s, 5, p != q)
				for _, node := range []int{-1, 1, 2, math.MaxInt, math.MinInt} {
					checkDisturb(t, s, node, 5, false)
				}
				want := []impl.Span{}
				if p == q {
					want = spans(5, 10)
				}
				checkQuiet(t, s, 0, 5, 10, want)
				checkQuiet(t, s, 1, 5, 10, nil)
				checkQuiet(t, s, -1, 5, 10, nil)
			}
		}
	}
}

// TestSeveralZones has the zone that counts in all places of a list, among zones of the same plane and of others.
func TestSeveralZones(t *testing.T) {
	hit := zone(0, arc(359, 2))
	others := []impl.Zone{zone(0, arc(2, 10)), zone(0, arc(5, -1)), zone(1, anywhere()), zone(-1, anywhere()), zone(4, anywhere()), zone(-4, anywhere()), zone(math.MaxInt, anywhere()), zone(math.MinInt, anywhere()), zone(0, arc(358, 0)), zone(1, arc(0, 0))}
	s := impl.Sky{Planes: 2, Sats: []impl.Sat{sat(0, 0)}}
	checkDisturb(t, s, 0, 0, false)
	s.Zones = []impl.Zone{}
	checkDisturb(t, s, 0, 0, false)
	s.Zones = others
	checkDisturb(t, s, 0, 0, false)
	checkQuietSky(t, s, 0, true)
	checkQuiet(t, s, 0, 0, maxTick, nil)
	for at := range len(others) + 1 {
		s.Zones = slices.Insert(slices.Clone(others), at, hit)
		checkDisturb(t, s, 0, 0, true)
		checkQuietSky(t, s, 0, false)
		checkQuiet(t, s, 0, 0, maxTick, spans(0, maxTick))
	}
	// Zones that are apart, touch, overlap and are equal.
	checkQuiet(t, zonedSky(sat(0, 1), arc(5, 3), arc(20, 0)), 0, 0, 40, spans(5, 9, 20, 21))
	checkQuiet(t, zonedSky(sat(0, 1), arc(20, 0), arc(5, 3)), 0, 0, 40, spans(5, 9, 20, 21))
	checkQuiet(t, zonedSky(sat(0, 1), arc(5, 3), arc(9, 3)), 0, 0, 40, spans(5, 13))
	checkQuiet(t, zonedSky(sat(0, 1), arc(5, 3), arc(10, 3)), 0, 0, 40, spans(5, 9, 10, 14))
	checkQuiet(t, zonedSky(sat(0, 1), arc(5, 9), arc(8, 2)), 0, 0, 40, spans(5, 15))
	checkQuiet(t, zonedSky(sat(0, 1), arc(5, 3), arc(5, 3)), 0, 0, 40, spans(5, 9))
	checkQuiet(t, zonedSky(sat(0, -1), arc(359, 1), arc(350, 5), arc(340, 0), arc(330, 2)), 0, 0, 40, spans(0, 2, 5, 11, 20, 21, 28, 31))
}

// TestManyZonesAndSats has skies with more of both than a valid sky has.
func TestManyZonesAndSats(t *testing.T) {
	s := impl.Sky{Planes: 1, Sats: manySats(1000)}
	for i := range 1000 {
		s.Zones = append(s.Zones, zone(i%7-3, arc(300, i%50)))
	}
	// The satellite n is at the angle n in the tick 0, and the zones of the plane 0 are from 300 to 349.
	for node := range 1000 {
		place := node % circle
		checkDisturb(t, s, node, 0, place >= 300 && place <= 349)
	}
	checkQuietSky(t, s, 0, false)
	checkQuiet(t, s, 0, 290, 360, spans(300, 350))
	checkQuiet(t, s, 999, 0, maxTick, spans(21, 71, 381, 431, 741, 791))
	checkSpeaking(t, s, 0, 999, 0, 10, nil)
	s.Reach = 180
	checkSpeaking(t, s, 0, 999, 0, 400, spans(0, 21, 71, 300, 350, 381))
	s.Zones = append(manyZones(999), zone(0, arc(355, 0)))
	s.Sats = slices.Repeat([]impl.Sat{sat(20, 1)}, 999)
	checkQuietSky(t, s, 0, true)
	s.Sats = append(s.Sats, sat(355, 0))
	checkDisturb(t, s, 999, 0, true)
	checkQuietSky(t, s, 0, false)
}

func TestQuietSpans(t *testing.T) {
	s := silenceSky()
	all := spans(0, maxTick)
	cases := []struct {
		node, from, to int
		want           []impl.Span
	}{
		// Spans that begin before, at and after the first tick of the range, and end at, before and after the last one.
		{0, 0, 45, spans(3, 5, 20, 21, 39, 41)}, {0, 3, 5, spans(3, 5)}, {0, 2, 6, spans(3, 5)}, {0, 4, 5, spans(4, 5)}, {0, 3, 4, spans(3, 4)}, {0, 4, 21, spans(4, 5, 20, 21)}, {0, 4, 20, spans(4, 5)}, {0, 5, 20, nil}, {0, 20, 21, spans(20, 21)}, {0, 20, 40, spans(20, 21, 39, 40)}, {0, 0, 3, nil}, {0, 0, 4, spans(3, 4)}, {0, 3, 3, nil}, {0, 3, 2, nil}, {0, 4, 3, nil}, {0, 30, 3, nil},
		{0, -5, 4, spans(3, 4)}, {0, -5, 0, nil}, {0, -5, -1, nil}, {0, 3, -1, nil}, {0, 990, maxTick, spans(992, 993)}, {0, 970, math.MaxInt, spans(975, 977, 992, 993)},
		{1, 0, 45, spans(6, 8, 26, 27, 42, 44)}, {2, 0, 400, spans(4, 7, 364, 367)}, {2, 0, maxTick, spans(4, 7, 364, 367, 724, 727)}, {2, 5, 366, spans(5, 7, 364, 366)},
		// The satellite 5 may disturb in the first tick, and the satellite 6 in the last one.
		{5, 0, 40, spans(0, 1, 36, 37)}, {5, -1, 40, spans(0, 1, 36, 37)}, {5, 0, 1, spans(0, 1)}, {5, -1, 1, spans(0, 1)}, {5, -1, 0, nil}, {5, 0, 0, nil}, {5, 0, -1, nil}, {5, -1, -1, nil}, {5, 1, 36, nil}, {5, math.MinInt, 1, spans(0, 1)}, {5, math.MinInt, 0, nil}, {5, -36, 1, spans(0, 1)},
		{6, 990, maxTick, spans(maxTick-1, maxTick)}, {6, 990, maxTick + 1, spans(maxTick-1, maxTick)}, {6, 990, maxTick - 1, nil}, {6, maxTick - 1, maxTick, spans(maxTick-1, maxTick)}, {6, maxTick - 1, maxTick + 1, spans(maxTick-1, maxTick)}, {6, maxTick - 1, maxTick - 1, nil}, {6, maxTick - 1, maxTick - 2, nil}, {6, maxTick, maxTick + 1, nil}, {6, maxTick, maxTick, nil}, {6, maxTick, maxTick - 1, nil}, {6, maxTick + 1, maxTick + 100, nil}, {6, 990, math.MaxInt, spans(maxTick-1, maxTick)}, {6, maxTick - 1, math.MaxInt, spans(maxTick-1, maxTick)},
		// In all ticks.
		{3, 0, maxTick, all}, {3, -1, maxTick + 1, all}, {3, math.MinInt, math.MaxInt, all}, {3, 1, maxTick - 1, spans(1, maxTick-1)}, {3, 5, 5, nil}, {3, 5, 6, spans(5, 6)}, {3, 6, 5, nil}, {3, 0, 0, nil}, {3, 0, 1, spans(0, 1)}, {3, -1, 1, spans(0, 1)}, {3, -1, 0, nil}, {3, maxTick - 1, maxTick, spans(maxTick-1, maxTick)}, {3, maxTick - 1, maxTick + 1, spans(maxTick-1, maxTick)}, {3, maxTick, maxTick + 1, nil}, {3, maxTick, math.MaxInt, nil},
		{3, math.MaxInt, math.MaxInt, nil}, {3, math.MaxInt - 1, math.MaxInt, nil}, {3, math.MaxInt, 5, nil}, {3, 5, math.MinInt + 1, nil}, {3, math.MinInt, math.MinInt + 1, nil}, {3, math.MaxInt, math.MinInt + 1, nil}, {3, math.MinInt + 1, 2, spans(0, 2)},
		// One less than math.MinInt is math.MaxInt.
		{3, 0, math.MinInt, all}, {3, math.MinInt, math.MinInt, all}, {3, 990, math.MinInt, spans(990, maxTick)}, {3, maxTick, math.MinInt, nil}, {3, math.MaxInt, math.MinInt, nil}, {6, 990, math.MinInt, spans(maxTick-1, maxTick)}, {4, 0, math.MinInt, nil},
		// A plane without a zone, sites in zones, and nodes that do not exist.
		{4, 0, maxTick, nil}, {4, math.MinInt, math.MaxInt, nil}, {7, 0, maxTick, nil}, {8, 0, maxTick, nil}, {8, math.MinInt, math.MaxInt, nil}, {9, 0, maxTick, nil}, {10, 0, maxTick, nil}, {-1, 0, maxTick, nil}, {math.MaxInt, 0, maxTick, nil}, {math.MinInt, math.MinInt, math.MaxInt, nil}, {1<<32 + 3, 0, maxTick, nil},
	}
	for _, c := range cases {
		checkQuiet(t, s, c.node, c.from, c.to, c.want)
	}
	checkQuiet(t, impl.Sky{}, 0, 0, maxTick, nil)
	checkQuiet(t, impl.Sky{Zones: []impl.Zone{zone(0, anywhere()), zone(-1, anywhere())}}, 0, 0, maxTick, nil)
	checkQuiet(t, impl.Sky{Zones: []impl.Zone{zone(0, anywhere()), zone(-1, anywhere())}}, -1, 0, maxTick, nil)
	// The tick MaxTick is in no span, though it counts in MayDisturb.
	checkQuiet(t, zonedSky(sat(0, 7), arc(160, 0)), 0, 900, maxTick+5, nil)
}

func TestQuietSpansOfManyRanges(t *testing.T) {
	s := silenceSky()
	ends := append(rangeEnds(), 3, 4, 5, 20, 21, 36, 37, 364, 367, 992, 993)
	for node := -1; node <= 9; node++ {
		quiet := quietTicks(s, node)
		for _, from := range ends {
			for _, to := range ends {
				checkQuietRange(t, s, node, quiet, from, to)
			}
		}
	}
}

func TestQuietSpansOfManySkies(t *testing.T) {
	random := rand.New(rand.NewSource(10))
	for range 120 {
		s := randomZonedSky(random)
		checkSky(t, "random", s, true)
		node := random.Intn(impl.NodesOf(s) + 1)
		quiet := quietTicks(s, node)
		checkQuietRange(t, s, node, quiet, 0, maxTick)
		for range 10 {
			from := random.Intn(maxTick+40) - 20
			checkQuietRange(t, s, node, quiet, from, from+random.Intn(1+random.Intn(maxTick))-3)
		}
		for _, tick := range momentSamples() {
			checkDisturb(t, s, node, tick, wantDisturb(s, node, tick))
		}
	}
}

func TestSpeakingSpans(t *testing.T) {
	s := silenceSky()
	all := spans(0, maxTick)
	cases := []struct {
		a, b, from, to int
		want           []impl.Span
	}{
		// One of both may disturb. The site 7 sees the satellite 0 in the ticks 0 to 9 and 33 to 45.
		{0, 7, 0, 50, spans(0, 3, 5, 10, 33, 39, 41, 46)}, {0, 7, 3, 5, nil}, {0, 7, 3, 6, spans(5, 6)}, {0, 7, 2, 5, spans(2, 3)}, {0, 7, 4, 10, spans(5, 10)}, {0, 7, 10, 33, nil}, {0, 7, 9, 34, spans(9, 10, 33, 34)}, {0, 7, 5, 5, nil}, {0, 7, 5, 4, nil}, {0, 7, 5, 6, spans(5, 6)}, {0, 7, 6, 5, nil}, {0, 7, 0, 0, nil}, {0, 7, -1, 1, spans(0, 1)}, {0, 7, -1, 0, nil}, {0, 7, math.MinInt, 10, spans(0, 3, 5, 10)},
		{0, 4, 0, 45, spans(0, 3, 5, 20, 21, 39, 41, 45)}, {2, 4, 0, 45, spans(0, 4, 7, 45)}, {2, 4, 0, maxTick, spans(0, 4, 7, 364, 367, 724, 727, maxTick)}, {5, 4, 0, 40, spans(1, 36, 37, 40)},
		{6, 4, 980, maxTick, spans(980, maxTick-1)}, {6, 4, 980, maxTick + 1, spans(980, maxTick-1)}, {6, 4, 980, math.MaxInt, spans(980, maxTick-1)}, {6, 4, maxTick - 1, maxTick, nil}, {6, 4, maxTick - 2, maxTick, spans(maxTick-2, maxTick-1)}, {6, 4, 990, math.MinInt, spans(990, maxTick-1)},
		{5, 4, -1, 1, nil}, {5, 4, -1, 2, spans(1, 2)}, {5, 4, math.MinInt, 3, spans(1, 3)},
		// Both of them, at other ticks. The satellites 0 and 1 do not surely see each other in the ticks 14 and 32.
		{0, 1, 0, 45, spans(0, 3, 5, 6, 8, 14, 15, 20, 21, 26, 27, 32, 33, 39, 41, 42, 44, 45)}, {0, 1, 3, 8, spans(5, 6)}, {0, 1, 4, 7, spans(5, 6)}, {0, 1, 6, 8, nil}, {2, 5, 0, 45, spans(1, 4, 7, 36, 37, 45)}, {5, 6, 0, 45, spans(1, 27, 28, 36, 37, 45)}, {5, 6, 970, math.MaxInt, spans(970, 972, 973, maxTick-1)},
		// One of both always may.
		{2, 3, 0, maxTick, nil}, {3, 4, 0, maxTick, nil}, {3, 8, 0, maxTick, nil}, {3, 6, 500, 510, nil}, {3, 4, 0, math.MinInt, nil},
		// Two sites, a node and itself, and nodes that do not exist.
		{7, 8, 0, maxTick, nil}, {7, 7, 0, maxTick, nil}, {0, 0, 0, maxTick, nil}, {4, 4, 0, maxTick, nil}, {3, 3, 0, maxTick, nil}, {0, 9, 0, maxTick, nil}, {4, 9, 0, maxTick, nil}, {4, -1, 0, maxTick, nil}, {-1, -1, 0, maxTick, nil}, {9, 10, 0, maxTick, nil}, {7, 9, 0, maxTick, nil}, {4, math.MaxInt, 0, maxTick, nil}, {4, math.MinInt, 0, maxTick, nil}, {math.MinInt, math.MaxInt, math.MinInt, math.MaxInt, nil}, {4, 1 << 32, 0, maxTick, nil},
		// The ends of the ticks, where nothing is in the way.
		{0, 4, math.MaxInt, math.MaxInt, nil}, {0, 4, maxTick, maxTick + 1, nil}, {0, 4, maxTick - 1, maxTick, spans(maxTick-1, maxTick)}, {0, 4, maxTick - 1, maxTick + 1, spans(maxTick-1, maxTick)}, {0, 4, maxTick - 1, maxTick - 1, nil}, {0, 4, maxTick, maxTick - 1, nil}, {0, 4, math.MinInt, math.MinInt + 1, nil}, {0, 4, 5, math.MinInt + 1, nil}, {0, 4, 993, math.MinInt, spans(993, maxTick)}, {0, 4, maxTick, math.MinInt, nil},
	}
	for _, c := range cases {
		checkSpeaking(t, s, c.a, c.b, c.from, c.to, c.want)
	}
	// Without zones, SpeakingSpans are the windows.
	s.Zones = nil
	checkSpeaking(t, s, 0, 7, 0, 50, spans(0, 10, 33, 46))
	checkSpeaking(t, s, 0, 4, math.MinInt, math.MaxInt, all)
	checkSpeaking(t, s, 0, 1, 0, 40, spans(0, 14, 15, 32, 33, 40))
	checkSpeaking(t, impl.Sky{}, 0, 1, 0, maxTick, nil)
}

// TestSpeakingSpansOfTwo has two satellites that always see each other, and zones in which neither, one or both may be.
func TestSpeakingSpansOfTwo(t *testing.T) {
	cases := []struct {
		x, y impl.Sat
		arcs []impl.Arc
		want []impl.Span
	}{
		{sat(0, 1), sat(10, 1), nil, spans(0, 40)}, {sat(0, 1), sat(10, 1), []impl.Arc{arc(180, 20)}, spans(0, 40)}, {sat(0, 1), sat(10, 1), []impl.Arc{arc(5, -1)}, spans(0, 40)},
		// The first, the second, and both at the same ticks.
		{sat(0, 1), sat(180, 0), []impl.Arc{arc(5, 2)}, spans(0, 5, 8, 40)}, {sat(180, 0), sat(0, 1), []impl.Arc{arc(5, 2)}, spans(0, 5, 8, 40)}, {sat(0, 1), sat(0, 1), []impl.Arc{arc(5, 2)}, spans(0, 5, 8, 40)}, {sat(0, 1), sat(12, -1), []impl.Arc{arc(5, 2)}, spans(0, 5, 8, 40)},
		// Both, at ticks that are apart, touch and overlap.
		{sat(0, 1), sat(350, 1), []impl.Arc{arc(5, 2)}, spans(0, 5, 8, 15, 18, 40)}, {sat(350, 1), sat(0, 1), []impl.Arc{arc(5, 2)}, spans(0, 5, 8, 15, 18, 40)}, {sat(0, 1), sat(357, 1), []impl.Arc{arc(5, 2)}, spans(0, 5, 11, 40)}, {sat(0, 1), sat(358, 1), []impl.Arc{arc(5, 2)}, spans(0, 5, 10, 40)}, {sat(0, 1), sat(356, 1), []impl.Arc{arc(5, 2)}, spans(0, 5, 8, 9, 12, 40)},
		// From the first tick on, up to the last one, and all the time.
		{sat(0, 1), sat(180, 0), []impl.Arc{arc(359, 2)}, spans(2, 40)}, {sat(180, 0), sat(0, 1), []impl.Arc{arc(359, 2)}, spans(2, 40)}, {sat(0, 1), sat(180, 0), []impl.Arc{arc(39, 2)}, spans(0, 39)}, {sat(180, 0), sat(0, 1), []impl.Arc{arc(35, 9)}, spans(0, 35)}, {sat(0, 1), sat(180, 0), []impl.Arc{arc(359, 0)}, spans(0, 40)}, {sat(0, 1), sat(180, 0), []impl.Arc{arc(40, 0)}, spans(0, 40)}, {sat(0, 1), sat(180, 0), []impl.Arc{arc(180, 0)}, nil}, {sat(180, 0), sat(0, 1), []impl.Arc{arc(180, 0)}, nil}, {sat(0, 1), sat(180, 0), []impl.Arc{anywhere()}, nil}, {sat(0, 1), sat(180, 0), []impl.Arc{arc(0, 19), arc(20, 19)}, nil}, {sat(0, 1), sat(20, 1), []impl.Arc{arc(0, 19), arc(40, 19)}, nil}, {sat(0, 1), sat(20, 1), []impl.Arc{arc(0, 9), arc(40, 19)}, spans(10, 20)},
	}
	for _, c := range cases {
		s := zonedSky(c.x, c.arcs...)
		s.Sats = append(s.Sats, c.y)
		s.Reach = 180
		checkSpeaking(t, s, 0, 1, 0, 40, c.want)
		// The other plane has a zone of its own, which does not count here.
		s.Zones = append(s.Zones, zone(1, anywhere()), zone(-1, anywhere()))
		checkSpeaking(t, s, 0, 1, 0, 40, c.want)
		// A satellite of this plane may not speak at all.
		s.Sats[1].Plane, s.Planes, s.Cross = 1, 2, 180
		checkSpeaking(t, s, 0, 1, 0, 40, nil)
	}
}

func TestSpeakingSpansOfManyRanges(t *testing.T) {
	s := silenceSky()
	ends := append(rangeEnds(), 3, 4, 5, 10, 20, 21, 33, 36, 37, 993)
	for _, pair := range [][2]int{{0, 7}, {0, 1}, {0, 4}, {5, 6}, {3, 4}, {7, 8}, {4, 4}, {0, 9}} {
		speaking := speakingTicks(s, pair[0], pair[1])
		for _, from := range ends {
			for _, to := range ends {
				checkSpeakingRange(t, s, pair[0], pair[1], speaking, from, to)
			}
		}
	}
}

// TestSpeakingSpansOfInvalidSkies has all pairs of nodes of skies that are not valid.
func TestSpeakingSpansOfInvalidSkies(t *testing.T) {
	wrapping := silenceSky()
	wrapping.Sats[0].Phase, wrapping.Sats[1].Phase, wrapping.Sats[2].Speed = math.MaxInt, math.MinInt, math.MinInt
	wrapping.Sats[4].Error, wrapping.Sats[5].Plane, wrapping.Sats[6].Plane = 300, -1, 4
	wrapping.Zones = append(wrapping.Zones, zone(-1, arc(-90, 50)), zone(4, arc(math.MaxInt, 20)), zone(2, arc(5, -1)), zone(1, arc(300, circle)))
	far := silenceSky()
	far.Reach, far.Cross, far.View = 1000, -1, math.MaxInt
	crowded := silenceSky()
	crowded.Sats = append(crowded.Sats, crowded.Sats...)
	crowded.Zones = append(crowded.Zones, manyZones(9)...)
	for _, s := range []impl.Sky{wrapping, far, crowded, validSky(), {}} {
		nodes := []int{-1, math.MaxInt, math.MinInt, 0, impl.NodesOf(s)}
		for node := range impl.NodesOf(s) {
			nodes = append(nodes, node)
			checkQuietRange(t, s, node, quietTicks(s, node), 0, maxTick)
		}
		for _, a := range nodes {
			for _, b := range []int{0, 3, 5, 6, 7, -1} {
				checkSpeakingRange(t, s, a, b, speakingTicks(s, a, b), -5, 60)
			}
		}
	}
}

// TestNobodySpeaksInAZone is promise 10: in each tick in which two nodes speak, all their true places are out of the zones of their planes, and they surely see each other; and each such tick of the range is one in which they speak.
func TestNobodySpeaksInAZone(t *testing.T) {
	random := rand.New(rand.NewSource(1010))
	speakings, silences := 0, 0
	for range 250 {
		s := randomZonedSky(random)
		checkSky(t, "random", s, true)
		a, b := random.Intn(impl.NodesOf(s)), random.Intn(impl.NodesOf(s))
		from, to := random.Intn(200)-20, random.Intn(maxTick+40)-20
		l := impl.SpeakingSpans(s, a, b, from, to)
		for tick := -30; tick < maxTick+30; tick++ {
			isOne := 0 <= tick && tick < maxTick && from <= tick && tick < to
			isSure := isOne && wantSight(s, a, b, tick) == 2
			isSilent := isSure && (wantDisturb(s, a, tick) || wantDisturb(s, b, tick))
			if got := hasTick(l, tick); got != (isSure && !isSilent) {
				t.Errorf("SpeakingSpans(%+v, %d, %d, %d, %d) has the tick %d: %t, but sight is sure there: %t, and one of both may disturb: %t", s, a, b, from, to, tick, got, isSure, isSilent)
			}
			if hasTick(l, tick) {
				speakings++
			}
			if isSilent {
				silences++
			}
		}
	}
	if speakings == 0 || silences == 0 {
		t.Errorf("%d ticks are spoken in, and %d silent", speakings, silences)
	}
}

func TestIsQuietSky(t *testing.T) {
	s := silenceSky()
	for _, tick := range []int{0, 1, 2, 3, 8, 27, maxTick, -1, math.MaxInt, math.MinInt} {
		checkQuietSky(t, s, tick, false)
	}
	// Without the satellite that always may disturb, one after the other does.
	s.Sats[3].Phase = 180
	cases := []struct {
		tick int
		want bool
	}{
		{0, false}, {1, true}, {2, true}, {3, false}, {4, false}, {5, false}, {6, false}, {7, false}, {8, true}, {19, true}, {20, false}, {21, true}, {25, true}, {26, false}, {27, false}, {28, true}, {35, true}, {36, false}, {37, true},
		{maxTick - 2, false}, {maxTick - 1, false}, {maxTick, true}, {maxTick + 1, false}, {-1, false}, {-2, false}, {math.MaxInt, false}, {math.MinInt, false},
	}
	for _, c := range cases {
		checkQuietSky(t, s, c.tick, c.want)
	}
	// A tick that does not count is the tick 0, in which nobody is in a zone any more.
	s.Sats[5].Phase = 2
	for _, tick := range []int{0, -1, -36, maxTick, maxTick + 1, math.MaxInt, math.MinInt} {
		checkQuietSky(t, s, tick, true)
	}
	s.Zones = nil
	checkQuietSky(t, s, 3, true)
	checkQuietSky(t, s, maxTick-1, true)
}

// TestIsQuietSkyOfSomeSats has no satellite that may disturb, one in all places of the list, and all of them.
func TestIsQuietSkyOfSomeSats(t *testing.T) {
	zones := []impl.Zone{zone(0, arc(359, 2)), zone(1, arc(100, 0)), zone(-1, anywhere())}
	checkQuietSky(t, impl.Sky{}, 0, true)
	checkQuietSky(t, impl.Sky{Planes: 2, Zones: zones}, 0, true)
	checkQuietSky(t, impl.Sky{Planes: 2, Sites: []impl.Site{site(0, 0, 0), site(1, 100, 0)}, Zones: zones}, 0, true)
	for n := 1; n <= impl.MaxSats; n++ {
		s := impl.Sky{Planes: 2, Sats: slices.Repeat([]impl.Sat{sat(100, 0)}, n), Sites: []impl.Site{site(0, 0, 0)}, Zones: zones}
		checkQuietSky(t, s, 5, true)
		for node := range n {
			one := s
			one.Sats = slices.Clone(s.Sats)
			one.Sats[node].Phase = 359
			checkQuietSky(t, one, 5, false)
			one.Sats[node] = impl.Sat{Plane: 1, Phase: 100}
			checkQuietSky(t, one, 5, false)
			one.Sats[node] = impl.Sat{Plane: 1, Phase: 101}
			checkQuietSky(t, one, 5, true)
			one.Sats[node].Error = 1
			checkQuietSky(t, one, 5, false)
		}
		s.Sats = slices.Repeat([]impl.Sat{sat(1, 0)}, n)
		checkQuietSky(t, s, 5, false)
	}
}

func TestIsQuietSkyOfManySkies(t *testing.T) {
	random := rand.New(rand.NewSource(100))
	met := map[bool]int{}
	for range 400 {
		s := randomZonedSky(random)
		for _, tick := range []int{random.Intn(maxTick), maxTick, -1 - random.Intn(50)} {
			want := true
			for node := range s.Sats {
				want = want && !wantDisturb(s, node, tick)
			}
			met[want]++
			checkQuietSky(t, s, tick, want)
		}
	}
	if met[true] == 0 || met[false] == 0 {
		t.Errorf("not both answers are met: %v", met)
	}
}

// TestSilenceChangesNothing has lists that lie in the midst of known memory, and overwrites each result.
func TestSilenceChangesNothing(t *testing.T) {
	s := silenceSky()
	sats, sites, zones := guard(s.Sats, sat(77, 77)), guard(s.Sites, site(77, 77, 77)), guard(s.Zones, zone(77, arc(77, 77)))
	s.Sats, s.Sites, s.Zones = sats.slice, sites.slice, zones.slice
	for _, a := range nodeSamples(9) {
		for _, b := range []int{0, 4, 7, a} {
			first := impl.SpeakingSpans(s, a, b, 0, 60)
			kept := slices.Clone(first)
			fill(impl.SpeakingSpans(s, a, b, 0, 60), span(99, 99))
			checkSpans(t, first, kept, "SpeakingSpans, changed by another result,", a, b)
			checkSpans(t, impl.SpeakingSpans(s, a, b, 0, 60), kept, "SpeakingSpans, called again,", a, b)
		}
		first := impl.QuietSpans(s, a, 0, 60)
		kept := slices.Clone(first)
		fill(impl.QuietSpans(s, a, 0, 60), span(99, 99))
		checkSpans(t, first, kept, "QuietSpans, changed by another result,", a)
		checkSpans(t, impl.QuietSpans(s, a, 0, 60), kept, "QuietSpans, called again,", a)
		if impl.MayDisturb(s, a, 3) != impl.MayDisturb(s, a, 3) || impl.IsQuietSky(s, 3) != impl.IsQuietSky(s, 3) {
			t.Errorf("a second call for %d returns something else", a)
		}
	}
	if sats.changed() || sites.changed() || zones.changed() {
		t.Error("a list of a sky is changed")
	}
}

// TestSilenceIgnoresSpareCapacity has a satellite in a zone, and a zone in which a satellite is, behind the end of each list.
func TestSilenceIgnoresSpareCapacity(t *testing.T) {
	s := silenceSky()
	s.Sats = s.Sats[:1]
	checkDisturb(t, s, 3, 0, false)
	checkQuietSky(t, s, 0, true)
	checkQuiet(t, s, 3, 0, 10, nil)
	s.Zones = s.Zones[:2]
	checkDisturb(t, s, 0, 20, false)
	checkQuietSky(t, s, 20, true)
	checkQuiet(t, s, 0, 0, 45, spans(3, 5, 39, 41))
}
