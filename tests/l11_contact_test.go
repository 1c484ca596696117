package tests

import (
	"math"
	"math/rand"
	"slices"
	"testing"

	"loop.example/g00599/impl"
)

func contact(a int, b int, from int, to int) impl.Contact {
	return impl.Contact{A: a, B: b, From: from, To: to}
}

// contactsIn has one contact of two nodes for each span.
func contactsIn(a int, b int, l []impl.Span) []impl.Contact {
	contacts := []impl.Contact{}
	for _, x := range l {
		contacts = append(contacts, contact(a, b, x.From, x.To))
	}
	return contacts
}

func acquiring(s impl.Sky, ticks int) impl.Sky {
	s.Acquire = ticks
	return s
}

// planSky has three satellites that all see each other, two sites, and a zone in which the satellites are for two ticks each, one after the other.
func planSky() impl.Sky {
	return impl.Sky{
		Planes: 1,
		Sats:   []impl.Sat{sat(0, 10), sat(120, 10), sat(240, 10)},
		Sites:  []impl.Site{site(0, 0, 0), site(0, 180, 0)},
		Reach:  120,
		View:   60,
		Zones:  []impl.Zone{zone(0, arc(25, 20))},
	}
}

// calmSky has the satellites 0 to 3 and the sites 4 and 5, of which the nodes 0, 1 and 4 always see each other. Its limits are at neither end of their ranges.
func calmSky() impl.Sky {
	return impl.Sky{
		Planes:  3,
		Sats:    []impl.Sat{sat(0, 0), sat(1, 0), {Plane: 2, Phase: 10, Speed: 1, Error: 1}, {Plane: 1, Phase: 5}},
		Sites:   []impl.Site{site(0, 0, 0), site(1, 30, -1)},
		Reach:   90,
		Cross:   50,
		View:    40,
		Sun:     5,
		Shadow:  30,
		Zones:   []impl.Zone{zone(2, arc(25, 2)), zone(1, arc(200, 5))},
		Acquire: 3,
	}
}

// passSky has a satellite that passes a site: in view in the 2 * view + 1 ticks from 50 - view to 50 + view.
func passSky(view int, acquire int, zones ...impl.Arc) impl.Sky {
	s := zonedSky(sat(310, 1), zones...)
	s.Sites, s.View, s.Acquire = []impl.Site{site(0, 0, 0)}, view, acquire
	return s
}

// wantEstablished has a tick if it and the ticks of acquisition before it are all in the range, sure and quiet.
func wantEstablished(s impl.Sky, a int, b int, from int, to int) []impl.Span {
	speaking := [1000]bool{}
	for tick := range speaking {
		speaking[tick] = inRange(tick, from, to) && wantSight(s, a, b, tick) == 2 && !wantDisturb(s, a, tick) && !wantDisturb(s, b, tick)
	}
	return wantSpans(func(tick int) bool {
		if tick < s.Acquire || tick >= len(speaking) {
			return false
		}
		return !slices.Contains(speaking[tick-s.Acquire:tick+1], false)
	})
}

// wantPlan is for valid skies.
func wantPlan(s impl.Sky, from int, to int) []impl.Contact {
	plan := []impl.Contact{}
	for b := range len(s.Sats) + len(s.Sites) {
		for a := range b {
			plan = append(plan, contactsIn(a, b, wantEstablished(s, a, b, from, to))...)
		}
	}
	slices.SortStableFunc(plan, func(x impl.Contact, y impl.Contact) int { return x.A - y.A })
	return plan
}

// wantIsPlan holds each contact against each later one.
func wantIsPlan(l []impl.Contact, nodes int) bool {
	for j, y := range l {
		if y.A < 0 || y.B <= y.A || nodes <= y.B || y.From < 0 || y.To <= y.From || 1000 < y.To {
			return false
		}
		for _, x := range l[:j] {
			isLater := y.A > x.A || y.A == x.A && y.B > x.B || y.A == x.A && y.B == x.B && y.From > x.To
			if !isLater {
				return false
			}
		}
	}
	return true
}

// checkContacts has a literal list, and asks in both directions.
func checkContacts(t *testing.T, s impl.Sky, a int, b int, from int, to int, want []impl.Span) {
	t.Helper()
	contacts := contactsIn(min(a, b), max(a, b), want)
	for _, pair := range [][2]int{{a, b}, {b, a}} {
		if got := impl.ContactsOf(s, pair[0], pair[1], from, to); !slices.Equal(got, contacts) {
			t.Errorf("ContactsOf(%+v, %v, %d, %d) = %v, want %v", s, pair, from, to, got, contacts)
		}
	}
}

// checkPlanOf has a literal list.
func checkPlanOf(t *testing.T, s impl.Sky, from int, to int, want []impl.Contact) {
	t.Helper()
	got := impl.PlanOf(s, from, to)
	if !slices.Equal(got, want) {
		t.Errorf("PlanOf(%+v, %d, %d) = %v, want %v", s, from, to, got, want)
	}
	checkIsPlan(t, got, impl.NodesOf(s), true)
}

func checkIsContact(t *testing.T, x impl.Contact, nodes int, want bool) {
	t.Helper()
	if got := impl.IsContact(x, nodes); got != want {
		t.Errorf("IsContact(%+v, %d) = %t, want %t", x, nodes, got, want)
	}
}

func checkIsPlan(t *testing.T, l []impl.Contact, nodes int, want bool) {
	t.Helper()
	if got := impl.IsPlan(l, nodes); got != want {
		t.Errorf("IsPlan(%+v, %d) = %t, want %t", l, nodes, got, want)
	}
}

// checkCanSpeak asks in both directions.
func checkCanSpeak(t *testing.T, l []impl.Contact, a int, b int, tick int, want bool) {
	t.Helper()
	if there, back := impl.CanSpeak(l, a, b, tick), impl.CanSpeak(l, b, a, tick); there != want || back != want {
		t.Errorf("CanSpeak of %d and %d at %d with %+v = %t, and back %t, want %t", a, b, tick, l, there, back, want)
	}
}

func checkContactTicks(t *testing.T, l []impl.Contact, want int) {
	t.Helper()
	if got := impl.ContactTicks(l); got != want {
		t.Errorf("ContactTicks(%+v) = %d, want %d", l, got, want)
	}
}

// TestContactsOf has windows that silence cuts in pieces: up to the tick 49, the satellite 0 and the site 7 speak for 3, 5, 6 and 5 ticks.
func TestContactsOf(t *testing.T) {
	s := silenceSky()
	cases := []struct {
		acquire, a, b, from, to int
		want                    []impl.Span
	}{
		// Each piece is acquired anew. Some are taken whole, and some in part.
		{0, 0, 7, 0, 50, spans(0, 3, 5, 10, 33, 39, 41, 46)}, {1, 0, 7, 0, 50, spans(1, 3, 6, 10, 34, 39, 42, 46)}, {2, 0, 7, 0, 50, spans(2, 3, 7, 10, 35, 39, 43, 46)}, {3, 0, 7, 0, 50, spans(8, 10, 36, 39, 44, 46)}, {4, 0, 7, 0, 50, spans(9, 10, 37, 39, 45, 46)}, {5, 0, 7, 0, 50, spans(38, 39)}, {6, 0, 7, 0, 50, nil}, {7, 0, 7, 0, 50, nil}, {20, 0, 7, 0, 50, nil},
		// Windows that begin before the range are acquired from its first tick on, and those that end behind it end with it.
		{2, 0, 7, 1, 50, spans(7, 10, 35, 39, 43, 46)}, {2, 0, 7, 6, 38, spans(8, 10, 35, 38)}, {2, 0, 7, 7, 9, nil}, {2, 0, 7, 7, 10, spans(9, 10)}, {2, 0, 7, 34, 44, spans(36, 39, 43, 44)}, {2, 0, 7, 33, 37, spans(35, 37)}, {2, 0, 7, 32, 35, nil}, {2, 0, 7, 32, 36, spans(35, 36)}, {1, 0, 7, 3, 5, nil}, {1, 0, 7, 4, 6, nil}, {1, 0, 7, 4, 7, spans(6, 7)}, {0, 0, 7, 4, 6, spans(5, 6)},
		{1, 0, 7, -1, 3, spans(1, 3)}, {1, 0, 7, math.MinInt, 3, spans(1, 3)}, {1, 0, 7, 0, 2, spans(1, 2)}, {1, 0, 7, 0, 1, nil}, {1, 0, 7, 1, 2, nil}, {1, 0, 7, 1, 3, spans(2, 3)},
		// Two satellites: of one plane, of neighboring planes, and one that always may disturb.
		{0, 0, 1, 0, 22, spans(0, 3, 5, 6, 8, 14, 15, 20, 21, 22)}, {1, 0, 1, 0, 22, spans(1, 3, 9, 14, 16, 20)}, {3, 0, 1, 0, 22, spans(11, 14, 18, 20)}, {4, 0, 1, 0, 22, spans(12, 14, 19, 20)}, {5, 0, 1, 0, 22, spans(13, 14)}, {6, 0, 1, 0, 22, nil},
		{20, 0, 4, 0, maxTick, nil}, {10, 0, 4, 0, 45, spans(15, 20, 31, 39)}, {20, 2, 4, 0, maxTick, spans(27, 364, 387, 724, 747, maxTick)}, {20, 4, 6, 900, maxTick, spans(920, 927, 948, 963, 984, maxTick-1)}, {0, 3, 4, 0, maxTick, nil}, {1, 3, 4, 0, maxTick, nil},
		// Two sites, a node and itself, and nodes that do not exist.
		{0, 7, 8, 0, maxTick, nil}, {0, 7, 7, 0, maxTick, nil}, {0, 8, 8, 0, maxTick, nil}, {0, 0, 0, 0, maxTick, nil}, {0, 4, 4, 0, maxTick, nil}, {0, 9, 9, 0, maxTick, nil}, {0, -1, -1, 0, maxTick, nil}, {0, math.MaxInt, math.MaxInt, 0, maxTick, nil}, {0, math.MinInt, math.MinInt, 0, maxTick, nil},
		{0, 4, 9, 0, maxTick, nil}, {0, 7, 9, 0, maxTick, nil}, {0, 9, 10, 0, maxTick, nil}, {0, -1, 4, 0, maxTick, nil}, {0, -1, 0, 0, maxTick, nil}, {0, -2, -1, 0, maxTick, nil}, {0, 0, math.MaxInt, 0, maxTick, nil}, {0, 0, math.MinInt, 0, maxTick, nil}, {0, math.MinInt, math.MaxInt, math.MinInt, math.MaxInt, nil}, {0, 4, 1 << 32, 0, maxTick, nil}, {0, 4, 1<<32 + 2, 0, maxTick, nil},
	}
	for _, c := range cases {
		checkContacts(t, acquiring(s, c.acquire), c.a, c.b, c.from, c.to, c.want)
	}
}

// TestContactsOfTheEnds has two satellites that always speak, so that the range is the window.
func TestContactsOfTheEnds(t *testing.T) {
	s := calmSky()
	cases := []struct {
		from, to int
		want     []impl.Span
	}{
		{0, maxTick, spans(3, maxTick)}, {-1, maxTick, spans(3, maxTick)}, {-100, maxTick + 1, spans(3, maxTick)}, {math.MinInt, math.MaxInt, spans(3, maxTick)}, {math.MinInt + 1, math.MaxInt - 1, spans(3, maxTick)}, {1, maxTick - 1, spans(4, maxTick-1)},
		// What is before the tick 0 does not count as acquisition.
		{-3, 3, nil}, {-3, 4, spans(3, 4)}, {-3, 1, nil}, {-4, 2, nil}, {0, 3, nil}, {0, 4, spans(3, 4)}, {0, 1, nil}, {-1, 0, nil}, {-1, 1, nil}, {-1, -1, nil}, {-5, -1, nil}, {0, -1, nil}, {3, -1, nil},
		// from equal to to, greater than to, and less by one and by what acquisition takes.
		{5, 5, nil}, {6, 5, nil}, {5, 6, nil}, {5, 8, nil}, {5, 9, spans(8, 9)}, {5, 10, spans(8, 10)}, {0, 0, nil}, {1, 0, nil}, {500, 499, nil}, {500, 3, nil}, {500, 600, spans(503, 600)},
		{maxTick, maxTick, nil}, {maxTick, maxTick + 1, nil}, {maxTick - 1, maxTick, nil}, {maxTick - 1, maxTick + 1, nil}, {maxTick - 1, maxTick - 1, nil}, {maxTick, maxTick - 1, nil}, {maxTick - 3, maxTick, nil}, {maxTick - 3, maxTick + 1, nil}, {maxTick - 3, math.MaxInt, nil}, {maxTick - 4, maxTick, spans(maxTick-1, maxTick)}, {maxTick - 4, maxTick + 1, spans(maxTick-1, maxTick)}, {maxTick - 4, math.MaxInt, spans(maxTick-1, maxTick)}, {maxTick - 4, maxTick - 1, nil}, {maxTick - 5, maxTick - 1, spans(maxTick-2, maxTick-1)}, {maxTick + 1, 2000, nil},
		{math.MaxInt, math.MaxInt, nil}, {math.MaxInt - 1, math.MaxInt, nil}, {math.MaxInt - 4, math.MaxInt, nil}, {math.MaxInt, 5, nil}, {math.MinInt, math.MinInt + 1, nil}, {5, math.MinInt + 1, nil}, {math.MinInt, 4, spans(3, 4)},
		// One less than math.MinInt is math.MaxInt.
		{0, math.MinInt, spans(3, maxTick)}, {990, math.MinInt, spans(993, maxTick)}, {math.MinInt, math.MinInt, spans(3, maxTick)}, {maxTick - 3, math.MinInt, nil}, {math.MaxInt, math.MinInt, nil},
	}
	for _, c := range cases {
		checkContacts(t, s, 0, 1, c.from, c.to, c.want)
		checkContacts(t, s, 1, 4, c.from, c.to, c.want)
		checkContacts(t, s, 4, 5, c.from, c.to, nil)
	}
}

// TestAcquisitionOfWholeWindows has windows of all lengths around each time that acquisition may take.
func TestAcquisitionOfWholeWindows(t *testing.T) {
	for acquire := range 21 {
		for length := range 25 {
			s := acquiring(calmSky(), acquire)
			want := []impl.Span{}
			if acquire < length {
				want = spans(100+acquire, 100+length)
			}
			checkContacts(t, s, 0, 1, 100, 100+length, want)
		}
	}
	cases := []struct {
		s    impl.Sky
		want []impl.Span
	}{
		// The window is as long as acquisition, and shorter and longer by one and two ticks.
		{passSky(0, 0), spans(50, 51)}, {passSky(0, 1), nil}, {passSky(0, 2), nil}, {passSky(0, 20), nil}, {passSky(3, 0), spans(47, 54)}, {passSky(3, 1), spans(48, 54)}, {passSky(3, 5), spans(52, 54)}, {passSky(3, 6), spans(53, 54)}, {passSky(3, 7), nil}, {passSky(3, 8), nil}, {passSky(3, 9), nil},
		{passSky(9, 18), spans(59, 60)}, {passSky(9, 19), nil}, {passSky(9, 20), nil}, {passSky(10, 19), spans(59, 61)}, {passSky(10, 20), spans(60, 61)}, {passSky(10, 20, arc(10, 0)), nil}, {passSky(10, 20, arc(350, 0)), nil}, {passSky(10, 19, arc(10, 0)), spans(59, 60)}, {passSky(10, 19, arc(350, 0)), spans(60, 61)}, {passSky(10, 20, arc(11, 338)), spans(60, 61)},
		// A zone within the window: each piece is acquired anew, and one, the other one, or both are taken whole.
		{passSky(10, 4, arc(0, 0)), spans(44, 50, 55, 61)}, {passSky(10, 9, arc(0, 0)), spans(49, 50, 60, 61)}, {passSky(10, 10, arc(0, 0)), nil}, {passSky(10, 4, arc(359, 2)), spans(44, 49, 56, 61)}, {passSky(10, 4, arc(354, 0)), spans(49, 61)}, {passSky(10, 4, arc(355, 0)), spans(44, 45, 50, 61)}, {passSky(10, 5, arc(355, 0)), spans(51, 61)}, {passSky(10, 4, arc(6, 0)), spans(44, 56)}, {passSky(10, 4, arc(5, 0)), spans(44, 55, 60, 61)},
		{passSky(10, 3, arc(354, 0), arc(359, 1), arc(4, 0), arc(8, 0)), spans(43, 44, 48, 49)}, {passSky(10, 2, arc(354, 0), arc(359, 1), arc(4, 0), arc(8, 0)), spans(42, 44, 47, 49, 53, 54, 57, 58)}, {passSky(10, 1, arc(354, 0), arc(359, 1), arc(4, 0), arc(8, 0)), spans(41, 44, 46, 49, 52, 54, 56, 58, 60, 61)}, {passSky(10, 0, arc(354, 0), arc(359, 1), arc(4, 0), arc(8, 0)), spans(40, 44, 45, 49, 51, 54, 55, 58, 59, 61)}, {passSky(10, 0, anywhere()), nil},
		// More than a valid sky may take.
		{passSky(180, 20), spans(20, 100)}, {passSky(180, 21), nil}, {passSky(180, 100), nil}, {passSky(180, maxTick), nil}, {passSky(180, maxTick-1), nil}, {passSky(180, math.MaxInt), nil}, {passSky(180, -1), nil}, {passSky(180, math.MinInt), nil},
	}
	for _, c := range cases {
		checkContacts(t, c.s, 0, 1, 0, 100, c.want)
		checkPlanOf(t, c.s, 0, 100, contactsIn(0, 1, c.want))
	}
	// The window is all ticks.
	checkContacts(t, passSky(180, 20), 0, 1, math.MinInt, math.MaxInt, spans(20, maxTick))
	checkContacts(t, passSky(180, 0), 0, 1, math.MinInt, math.MaxInt, spans(0, maxTick))
}

func TestContactsOfManyRanges(t *testing.T) {
	s := acquiring(silenceSky(), 2)
	ends := append(rangeEnds(), 3, 5, 9, 10, 33, 35, 39, 41)
	for _, pair := range [][2]int{{0, 7}, {0, 1}, {2, 4}} {
		speaking := speakingTicks(s, pair[0], pair[1])
		for _, from := range ends {
			for _, to := range ends {
				now := func(tick int) bool { return inRange(tick, from, to) && speaking[tick] }
				checkContacts(t, s, pair[0], pair[1], from, to, wantSpans(func(tick int) bool { return now(tick) && now(tick-1) && now(tick-2) }))
			}
		}
	}
}

// checkContactsOfAll asks for all pairs of nodes, and for the plan. There are none if the sky is not valid; otherwise there are some.
func checkContactsOfAll(t *testing.T, what string, s impl.Sky, isValid bool) {
	t.Helper()
	checkSky(t, what, s, isValid)
	want := []impl.Contact{}
	if isValid {
		want = wantPlan(s, 5, 40)
		if len(want) == 0 {
			t.Errorf("%s: no two nodes speak in %+v", what, s)
		}
	}
	checkPlanOf(t, s, 5, 40, want)
	for a := -1; a <= impl.NodesOf(s); a++ {
		for b := -1; b < a; b++ {
			found := []impl.Span{}
			for _, x := range want {
				if x.A == b && x.B == a {
					found = append(found, span(x.From, x.To))
				}
			}
			checkContacts(t, s, a, b, 5, 40, found)
		}
	}
}

// TestContactsOfValidSkiesOnly sets one number of a valid sky at a time: just within and just beyond each limit, and to the ends of int's range.
func TestContactsOfValidSkiesOnly(t *testing.T) {
	numbers := []struct {
		what      string
		set       func(s *impl.Sky, n int)
		low, high int
	}{
		{"Planes", func(s *impl.Sky, n int) { s.Planes = n }, 3, 4},
		{"Planes of a sky with one", func(s *impl.Sky, n int) { s.Planes, s.Sats, s.Sites, s.Zones = n, s.Sats[:2], nil, nil }, 1, 4},
		{"Plane of a satellite", func(s *impl.Sky, n int) { s.Sats[2].Plane = n }, 0, 2},
		{"Phase of a satellite", func(s *impl.Sky, n int) { s.Sats[2].Phase = n }, 0, 359},
		{"Speed of a satellite", func(s *impl.Sky, n int) { s.Sats[2].Speed = n }, -60, 60},
		{"Error of a satellite", func(s *impl.Sky, n int) { s.Sats[2].Error = n }, 0, 20},
		{"Plane of a site", func(s *impl.Sky, n int) { s.Sites[1].Plane = n }, 0, 2},
		{"Angle of a site", func(s *impl.Sky, n int) { s.Sites[1].Angle = n }, 0, 359},
		{"Speed of a site", func(s *impl.Sky, n int) { s.Sites[1].Speed = n }, -60, 60},
		{"Plane of a zone", func(s *impl.Sky, n int) { s.Zones[1].Plane = n }, 0, 2},
		{"Start of a zone", func(s *impl.Sky, n int) { s.Zones[1].Arc.Start = n }, math.MinInt, math.MaxInt},
		{"Width of a zone", func(s *impl.Sky, n int) { s.Zones[1].Arc.Width = n }, 0, 359},
		{"Reach", func(s *impl.Sky, n int) { s.Reach = n }, 0, 180},
		{"Cross", func(s *impl.Sky, n int) { s.Cross = n }, 0, 180},
		{"View", func(s *impl.Sky, n int) { s.View = n }, 0, 180},
		{"Sun", func(s *impl.Sky, n int) { s.Sun = n }, -60, 60},
		{"Shadow", func(s *impl.Sky, n int) { s.Shadow = n }, 0, 180},
		{"Acquire", func(s *impl.Sky, n int) { s.Acquire = n }, 0, 20},
	}
	checkContactsOfAll(t, "as it is", calmSky(), true)
	for _, number := range numbers {
		samples := append(endsOfInt(), number.low, number.high)
		if number.low > math.MinInt {
			samples = append(samples, number.low-1, number.high+1)
		}
		for _, n := range samples {
			s := calmSky()
			number.set(&s, n)
			checkContactsOfAll(t, number.what, s, number.low <= n && n <= number.high)
		}
	}
}

// TestContactsOfSkiesWithAllOrMore has as many nodes and zones as a valid sky has, and one more.
func TestContactsOfSkiesWithAllOrMore(t *testing.T) {
	still := func(n int) []impl.Sat { return slices.Repeat([]impl.Sat{sat(0, 0)}, n) }
	sites := func(n int) []impl.Site { return slices.Repeat([]impl.Site{site(0, 0, 0)}, n) }
	away := func(n int) []impl.Zone { return slices.Repeat([]impl.Zone{zone(0, arc(100, 5))}, n) }
	cases := []struct {
		what               string
		sats, sites, zones int
		isValid            bool
	}{
		{"two satellites", 2, 0, 0, true}, {"a satellite and a site", 1, 1, 0, true}, {"all satellites", 8, 0, 0, true}, {"a satellite too many", 9, 0, 0, false}, {"all sites", 1, 4, 0, true}, {"a site too many", 1, 5, 0, false}, {"all zones", 2, 0, 4, true}, {"a zone too many", 2, 0, 5, false}, {"all of everything", 8, 4, 4, true}, {"no satellite", 0, 2, 0, false}, {"no satellite, all sites", 0, 4, 4, false}, {"many sites", 2, 30, 0, false},
	}
	for _, c := range cases {
		s := impl.Sky{Planes: 1, Sats: still(c.sats), Sites: sites(c.sites), Reach: 90, View: 40, Zones: away(c.zones), Acquire: 1}
		checkContactsOfAll(t, c.what, s, c.isValid)
	}
	// With very many nodes, a plan comes to an end all the same.
	checkPlanOf(t, impl.Sky{Planes: 1, Sats: still(300000), Sites: sites(300000), Reach: 90, View: 40}, 0, 40, nil)
}

func TestPlanOf(t *testing.T) {
	s := planSky()
	checkPlanOf(t, acquiring(s, 1), 0, 20, []impl.Contact{
		contact(0, 1, 1, 3), contact(0, 1, 6, 20),
		contact(0, 2, 1, 3), contact(0, 2, 6, 15), contact(0, 2, 18, 20),
		contact(0, 3, 1, 3), contact(0, 3, 6, 7),
		contact(0, 4, 13, 20),
		contact(1, 2, 1, 15), contact(1, 2, 18, 20),
		contact(1, 3, 19, 20),
		contact(1, 4, 1, 13),
		contact(2, 3, 7, 15), contact(2, 3, 18, 19),
		// The satellite 2 and the site 4 see each other in the tick 0 only, and the sites never do.
	})
	checkPlanOf(t, s, 0, 20, []impl.Contact{
		contact(0, 1, 0, 3), contact(0, 1, 5, 20),
		contact(0, 2, 0, 3), contact(0, 2, 5, 15), contact(0, 2, 17, 20),
		contact(0, 3, 0, 3), contact(0, 3, 5, 7),
		contact(0, 4, 12, 20),
		contact(1, 2, 0, 15), contact(1, 2, 17, 20),
		contact(1, 3, 18, 20),
		contact(1, 4, 0, 13),
		contact(2, 3, 6, 15), contact(2, 3, 17, 19),
		contact(2, 4, 0, 1),
	})
	checkPlanOf(t, acquiring(s, 4), 2, 14, []impl.Contact{contact(0, 1, 9, 14), contact(0, 2, 9, 14), contact(1, 2, 6, 14), contact(1, 4, 6, 13), contact(2, 3, 10, 14)})
	checkPlanOf(t, s, 3, 5, []impl.Contact{contact(1, 2, 3, 5), contact(1, 4, 3, 5)})
	checkPlanOf(t, acquiring(s, 1), 3, 5, []impl.Contact{contact(1, 2, 4, 5), contact(1, 4, 4, 5)})
	checkPlanOf(t, acquiring(s, 2), 3, 5, nil)
	for _, ends := range [][2]int{{5, 5}, {6, 5}, {-5, 0}, {0, -1}, {maxTick, maxTick + 5}, {maxTick, math.MaxInt}, {math.MinInt, 0}, {5, math.MinInt + 1}, {math.MaxInt, math.MaxInt}, {math.MaxInt, math.MinInt}} {
		checkPlanOf(t, s, ends[0], ends[1], nil)
	}
	// In the last tick the satellites are at 270, 30 and 150: the second one is in the zone.
	last := []impl.Contact{contact(0, 2, maxTick-1, maxTick), contact(2, 4, maxTick-1, maxTick)}
	for _, to := range []int{maxTick, maxTick + 1, math.MaxInt, math.MinInt} {
		checkPlanOf(t, s, maxTick-1, to, last)
	}
	for _, from := range []int{0, -1, -1000, math.MinInt} {
		checkPlanOf(t, s, from, 1, []impl.Contact{contact(0, 1, 0, 1), contact(0, 2, 0, 1), contact(0, 3, 0, 1), contact(1, 2, 0, 1), contact(1, 4, 0, 1), contact(2, 4, 0, 1)})
	}
	// No node, one, and two.
	checkPlanOf(t, impl.Sky{}, 0, maxTick, nil)
	checkPlanOf(t, impl.Sky{Planes: 1, Sats: manySats(1)}, 0, maxTick, nil)
	checkPlanOf(t, impl.Sky{Planes: 1, Sats: manySats(2), Reach: 1}, 0, maxTick, []impl.Contact{contact(0, 1, 0, maxTick)})
	checkPlanOf(t, impl.Sky{Planes: 1, Sats: manySats(2)}, 0, maxTick, nil)
}

// TestPlanOfManySkies has skies of all sizes, with several contacts of most pairs.
func TestPlanOfManySkies(t *testing.T) {
	random := rand.New(rand.NewSource(11))
	several := 0
	for range 60 {
		s := acquiring(randomZonedSky(random), random.Intn(1+random.Intn(21)))
		from := random.Intn(maxTick+20) - 20
		to := from + random.Intn(80)
		want := wantPlan(s, from, to)
		checkPlanOf(t, s, from, to, want)
		for i := range want {
			if i > 0 && want[i].A == want[i-1].A && want[i].B == want[i-1].B {
				several++
			}
		}
	}
	if several == 0 {
		t.Error("no pair has several contacts")
	}
	full := impl.Sky{Planes: 1, Sats: manySats(8), Sites: manySites(4), Reach: 5, View: 9, Zones: []impl.Zone{zone(0, arc(20, 3))}, Acquire: 2}
	checkPlanOf(t, full, 0, 60, wantPlan(full, 0, 60))
	checkPlanOf(t, full, 700, maxTick, wantPlan(full, 700, maxTick))
}

// TestContactsAreSureEstablishedAndQuiet is promise 11: in each contact, and in the ticks of acquisition before it, both nodes surely see each other and neither of them may disturb; and no such tick is left out.
func TestContactsAreSureEstablishedAndQuiet(t *testing.T) {
	random := rand.New(rand.NewSource(1111))
	inContact, acquired := 0, 0
	for range 250 {
		s := acquiring(randomZonedSky(random), random.Intn(1+random.Intn(21)))
		checkSky(t, "random", s, true)
		a, b := random.Intn(impl.NodesOf(s)), random.Intn(impl.NodesOf(s))
		from, to := random.Intn(200)-20, random.Intn(maxTick+40)-20
		l := impl.ContactsOf(s, a, b, from, to)
		for _, x := range l {
			if x.A != min(a, b) || x.B != max(a, b) || x.A == x.B || x.From < max(0, from)+s.Acquire || x.To > min(to, maxTick) || x.From >= x.To {
				t.Fatalf("ContactsOf(%+v, %d, %d, %d, %d) has %+v", s, a, b, from, to, x)
			}
			for tick := x.From - s.Acquire; tick < x.To; tick++ {
				if wantSight(s, a, b, tick) != 2 || wantDisturb(s, a, tick) || wantDisturb(s, b, tick) {
					t.Errorf("ContactsOf(%+v, %d, %d, %d, %d) has %+v, but in the tick %d they do not speak", s, a, b, from, to, x, tick)
				}
			}
			inContact += x.To - x.From
			acquired += s.Acquire
		}
		if want := contactsIn(min(a, b), max(a, b), wantEstablished(s, a, b, from, to)); !slices.Equal(l, want) {
			t.Errorf("ContactsOf(%+v, %d, %d, %d, %d) = %v, want %v", s, a, b, from, to, l, want)
		}
		checkIsPlan(t, l, impl.NodesOf(s), true)
		checkContactTicks(t, l, impl.TicksOf(wantEstablished(s, a, b, from, to)))
	}
	if inContact == 0 || acquired == 0 {
		t.Errorf("%d ticks are in a contact, after %d of acquisition", inContact, acquired)
	}
}

func TestIsContact(t *testing.T) {
	cases := []struct {
		a, b, nodes int
		want        bool
	}{
		{0, 1, 2, true}, {0, 1, 3, true}, {0, 2, 3, true}, {1, 2, 3, true}, {3, 11, 12, true}, {0, 1, 1, false}, {0, 2, 2, false}, {0, 3, 2, false}, {1, 2, 2, false},
		// A at -1, 0, B - 1, B and B + 1.
		{-1, 4, 5, false}, {0, 4, 5, true}, {3, 4, 5, true}, {4, 4, 5, false}, {5, 4, 5, false}, {5, 4, 9, false}, {-1, 0, 5, false}, {0, 0, 5, false}, {1, 0, 5, false}, {-2, -1, 5, false}, {-1, -1, 5, false}, {0, -1, 5, false}, {4, 0, 5, false},
		// B at nodes - 1, nodes and beyond.
		{2, 4, 5, true}, {2, 5, 5, false}, {2, 6, 5, false}, {2, math.MaxInt, 5, false}, {2, math.MinInt, 5, false}, {math.MinInt, 4, 5, false}, {math.MinInt, math.MaxInt, 5, false}, {math.MaxInt, math.MinInt, 5, false}, {math.MaxInt, 4, 5, false}, {math.MaxInt, math.MaxInt, 5, false},
		// Numbers of nodes that no sky has.
		{0, 1, 0, false}, {0, 0, 0, false}, {-1, 0, 0, false}, {0, 1, -1, false}, {-3, -2, -1, false}, {0, 1, math.MinInt, false}, {0, 1, math.MinInt + 1, false}, {math.MinInt, math.MinInt + 1, math.MinInt, false}, {-1, 0, math.MinInt, false},
		{0, 1, math.MaxInt, true}, {0, 12, 13, true}, {0, math.MaxInt - 1, math.MaxInt, true}, {0, math.MaxInt, math.MaxInt, false}, {math.MaxInt - 2, math.MaxInt - 1, math.MaxInt, true}, {math.MaxInt - 1, math.MaxInt, math.MaxInt, false}, {math.MinInt, math.MaxInt - 1, math.MaxInt, false}, {-1, 1, math.MaxInt, false},
	}
	for _, c := range cases {
		checkIsContact(t, contact(c.a, c.b, 5, 8), c.nodes, c.want)
		// Without a tick, no nodes have a contact.
		checkIsContact(t, contact(c.a, c.b, 5, 5), c.nodes, false)
		checkIsContact(t, contact(c.a, c.b, -1, 8), c.nodes, false)
	}
	valid := spans(0, 1, 0, 2, 0, maxTick, 0, maxTick-1, 1, 2, 5, 8, 5, 6, 500, 501, maxTick-2, maxTick-1, maxTick-1, maxTick)
	for _, x := range valid {
		checkIsContact(t, contact(0, 1, x.From, x.To), 2, true)
		checkIsContact(t, contact(1, 1, x.From, x.To), 2, false)
		checkIsContact(t, contact(1, 0, x.From, x.To), 2, false)
	}
	for _, x := range invalidSpans() {
		checkIsContact(t, contact(0, 1, x.From, x.To), 2, false)
	}
	checkIsContact(t, impl.Contact{}, 5, false)
}

func TestIsPlan(t *testing.T) {
	type plan = []impl.Contact
	at := func(a int, b int) impl.Contact { return contact(a, b, 5, 8) }
	cases := []struct {
		what string
		l    plan
		want bool
	}{
		{"nil", nil, true}, {"empty", plan{}, true}, {"one", plan{at(0, 1)}, true}, {"one of the last nodes", plan{at(3, 4)}, true}, {"one of all ticks", plan{contact(0, 4, 0, maxTick)}, true},
		// The order of A, then B, then From.
		{"by A", plan{at(0, 3), at(1, 3), at(2, 3)}, true}, {"out of order by A", plan{at(1, 3), at(0, 3)}, false}, {"out of order by A in the end", plan{at(0, 1), at(1, 3), at(2, 3), at(0, 4)}, false}, {"out of order by A in the middle", plan{at(0, 1), at(2, 3), at(1, 3), at(3, 4)}, false},
		{"by A, B descends", plan{at(0, 4), at(1, 3), at(2, 3)}, true}, {"by B, A descends", plan{at(2, 3), at(1, 4)}, false}, {"by A, From descends", plan{contact(0, 4, 50, 60), contact(1, 4, 5, 8)}, true}, {"by From, A descends", plan{contact(1, 4, 5, 8), contact(0, 4, 50, 60)}, false},
		{"by B", plan{at(0, 1), at(0, 2), at(0, 4)}, true}, {"out of order by B", plan{at(0, 2), at(0, 1)}, false}, {"out of order by B in the end", plan{at(0, 1), at(0, 4), at(0, 3)}, false}, {"by B, From descends", plan{contact(0, 1, 50, 60), contact(0, 2, 5, 8)}, true}, {"by From, B descends", plan{contact(0, 2, 5, 8), contact(0, 1, 50, 60)}, false}, {"by B, at overlapping ticks", plan{contact(0, 1, 5, 8), contact(0, 2, 6, 9), contact(1, 2, 5, 8)}, true},
		{"by From", plan{contact(0, 1, 5, 8), contact(0, 1, 10, 12), contact(0, 1, 20, 22)}, true}, {"out of order by From", plan{contact(0, 1, 10, 12), contact(0, 1, 5, 8)}, false}, {"out of order by From in the end", plan{contact(0, 1, 5, 8), contact(0, 1, 20, 22), contact(0, 1, 10, 12)}, false}, {"a pair comes again", plan{contact(0, 1, 5, 8), contact(0, 2, 5, 8), contact(0, 1, 10, 12)}, false}, {"all three", plan{contact(0, 1, 50, 60), contact(0, 1, 70, 80), contact(0, 2, 5, 8), contact(0, 2, 10, 20), contact(1, 2, 0, 3), contact(1, 2, 4, 9), contact(3, 4, 0, 1)}, true},
		// The first one ends before, when and after the second one of the same nodes begins.
		{"a gap of one tick", plan{contact(0, 1, 5, 8), contact(0, 1, 9, 10)}, true}, {"touching", plan{contact(0, 1, 5, 8), contact(0, 1, 8, 10)}, false}, {"overlapping by one tick", plan{contact(0, 1, 5, 8), contact(0, 1, 7, 10)}, false}, {"the same From", plan{contact(0, 1, 5, 8), contact(0, 1, 5, 10)}, false}, {"the same To", plan{contact(0, 1, 5, 10), contact(0, 1, 7, 10)}, false}, {"one in the other", plan{contact(0, 1, 5, 10), contact(0, 1, 6, 8)}, false}, {"the other in the one", plan{contact(0, 1, 6, 8), contact(0, 1, 5, 10)}, false}, {"touching the wrong way round", plan{contact(0, 1, 8, 10), contact(0, 1, 5, 8)}, false},
		{"touching in the end", plan{contact(0, 1, 1, 3), contact(0, 1, 5, 8), contact(0, 1, 8, 10)}, false}, {"a gap of one tick at the ends", plan{contact(0, 1, 0, maxTick-2), contact(0, 1, maxTick-1, maxTick)}, true}, {"touching at the ends", plan{contact(0, 1, 0, maxTick-1), contact(0, 1, maxTick-1, maxTick)}, false}, {"touching, of other nodes", plan{contact(0, 1, 5, 8), contact(0, 2, 8, 10)}, true},
		{"twice", plan{at(0, 1), at(0, 1)}, false}, {"twice in the end", plan{at(0, 1), at(1, 2), at(1, 2)}, false}, {"twice, but not next to each other", plan{at(0, 1), at(1, 2), at(0, 1)}, false},
	}
	for _, c := range cases {
		if got := impl.IsPlan(c.l, 5); got != c.want || got != wantIsPlan(c.l, 5) {
			t.Errorf("%s: IsPlan(%+v, 5) = %t, want %t", c.what, c.l, got, c.want)
		}
	}
}

func TestIsPlanOfSomeNodes(t *testing.T) {
	for _, nodes := range []int{0, -1, 1, 2, 5, 12, 13, 1000, math.MaxInt, math.MinInt} {
		checkIsPlan(t, nil, nodes, true)
		checkIsPlan(t, []impl.Contact{contact(0, 1, 5, 8)}, nodes, nodes >= 2)
		checkIsPlan(t, []impl.Contact{contact(0, 1, 5, 8), contact(3, 4, 5, 8)}, nodes, nodes >= 5)
		checkIsPlan(t, []impl.Contact{contact(0, 12, 5, 8)}, nodes, nodes >= 13)
		checkIsPlan(t, []impl.Contact{contact(0, math.MaxInt, 5, 8)}, nodes, false)
		checkIsPlan(t, []impl.Contact{contact(math.MinInt, 1, 5, 8)}, nodes, false)
	}
}

// TestIsPlanAsksEachOne puts each bad contact at each place of a plan.
func TestIsPlanAsksEachOne(t *testing.T) {
	plan := []impl.Contact{contact(0, 1, 5, 8), contact(0, 1, 10, 12), contact(0, 2, 5, 8), contact(1, 2, 0, maxTick), contact(2, 4, 3, 4), contact(3, 4, 999, maxTick)}
	checkIsPlan(t, plan, 5, true)
	checkIsPlan(t, plan, 4, false)
	for i, x := range plan {
		bad := []impl.Contact{contact(x.A, x.A, x.From, x.To), contact(x.B, x.A, x.From, x.To), contact(-1, x.B, x.From, x.To), contact(x.A, 5, x.From, x.To), contact(x.A, x.B, x.From, x.From), contact(x.A, x.B, x.To, x.From), contact(x.A, x.B, -1, x.To), contact(x.A, x.B, x.From, maxTick+1), {}}
		for _, y := range bad {
			l := slices.Clone(plan)
			l[i] = y
			checkIsPlan(t, l, 5, false)
			checkIsPlan(t, []impl.Contact{y}, 5, false)
		}
		// Without one, it still is a plan.
		checkIsPlan(t, slices.Delete(slices.Clone(plan), i, i+1), 5, true)
	}
}

// TestIsPlanOfManyLists changes plans at random.
func TestIsPlanOfManyLists(t *testing.T) {
	random := rand.New(rand.NewSource(110))
	met := map[bool]int{}
	for range 20000 {
		l := []impl.Contact{}
		for range random.Intn(5) {
			from := random.Intn(12)
			l = append(l, contact(random.Intn(3), 1+random.Intn(3), from, from+1+random.Intn(4)))
		}
		if random.Intn(4) > 0 {
			slices.SortFunc(l, func(x impl.Contact, y impl.Contact) int {
				return 10000*(x.A-y.A) + 100*(x.B-y.B) + x.From - y.From
			})
		}
		want := wantIsPlan(l, 4)
		if len(l) > 1 {
			met[want]++
		}
		checkIsPlan(t, l, 4, want)
	}
	if met[true] == 0 || met[false] == 0 {
		t.Errorf("not both answers are met: %v", met)
	}
	long := []impl.Contact{}
	for b := 1; b < 200; b++ {
		for from := 0; from < maxTick; from += 10 {
			long = append(long, contact(0, b, from, from+9))
		}
	}
	checkIsPlan(t, long, 200, true)
	checkIsPlan(t, append(long, long[len(long)-1]), 200, false)
}

func TestCanSpeak(t *testing.T) {
	l := []impl.Contact{contact(0, 2, 5, 8), contact(1, 2, 0, 1), contact(1, 2, 20, 30), contact(1, 2, 31, 40), contact(3, 4, maxTick-1, maxTick), contact(3, 5, 0, maxTick)}
	cases := []struct {
		a, b, tick int
		want       bool
	}{
		// At From - 1, From, To - 1 and To.
		{0, 2, 4, false}, {0, 2, 5, true}, {0, 2, 6, true}, {0, 2, 7, true}, {0, 2, 8, false}, {0, 2, 9, false}, {0, 2, 0, false},
		{1, 2, -1, false}, {1, 2, 0, true}, {1, 2, 1, false}, {1, 2, 5, false}, {1, 2, 19, false}, {1, 2, 20, true}, {1, 2, 29, true}, {1, 2, 30, false}, {1, 2, 31, true}, {1, 2, 39, true}, {1, 2, 40, false},
		{3, 4, maxTick - 2, false}, {3, 4, maxTick - 1, true}, {3, 4, maxTick, false}, {3, 4, maxTick + 1, false}, {3, 5, -1, false}, {3, 5, 0, true}, {3, 5, 500, true}, {3, 5, maxTick - 1, true}, {3, 5, maxTick, false},
		{3, 5, math.MaxInt, false}, {3, 5, math.MinInt, false}, {3, 5, math.MaxInt - 1, false}, {3, 5, math.MinInt + 1, false}, {0, 2, math.MinInt, false}, {0, 2, math.MaxInt, false}, {0, 2, 1<<32 + 5, false}, {3, 5, 1 << 32, false},
		// Other nodes, of which one or both have contacts.
		{0, 1, 5, false}, {0, 1, 0, false}, {0, 3, 5, false}, {2, 3, 5, false}, {4, 5, maxTick - 1, false}, {0, 0, 5, false}, {2, 2, 5, false}, {1, 1, 20, false}, {5, 5, 5, false}, {7, 8, 5, false}, {-1, 2, 5, false}, {-1, -1, 5, false}, {0, math.MaxInt, 5, false}, {math.MinInt, 2, 5, false}, {math.MinInt, math.MaxInt, 5, false}, {1 << 32, 2, 5, false},
	}
	for _, c := range cases {
		checkCanSpeak(t, l, c.a, c.b, c.tick, c.want)
		checkCanSpeak(t, nil, c.a, c.b, c.tick, false)
		checkCanSpeak(t, []impl.Contact{}, c.a, c.b, c.tick, false)
		reversed := slices.Clone(l)
		slices.Reverse(reversed)
		checkCanSpeak(t, reversed, c.a, c.b, c.tick, c.want)
	}
}

// TestCanSpeakWithContactsThatAreNotValid goes by valid spans, but by nodes of all numbers.
func TestCanSpeakWithContactsThatAreNotValid(t *testing.T) {
	ticks := append(endsOfInt(), -1, 0, 1, 3, 4, 5, 6, 7, 8, 500, maxTick-1, maxTick, maxTick+1)
	for _, x := range invalidSpans() {
		for _, tick := range ticks {
			bad := []impl.Contact{contact(0, 1, x.From, x.To)}
			checkCanSpeak(t, bad, 0, 1, tick, false)
			// Next to a valid one, which counts.
			good := contact(0, 1, 5, 8)
			checkCanSpeak(t, append(bad, good), 0, 1, tick, 5 <= tick && tick < 8)
			checkCanSpeak(t, []impl.Contact{good, bad[0]}, 0, 1, tick, 5 <= tick && tick < 8)
		}
	}
	// The lesser one is A: one that is the greater one is never asked for.
	checkCanSpeak(t, []impl.Contact{contact(2, 1, 5, 8)}, 1, 2, 6, false)
	checkCanSpeak(t, []impl.Contact{contact(math.MaxInt, math.MinInt, 5, 8)}, math.MaxInt, math.MinInt, 6, false)
	checkCanSpeak(t, []impl.Contact{contact(2, 1, 5, 8), contact(1, 2, 6, 7)}, 1, 2, 6, true)
	checkCanSpeak(t, []impl.Contact{contact(2, 1, 5, 8), contact(1, 2, 6, 7)}, 1, 2, 5, false)
	for _, pair := range [][2]int{{1, 1}, {-1, 0}, {-2, -1}, {0, 0}, {-1, -1}, {50, 70}, {0, math.MaxInt}, {math.MinInt, 0}, {math.MinInt, math.MaxInt}, {math.MaxInt, math.MaxInt}} {
		l := []impl.Contact{contact(pair[0], pair[1], 5, 8)}
		checkCanSpeak(t, l, pair[0], pair[1], 4, false)
		checkCanSpeak(t, l, pair[0], pair[1], 5, true)
		checkCanSpeak(t, l, pair[0], pair[1], 7, true)
		checkCanSpeak(t, l, pair[0], pair[1], 8, false)
		checkCanSpeak(t, l, 1, 2, 5, false)
	}
	// Contacts that touch, overlap, are equal and lie in each other.
	overlapping := []impl.Contact{contact(0, 1, 5, 8), contact(0, 1, 7, 12), contact(0, 1, 12, 14), contact(0, 1, 20, 30), contact(0, 1, 22, 25), contact(0, 1, 20, 30), contact(0, 2, 14, 20)}
	for tick := range 40 {
		checkCanSpeak(t, overlapping, 0, 1, tick, 5 <= tick && tick < 14 || 20 <= tick && tick < 30)
		checkCanSpeak(t, overlapping, 0, 2, tick, 14 <= tick && tick < 20)
		checkCanSpeak(t, overlapping, 1, 2, tick, false)
	}
}

func TestContactTicks(t *testing.T) {
	cases := []struct {
		l    []impl.Contact
		want int
	}{
		{nil, 0}, {[]impl.Contact{}, 0}, {[]impl.Contact{{}}, 0},
		{[]impl.Contact{contact(0, 1, 5, 6)}, 1}, {[]impl.Contact{contact(0, 1, 5, 8)}, 3}, {[]impl.Contact{contact(0, 1, 0, maxTick)}, maxTick}, {[]impl.Contact{contact(0, 1, 0, 1), contact(2, 3, maxTick-1, maxTick)}, 2},
		// Overlapping ones count each.
		{[]impl.Contact{contact(0, 1, 5, 8), contact(0, 2, 5, 8)}, 6}, {[]impl.Contact{contact(0, 1, 5, 8), contact(0, 1, 5, 8)}, 6}, {[]impl.Contact{contact(0, 1, 5, 8), contact(0, 1, 7, 12)}, 8}, {[]impl.Contact{contact(0, 1, 5, 8), contact(0, 1, 8, 12)}, 7}, {[]impl.Contact{contact(0, 1, 5, 18), contact(0, 1, 8, 12), contact(0, 1, 20, 22)}, 19}, {[]impl.Contact{contact(2, 3, 50, 60), contact(0, 1, 8, 12)}, 14}, {[]impl.Contact{contact(0, 1, 0, maxTick), contact(0, 1, 0, maxTick), contact(0, 1, 0, maxTick)}, 3 * maxTick},
		// Nodes that are not valid, with a valid span.
		{[]impl.Contact{contact(1, 1, 5, 8)}, 3}, {[]impl.Contact{contact(2, 1, 5, 8)}, 3}, {[]impl.Contact{contact(-1, 1, 5, 8)}, 3}, {[]impl.Contact{contact(-5, -9, 5, 8)}, 3}, {[]impl.Contact{contact(math.MinInt, math.MaxInt, 5, 8)}, 3}, {[]impl.Contact{contact(math.MaxInt, math.MinInt, 5, 8), contact(0, 0, 0, 4), contact(99, 1000, 1, 2)}, 8},
		// Spans that are not valid.
		{[]impl.Contact{contact(0, 1, 5, 5)}, 0}, {[]impl.Contact{contact(0, 1, 8, 5)}, 0}, {[]impl.Contact{contact(0, 1, -1, 5)}, 0}, {[]impl.Contact{contact(0, 1, 5, maxTick+1)}, 0}, {[]impl.Contact{contact(0, 1, math.MinInt, math.MaxInt)}, 0}, {[]impl.Contact{contact(0, 1, math.MaxInt, math.MinInt)}, 0}, {[]impl.Contact{contact(0, 1, math.MaxInt, math.MinInt+4)}, 0}, {[]impl.Contact{contact(0, 1, 5, math.MinInt)}, 0}, {[]impl.Contact{contact(0, 1, math.MinInt, 5)}, 0},
		{[]impl.Contact{contact(0, 1, 8, 5), contact(0, 1, 5, 8), contact(0, 1, math.MinInt, math.MaxInt), contact(0, 1, 2, 3), contact(0, 1, -1, 9)}, 4},
	}
	for _, c := range cases {
		checkContactTicks(t, c.l, c.want)
	}
	all := append(contactsIn(0, 1, invalidSpans()), contactsIn(1, 0, invalidSpans())...)
	checkContactTicks(t, all, 0)
	checkContactTicks(t, append(all, contact(0, 1, 5, 8)), 3)
	checkContactTicks(t, slices.Concat([]impl.Contact{contact(0, 1, 5, 8)}, all, []impl.Contact{contact(3, 3, 0, 2)}, all), 5)
	checkContactTicks(t, slices.Repeat([]impl.Contact{contact(0, 1, 0, maxTick), contact(0, 1, 3, 2)}, 5000), 5000*maxTick)
}

// TestPlansAgreeWithTheirContacts asks for each pair of nodes and tick of a plan.
func TestPlansAgreeWithTheirContacts(t *testing.T) {
	for _, s := range []impl.Sky{acquiring(planSky(), 2), acquiring(silenceSky(), 1), calmSky()} {
		plan := impl.PlanOf(s, 3, 60)
		ticks := 0
		for a := range impl.NodesOf(s) {
			for b := range a {
				established := wantEstablished(s, a, b, 3, 60)
				for tick := -2; tick < 65; tick++ {
					if hasTick(established, tick) {
						ticks++
					}
					checkCanSpeak(t, plan, a, b, tick, hasTick(established, tick))
				}
			}
			checkCanSpeak(t, plan, a, a, 10, false)
		}
		checkContactTicks(t, plan, ticks)
	}
}

// TestContactsChangeNothing has lists that lie in the midst of known memory, and overwrites each result.
func TestContactsChangeNothing(t *testing.T) {
	s := acquiring(silenceSky(), 1)
	sats, sites, zones := guard(s.Sats, sat(77, 77)), guard(s.Sites, site(77, 77, 77)), guard(s.Zones, zone(77, arc(77, 77)))
	s.Sats, s.Sites, s.Zones = sats.slice, sites.slice, zones.slice
	calls := []func() []impl.Contact{
		func() []impl.Contact { return impl.ContactsOf(s, 0, 7, 0, 60) },
		func() []impl.Contact { return impl.ContactsOf(s, 7, 0, 0, 60) },
		func() []impl.Contact { return impl.ContactsOf(s, 0, 0, 0, 60) },
		func() []impl.Contact { return impl.ContactsOf(s, 0, 99, 0, 60) },
		func() []impl.Contact { return impl.PlanOf(s, 0, 60) },
		func() []impl.Contact { return impl.PlanOf(acquiring(s, 21), 0, 60) },
	}
	for i, call := range calls {
		first := call()
		kept := slices.Clone(first)
		fill(call(), contact(9, 9, 9, 9))
		if !slices.Equal(first, kept) || !slices.Equal(call(), kept) {
			t.Errorf("call %d returns memory of another result", i)
		}
	}
	if sats.changed() || sites.changed() || zones.changed() {
		t.Error("a list of a sky is changed")
	}
	type list = []impl.Contact
	plan := impl.PlanOf(s, 0, 60)
	wrong := list{contact(5, 2, 8, 3), contact(0, 1, 5, 8), contact(-1, 1, -5, 2000), contact(0, 1, 2, 6)}
	for _, content := range []list{plan, wrong, {}} {
		checkListCalls(t, contact(77, 77, 77, 77), contact(99, 99, 99, 99), []listCall[impl.Contact]{
			{"IsPlan", content, func(l list) list { impl.IsPlan(l, 9); return nil }},
			{"CanSpeak", content, func(l list) list { impl.CanSpeak(l, 1, 0, 5); impl.CanSpeak(l, 3, 9, 99); return nil }},
			{"ContactTicks", content, func(l list) list { impl.ContactTicks(l); return nil }},
		})
	}
}

// TestContactsIgnoreSpareCapacity cuts lists off before what would change each result.
func TestContactsIgnoreSpareCapacity(t *testing.T) {
	l := []impl.Contact{contact(0, 1, 5, 8), contact(0, 1, 7, 20), contact(3, 2, -1, 9)}[:1]
	checkIsPlan(t, l, 2, true)
	checkCanSpeak(t, l, 0, 1, 8, false)
	checkContactTicks(t, l, 3)
	s := calmSky()
	s.Sats, s.Sites, s.Zones = s.Sats[:2], s.Sites[:1], append(s.Zones, zone(0, anywhere()), zone(9, arc(0, 999)))[:2]
	want := spans(3, 40)
	checkPlanOf(t, s, 0, 40, slices.Concat(contactsIn(0, 1, want), contactsIn(0, 2, want), contactsIn(1, 2, want)))
	checkContacts(t, s, 0, 3, 0, 40, nil)
}
