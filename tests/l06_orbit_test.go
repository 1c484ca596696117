package tests

import (
	"math"
	"math/big"
	"math/rand"
	"testing"

	"loop.example/g00599/impl"
)

const maxSpeed = impl.MaxSpeed

// sat is a satellite of the plane 0 without an error.
func sat(phase int, speed int) impl.Sat {
	return impl.Sat{Phase: phase, Speed: speed}
}

func withError(s impl.Sat, degrees int) impl.Sat {
	s.Error = degrees
	return s
}

func speedSamples() []int {
	return []int{
		0, 1, 2, 7, 20, 45, 59, maxSpeed, -1, -2, -7, -20, -45, -59, -maxSpeed,
		maxSpeed + 1, -maxSpeed - 1, circle, -circle, math.MaxInt, math.MaxInt - 1, math.MinInt, math.MinInt + 1,
	}
}

func phaseSamples() []int {
	return []int{
		0, 1, 90, 180, 350, circle - 1, circle, circle + 1, 725, -1, -10, -circle, -725,
		math.MaxInt, math.MaxInt - 1, math.MaxInt - 60000, math.MaxInt - 59999, math.MinInt, math.MinInt + 1, math.MinInt + 60000, math.MinInt + 59999,
	}
}

// momentSamples are ticks that count, and ones beyond both ends.
func momentSamples() []int {
	return []int{
		0, 1, 2, 6, 17, 18, 359, 360, 361, 500, maxTick - 1, maxTick,
		maxTick + 1, maxTick + 2, 2000, -1, -2, -360, -maxTick, math.MaxInt, math.MaxInt - 1, math.MinInt, math.MinInt + 1,
	}
}

// wantPlace is the document's sum in big integers, wrapped around by hand.
func wantPlace(s impl.Sat, t int) int {
	if s.Speed < -60 || s.Speed > 60 || t < 0 || t > 1000 {
		return wantAngle(s.Phase)
	}
	half := new(big.Int).Lsh(big.NewInt(1), 63)
	sum := new(big.Int).Mul(big.NewInt(int64(s.Speed)), big.NewInt(int64(t)))
	sum.Add(sum, big.NewInt(int64(s.Phase)))
	if sum.Cmp(half) >= 0 {
		sum.Sub(sum, half)
		sum.Sub(sum, half)
	} else if sum.Cmp(new(big.Int).Neg(half)) < 0 {
		sum.Add(sum, half)
		sum.Add(sum, half)
	}
	return wantAngle(int(sum.Int64()))
}

// moved walks degree by degree.
func moved(a int, speed int) int {
	for range speed {
		a = nextAngle(a)
	}
	for range -speed {
		a = angleBefore(a)
	}
	return a
}

// wantFirst asks about each tick that counts whether it is in the range. The one number whose predecessor is above it is math.MinInt.
func wantFirst(s impl.Sat, x impl.Arc, from int, to int) int {
	in := anglesIn(x)
	for t := 0; t <= 1000; t++ {
		if from <= t && (t < to || to == math.MinInt) && in[wantPlace(s, t)] {
			return t
		}
	}
	return -1
}

// wantRound walks on until it stands where it began.
func wantRound(speed int) int {
	if speed < -60 || speed > 60 {
		return 1
	}
	ticks := 1
	for a := moved(0, speed); a != 0; a = moved(a, speed) {
		ticks++
	}
	return ticks
}

func checkPlace(t *testing.T, s impl.Sat, tick int, want int) {
	t.Helper()
	if got := impl.PlaceAt(s, tick); got != want {
		t.Errorf("PlaceAt(%+v, %d) = %d, want %d", s, tick, got, want)
	}
}

func checkPlaces(t *testing.T, s impl.Sat, tick int, want impl.Arc) {
	t.Helper()
	if got := impl.PlacesAt(s, tick); got != want {
		t.Errorf("PlacesAt(%+v, %d) = %v, want %v", s, tick, got, want)
	}
}

func checkFirst(t *testing.T, s impl.Sat, x impl.Arc, from int, to int, want int) {
	t.Helper()
	if got := impl.FirstAt(s, x, from, to); got != want {
		t.Errorf("FirstAt(%+v, %v, %d, %d) = %d, want %d", s, x, from, to, got, want)
	}
}

func checkRound(t *testing.T, s impl.Sat, want int) {
	t.Helper()
	if got := impl.RoundOf(s); got != want {
		t.Errorf("RoundOf(%+v) = %d, want %d", s, got, want)
	}
}

func TestIsSat(t *testing.T) {
	cases := []struct {
		what   string
		s      impl.Sat
		planes int
		want   bool
	}{
		{"least", impl.Sat{}, 1, true},
		{"greatest", impl.Sat{Plane: 3, Phase: 359, Speed: 60, Error: 20}, 4, true},
		{"greatest, backward", impl.Sat{Plane: 3, Phase: 359, Speed: -60, Error: 20}, 4, true},
		{"in between", impl.Sat{Plane: 1, Phase: 350, Speed: 20, Error: 2}, 3, true},
		{"more planes than a sky has", impl.Sat{Plane: 99}, 100, true},
		{"all planes of int", impl.Sat{Plane: math.MaxInt - 1}, math.MaxInt, true},
		{"last plane", impl.Sat{Plane: 1}, 2, true},
		{"plane after the last", impl.Sat{Plane: 2}, 2, false},
		{"plane far after the last", impl.Sat{Plane: math.MaxInt}, 2, false},
		{"plane after the last of int's", impl.Sat{Plane: math.MaxInt}, math.MaxInt, false},
		{"plane below 0", impl.Sat{Plane: -1}, 2, false},
		{"plane far below 0", impl.Sat{Plane: math.MinInt}, 2, false},
		{"plane below 0, all planes of int", impl.Sat{Plane: -1}, math.MaxInt, false},
		{"no plane", impl.Sat{}, 0, false},
		{"no plane, and below 0", impl.Sat{Plane: -1}, 0, false},
		{"fewer than no plane", impl.Sat{}, -1, false},
		{"fewer than no plane, and below 0", impl.Sat{Plane: -2}, -1, false},
		{"nearly as few planes as int has", impl.Sat{}, math.MinInt + 1, false},
		{"nearly as few planes as int has, and one of them", impl.Sat{Plane: math.MinInt}, math.MinInt + 1, false},
		{"one less than math.MinInt is math.MaxInt", impl.Sat{}, math.MinInt, true},
		{"one less than math.MinInt is math.MaxInt, the last plane", impl.Sat{Plane: math.MaxInt}, math.MinInt, true},
		{"one less than math.MinInt is math.MaxInt, below 0", impl.Sat{Plane: -1}, math.MinInt, false},
		{"one less than math.MinInt is math.MaxInt, far below 0", impl.Sat{Plane: math.MinInt}, math.MinInt, false},
		{"phase of a whole round", impl.Sat{Phase: 360}, 1, false},
		{"phase below 0", impl.Sat{Phase: -1}, 1, false},
		{"greatest phase", impl.Sat{Phase: math.MaxInt}, 1, false},
		{"least phase", impl.Sat{Phase: math.MinInt}, 1, false},
		{"too fast", impl.Sat{Speed: 61}, 1, false},
		{"too fast, backward", impl.Sat{Speed: -61}, 1, false},
		{"greatest speed", impl.Sat{Speed: math.MaxInt}, 1, false},
		{"least speed", impl.Sat{Speed: math.MinInt}, 1, false},
		{"too great an error", impl.Sat{Error: 21}, 1, false},
		{"error below 0", impl.Sat{Error: -1}, 1, false},
		{"greatest error", impl.Sat{Error: math.MaxInt}, 1, false},
		{"least error", impl.Sat{Error: math.MinInt}, 1, false},
		{"nothing right", impl.Sat{Plane: -1, Phase: -1, Speed: 61, Error: -1}, 1, false},
	}
	for _, c := range cases {
		if got := impl.IsSat(c.s, c.planes); got != c.want {
			t.Errorf("%s: IsSat(%+v, %d) = %t, want %t", c.what, c.s, c.planes, got, c.want)
		}
	}
	if impl.MaxSats != 8 || maxSpeed != 60 {
		t.Errorf("MaxSats = %d, MaxSpeed = %d, want 8 and 60", impl.MaxSats, maxSpeed)
	}
}

// TestIsSatAroundTheLimits changes one field of a valid satellite at a time, to all numbers around its limits.
func TestIsSatAroundTheLimits(t *testing.T) {
	for n := -2 * circle; n <= 2*circle; n++ {
		cases := []struct {
			s         impl.Sat
			low, high int
		}{
			{impl.Sat{Plane: n, Phase: 5, Speed: 5, Error: 5}, 0, 6},
			{impl.Sat{Plane: 3, Phase: n, Speed: 5, Error: 5}, 0, 359},
			{impl.Sat{Plane: 3, Phase: 5, Speed: n, Error: 5}, -60, 60},
			{impl.Sat{Plane: 3, Phase: 5, Speed: 5, Error: n}, 0, 20},
		}
		for _, c := range cases {
			want := c.low <= n && n <= c.high
			if got := impl.IsSat(c.s, 7); got != want {
				t.Errorf("IsSat(%+v, 7) = %t, want %t", c.s, got, want)
			}
		}
		if got := impl.IsSat(impl.Sat{Plane: 3}, n); got != (n > 3) {
			t.Errorf("IsSat of the plane 3 of %d = %t", n, got)
		}
	}
}

func TestPlaceAt(t *testing.T) {
	cases := []struct{ phase, speed, tick, want int }{
		{0, 0, 0, 0}, {0, 0, 1000, 0}, {90, 0, 0, 90}, {90, 0, 1, 90}, {90, 0, 1000, 90}, {359, 0, 7, 359}, {90, 0, 1001, 90}, {90, 0, -1, 90},
		{350, 20, 0, 350}, {350, 20, 1, 10}, {350, 20, 2, 30}, {350, 20, 17, 330}, {350, 20, 18, 350}, {350, 20, 999, 170}, {350, 20, 1000, 190},
		{0, 1, 359, 359}, {0, 1, 360, 0}, {0, 1, 361, 1}, {359, 1, 0, 359}, {359, 1, 1, 0}, {358, 1, 1, 359}, {0, 1, 1000, 280},
		{0, 60, 5, 300}, {0, 60, 6, 0}, {1, 60, 6, 1}, {300, 60, 1, 0}, {299, 60, 1, 359}, {301, 60, 1, 1}, {1, 60, 1000, 241}, {0, 59, 1000, 320},
		{10, -20, 0, 10}, {10, -20, 1, 350}, {10, -20, 2, 330}, {0, -1, 1, 359}, {1, -1, 1, 0}, {0, -1, 359, 1}, {0, -1, 360, 0}, {0, -1, 361, 359}, {0, -1, 1000, 80},
		{0, -60, 1, 300}, {59, -60, 1, 359}, {60, -60, 1, 0}, {61, -60, 1, 1}, {0, -60, 6, 0}, {0, -60, 1000, 120}, {0, -59, 1000, 40},
		{100, 61, 1, 100}, {100, -61, 1, 100}, {100, 61, 1000, 100}, {100, -61, 1000, 100}, {100, 360, 1, 100}, {100, math.MaxInt, 5, 100}, {100, math.MinInt, 5, 100}, {100, math.MaxInt, 0, 100}, {100, math.MinInt, 1000, 100},
		{350, 20, 1001, 350}, {350, 20, 1002, 350}, {350, 20, -1, 350}, {350, 20, -1000, 350}, {350, 20, math.MaxInt, 350}, {350, 20, math.MinInt, 350}, {350, -20, 1001, 350}, {350, -20, -1, 350}, {350, 60, math.MaxInt, 350}, {350, -60, math.MinInt, 350},
		{100, 61, 1001, 100}, {100, -61, -1, 100}, {100, math.MaxInt, math.MaxInt, 100}, {100, math.MinInt, math.MinInt, 100}, {100, math.MinInt, -1, 100}, {-100, math.MaxInt, math.MinInt, 260},
		{360, 0, 0, 0}, {360, 5, 1, 5}, {361, 5, 2, 11}, {725, -5, 2, 355}, {-1, 0, 0, 359}, {-1, 0, 1001, 359}, {-1, 61, 5, 359}, {-10, 20, 1, 10}, {-10, -20, 1, 330}, {-360, 1, 1000, 280}, {-725, 60, 1000, 235},
		{math.MaxInt, 0, 0, 7}, {math.MaxInt, 0, 1000, 7}, {math.MaxInt, 60, 0, 7}, {math.MaxInt, 61, 5, 7}, {math.MaxInt, 60, 1001, 7}, {math.MaxInt, -1, 1, 6}, {math.MaxInt, -60, 1000, 127}, {math.MaxInt - 60000, 60, 1000, 7},
		{math.MinInt, 0, 0, 352}, {math.MinInt, 0, 1000, 352}, {math.MinInt, -60, 0, 352}, {math.MinInt, -61, 5, 352}, {math.MinInt, -60, -1, 352}, {math.MinInt, 1, 1, 353}, {math.MinInt, 60, 1000, 232}, {math.MinInt + 60000, -60, 1000, 352},
		// The sum wraps around: after math.MaxInt comes math.MinInt.
		{math.MaxInt, 1, 1, 352}, {math.MaxInt, 1, 2, 353}, {math.MaxInt - 1, 1, 2, 352}, {math.MaxInt, 60, 1000, 231}, {math.MaxInt - 59999, 60, 1000, 352},
		{math.MinInt, -1, 1, 7}, {math.MinInt, -1, 2, 6}, {math.MinInt + 1, -1, 2, 7}, {math.MinInt, -60, 1000, 128}, {math.MinInt + 59999, -60, 1000, 7},
	}
	for _, c := range cases {
		checkPlace(t, sat(c.phase, c.speed), c.tick, c.want)
		// Neither the plane nor the error moves the place.
		checkPlace(t, impl.Sat{Plane: -1, Phase: c.phase, Speed: c.speed, Error: 200}, c.tick, c.want)
		checkPlace(t, impl.Sat{Plane: math.MaxInt, Phase: c.phase, Speed: c.speed, Error: math.MinInt}, c.tick, c.want)
	}
}

func TestPlaceAtByTheRule(t *testing.T) {
	for _, phase := range phaseSamples() {
		for _, speed := range speedSamples() {
			for _, tick := range momentSamples() {
				s := sat(phase, speed)
				checkPlace(t, s, tick, wantPlace(s, tick))
			}
		}
	}
}

// TestPlacesInARow has all speeds and all ticks; each place is reached from the one before it degree by degree.
func TestPlacesInARow(t *testing.T) {
	for _, phase := range []int{0, 1, 180, 350, circle - 1} {
		for speed := -maxSpeed; speed <= maxSpeed; speed++ {
			place := phase
			for tick := 0; tick <= maxTick; tick++ {
				checkPlace(t, sat(phase, speed), tick, place)
				place = moved(place, speed)
			}
		}
	}
}

func TestPlacesAt(t *testing.T) {
	cases := []struct {
		s    impl.Sat
		tick int
		want impl.Arc
	}{
		{sat(350, 20), 0, arc(350, 0)}, {sat(350, 20), 1, arc(10, 0)}, {sat(0, 0), 1000, arc(0, 0)}, {sat(359, 0), 5, arc(359, 0)},
		{withError(sat(350, 20), 2), 0, arc(348, 4)}, {withError(sat(350, 20), 2), 1, arc(8, 4)}, {withError(sat(350, 20), 2), 1000, arc(188, 4)},
		{withError(sat(350, 20), 20), 1, arc(350, 40)}, {withError(sat(350, 20), 20), 2, arc(10, 40)}, {withError(sat(350, 20), 21), 1, arc(349, 42)}, {withError(sat(10, -20), 20), 1, arc(330, 40)}, {withError(sat(10, -20), 20), 0, arc(350, 40)},
		{withError(sat(359, 1), 1), 0, arc(358, 2)}, {withError(sat(359, 1), 1), 1, arc(359, 2)}, {withError(sat(359, 1), 1), 2, arc(0, 2)}, {withError(sat(0, -1), 1), 0, arc(359, 2)}, {withError(sat(0, -1), 1), 1, arc(358, 2)}, {withError(sat(1, -1), 1), 0, arc(0, 2)},
		{withError(sat(90, 0), 178), 7, arc(272, 356)}, {withError(sat(90, 0), 179), 7, arc(271, 358)}, {withError(sat(90, 0), 180), 7, arc(270, 359)}, {withError(sat(90, 0), 181), 7, arc(269, 359)}, {withError(sat(90, 0), 359), 7, arc(91, 359)}, {withError(sat(90, 0), 360), 7, arc(90, 359)},
		{withError(sat(350, 20), 361), 1, arc(10, 0)}, {withError(sat(350, 20), 720), 1, arc(10, 0)}, {withError(sat(350, 20), -1), 1, arc(10, 0)}, {withError(sat(350, 20), -20), 1, arc(10, 0)}, {withError(sat(350, 20), -360), 1, arc(10, 0)},
		{withError(sat(350, 20), math.MaxInt), 1, arc(10, 0)}, {withError(sat(350, 20), math.MinInt), 1, arc(10, 0)}, {withError(sat(350, 20), 1<<62), 1, arc(10, 0)}, {withError(sat(350, 20), math.MinInt/2), 1, arc(10, 0)},
		{withError(sat(350, 20), 2), 1001, arc(348, 4)}, {withError(sat(350, 20), 2), -1, arc(348, 4)}, {withError(sat(350, 20), 2), math.MaxInt, arc(348, 4)}, {withError(sat(350, 20), 2), math.MinInt, arc(348, 4)},
		{withError(sat(350, 60), 2), 1000, arc(228, 4)}, {withError(sat(350, -60), 2), 1000, arc(108, 4)}, {withError(sat(350, 61), 2), 1, arc(348, 4)}, {withError(sat(350, -61), 2), 1, arc(348, 4)}, {withError(sat(350, math.MaxInt), 2), 1, arc(348, 4)}, {withError(sat(350, math.MinInt), 2), 1, arc(348, 4)},
		{withError(sat(360, 0), 2), 1, arc(358, 4)}, {withError(sat(-10, 20), 2), 1, arc(8, 4)}, {withError(sat(math.MaxInt, 0), 7), 1, arc(0, 14)}, {withError(sat(math.MinInt, 0), 10), 1, arc(342, 20)}, {withError(sat(math.MaxInt, 1), 10), 1, arc(342, 20)},
		{impl.Sat{Plane: -1, Phase: 350, Speed: 20, Error: 2}, 1, arc(8, 4)}, {impl.Sat{Plane: math.MaxInt, Phase: 350, Speed: 20, Error: 2}, 1, arc(8, 4)},
	}
	for _, c := range cases {
		checkPlaces(t, c.s, c.tick, c.want)
	}
	for _, phase := range phaseSamples() {
		for _, speed := range speedSamples() {
			for _, degrees := range append(bySamples(), 20, 21) {
				for _, tick := range momentSamples() {
					s := withError(sat(phase, speed), degrees)
					checkPlaces(t, s, tick, wantWider(arc(wantPlace(s, tick), 0), degrees))
				}
			}
		}
	}
}

// TestPlacesAreAllTruePlaces holds the angles of the arc against those that differ from the place by at most the error.
func TestPlacesAreAllTruePlaces(t *testing.T) {
	for degrees := range circle + 1 {
		for _, s := range []impl.Sat{withError(sat(350, 20), degrees), withError(sat(10, -7), degrees)} {
			for tick := range 3 {
				x, place := impl.PlacesAt(s, tick), wantPlace(s, tick)
				for a := range circle {
					if impl.InArc(x, a) != (wantGap(a, place) <= degrees) {
						t.Fatalf("PlacesAt(%+v, %d) = %v, and the angle %d", s, tick, x, a)
					}
				}
			}
		}
	}
}

func TestFirstAt(t *testing.T) {
	on := sat(350, 20) // at 350, 10, 30, 50 and so on, from the tick 18 on again
	back := sat(10, -20)
	still := sat(90, 0)
	far := arc(40, 20)
	// on is at 190 at the tick 1000, and 982, 964 and so on back to 10.
	last := arc(190, 0)
	cases := []struct {
		s              impl.Sat
		x              impl.Arc
		from, to, want int
	}{
		{on, far, 0, 99, 3}, {on, far, 3, 99, 3}, {on, far, 3, 4, 3}, {on, far, 0, 4, 3}, {on, far, 0, 3, -1}, {on, far, 2, 3, -1}, {on, far, 4, 99, 21}, {on, far, 5, 99, 21}, {on, far, 5, 22, 21}, {on, far, 5, 21, -1}, {on, far, 21, 22, 21}, {on, far, 22, 23, -1},
		{on, far, 3, 3, -1}, {on, far, 3, 2, -1}, {on, far, 3, 0, -1}, {on, far, 3, -1, -1}, {on, far, 99, 0, -1}, {on, arc(350, 0), 0, 0, -1}, {on, arc(350, 0), 0, 1, 0}, {on, arc(350, 0), 0, -1, -1},
		{on, arc(350, 0), 0, 1000, 0}, {on, arc(350, 0), 1, 1000, 18}, {on, arc(350, 0), -1, 1000, 0}, {on, arc(350, 0), -1, 0, -1}, {on, arc(350, 0), -1, 1, 0}, {on, arc(350, 0), -5, -1, -1}, {on, arc(350, 0), -1000, 1000, 0}, {on, arc(350, 0), math.MinInt, 1, 0}, {on, arc(350, 0), math.MinInt, 0, -1}, {on, arc(350, 0), math.MinInt + 1, 1000, 0}, {on, far, math.MinInt, 99, 3}, {on, far, -1, 99, 3},
		{on, last, 983, 999, -1}, {on, last, 983, 1000, -1}, {on, last, 983, 1001, 1000}, {on, last, 983, 1002, 1000}, {on, last, 983, math.MaxInt, 1000}, {on, last, 983, math.MaxInt - 1, 1000}, {on, last, 982, 1000, 982}, {on, last, 0, math.MaxInt, 10},
		{on, last, 1000, 1000, -1}, {on, last, 1000, 1001, 1000}, {on, last, 1000, 1002, 1000}, {on, last, 1000, math.MaxInt, 1000}, {on, last, 999, 1001, 1000}, {on, last, 1000, 999, -1}, {on, last, 1000, 0, -1},
		// A tick after MaxTick has the place of tick 0, but does not count.
		{on, arc(350, 0), 991, 1001, -1}, {on, arc(350, 0), 991, 1002, -1}, {on, arc(350, 0), 991, math.MaxInt, -1}, {on, arc(350, 0), 1001, 1002, -1}, {on, arc(350, 0), 1001, 1001, -1}, {on, arc(350, 0), 1001, 2000, -1}, {on, arc(0, 359), 1001, 2000, -1}, {on, arc(0, 359), 1001, math.MaxInt, -1}, {on, arc(0, 359), 1002, math.MaxInt, -1},
		{on, arc(0, 359), math.MaxInt, math.MaxInt, -1}, {on, arc(0, 359), math.MaxInt - 1, math.MaxInt, -1}, {on, arc(0, 359), math.MaxInt, 0, -1}, {on, arc(0, 359), math.MinInt, math.MaxInt, 0}, {on, arc(0, 359), math.MinInt, math.MinInt + 1, -1}, {on, arc(0, 359), 0, math.MinInt + 1, -1}, {on, arc(0, 359), -5, -3, -1},
		// One less than math.MinInt is math.MaxInt.
		{on, arc(0, 359), 0, math.MinInt, 0}, {on, far, 5, math.MinInt, 21}, {on, last, 983, math.MinInt, 1000}, {on, far, math.MinInt, math.MinInt, 3}, {on, arc(0, 359), 1001, math.MinInt, -1}, {on, arc(0, 359), math.MaxInt, math.MinInt, -1},
		{on, arc(41, 8), 0, 1001, -1}, {on, arc(351, 18), 0, 1001, -1}, {on, arc(351, 19), 0, 1001, 1}, {on, arc(350, 18), 0, 1001, 0}, {on, arc(31, 18), 0, 1001, -1}, {on, arc(31, 19), 0, 1001, 3}, {on, arc(30, 0), 0, 1001, 2},
		{on, arc(350, -1), 0, 1001, -1}, {on, arc(0, -1), 0, 1001, -1}, {on, arc(350, -360), 0, 1001, -1}, {on, arc(350, math.MinInt), 0, 1001, -1},
		{on, arc(0, 359), 0, 1001, 0}, {on, arc(0, 359), 7, 1001, 7}, {on, arc(200, 359), 7, 8, 7}, {on, arc(351, 359), 0, 1, 0}, {on, arc(0, 360), 500, 501, 500}, {on, arc(0, math.MaxInt), 1000, 1001, 1000}, {on, arc(351, 358), 0, 1001, 1},
		{on, arc(355, 20), 0, 1001, 1}, {on, arc(355, 14), 0, 1001, -1}, {on, arc(340, 30), 0, 1001, 0}, {on, arc(340, 30), 1, 1001, 1}, {on, arc(340, 30), 2, 1001, 18}, {on, arc(300, 40), 0, 1001, 16}, {on, arc(340, 10), 2, 1001, 18},
		{back, arc(340, 19), 0, 1001, 1}, {back, arc(0, 9), 0, 1001, -1}, {back, arc(0, 10), 0, 1001, 0}, {back, arc(0, 10), 1, 1001, 18}, {back, arc(355, 15), 1, 1001, 18}, {back, arc(345, 25), 1, 1001, 1}, {back, arc(30, 0), 0, 18, 17},
		{still, arc(90, 0), 0, 1001, 0}, {still, arc(90, 0), 5, 1001, 5}, {still, arc(90, 0), 1000, 1001, 1000}, {still, arc(90, 0), 1001, 1002, -1}, {still, arc(91, 358), 0, 1001, -1}, {still, arc(91, 359), 3, 1001, 3},
		{sat(0, 60), arc(301, 58), 0, 1001, -1}, {sat(0, 60), arc(300, 0), 0, 1001, 5}, {sat(0, -60), arc(300, 0), 0, 1001, 1}, {sat(0, -60), arc(60, 0), 0, 1001, 5}, {sat(0, 61), arc(61, 0), 0, 1001, -1}, {sat(0, 61), arc(0, 0), 5, 1001, 5}, {sat(0, -61), arc(299, 0), 0, 1001, -1}, {sat(0, math.MaxInt), arc(0, 0), 5, 9, 5}, {sat(0, math.MinInt), arc(0, 0), 5, 9, 5},
		{sat(0, 1), arc(359, 0), 0, 1001, 359}, {sat(0, 1), arc(359, 0), 0, 359, -1}, {sat(0, 1), arc(359, 0), 360, 1001, 719}, {sat(0, 1), arc(359, 0), 720, 1001, -1}, {sat(1, -1), arc(2, 0), 0, 1001, 359},
		{sat(360, 20), arc(20, 0), 0, 1001, 1}, {sat(-10, 20), far, 0, 99, 3}, {on, arc(-320, 20), 0, 99, 3}, {on, arc(400, 20), 0, 99, 3}, {sat(math.MaxInt, 0), arc(7, 0), 4, 9, 4}, {sat(math.MaxInt, 1), arc(352, 0), 0, 9, 1}, {sat(math.MinInt, -1), arc(math.MaxInt, 0), 0, 9, 1},
		// Neither the plane nor the error counts.
		{impl.Sat{Plane: -1, Phase: 350, Speed: 20, Error: 20}, far, 0, 99, 3}, {impl.Sat{Plane: math.MaxInt, Phase: 350, Speed: 20, Error: 180}, far, 0, 3, -1}, {withError(on, math.MinInt), arc(41, 8), 0, 1001, -1},
	}
	for _, c := range cases {
		checkFirst(t, c.s, c.x, c.from, c.to, c.want)
	}
}

// TestFirstAtOfManyRanges has ranges that begin and end on both sides of each limit.
func TestFirstAtOfManyRanges(t *testing.T) {
	ends := []int{0, 1, 2, 10, 18, 19, 500, 982, maxTick - 1, maxTick, maxTick + 1, maxTick + 2, 2000, -1, -2, -maxTick, math.MaxInt, math.MaxInt - 1, math.MinInt, math.MinInt + 1}
	arcs := []impl.Arc{arc(350, 0), arc(190, 0), arc(40, 20), arc(355, 20), arc(41, 8), arc(0, -1), arc(0, circle-1), arc(7, math.MaxInt), arc(7, math.MinInt)}
	for _, s := range []impl.Sat{sat(350, 20), sat(10, -20), sat(350, 0), sat(350, 61), sat(0, 1), sat(0, -59), sat(math.MaxInt, 1), sat(math.MinInt, -60)} {
		for _, x := range arcs {
			for _, from := range ends {
				for _, to := range ends {
					checkFirst(t, s, x, from, to, wantFirst(s, x, from, to))
				}
			}
		}
	}
}

func TestFirstAtOfManySats(t *testing.T) {
	random := rand.New(rand.NewSource(6))
	for range 3000 {
		s := sat(random.Intn(2*circle)-circle/2, random.Intn(2*maxSpeed+5)-maxSpeed-2)
		x := arc(random.Intn(2*circle)-circle/2, random.Intn(1+random.Intn(circle+2))-1)
		from := random.Intn(maxTick+40) - 20
		to := from + random.Intn(1+random.Intn(maxTick)) - 3
		checkFirst(t, s, x, from, to, wantFirst(s, x, from, to))
	}
}

func TestRoundOf(t *testing.T) {
	cases := []struct{ speed, want int }{
		{0, 1}, {1, 360}, {2, 180}, {3, 120}, {7, 360}, {8, 45}, {20, 18}, {24, 15}, {36, 10}, {40, 9}, {45, 8}, {48, 15}, {50, 36}, {54, 20}, {59, 360}, {60, 6},
		{-1, 360}, {-2, 180}, {-3, 120}, {-7, 360}, {-8, 45}, {-20, 18}, {-24, 15}, {-36, 10}, {-40, 9}, {-45, 8}, {-48, 15}, {-50, 36}, {-54, 20}, {-59, 360}, {-60, 6},
		{61, 1}, {-61, 1}, {62, 1}, {72, 1}, {-90, 1}, {180, 1}, {359, 1}, {360, 1}, {-360, 1}, {impl.MaxValue, 1}, {math.MaxInt, 1}, {math.MaxInt - 1, 1}, {math.MinInt, 1}, {math.MinInt + 1, 1},
	}
	for _, c := range cases {
		checkRound(t, sat(0, c.speed), c.want)
	}
	for speed := -maxSpeed - 5; speed <= maxSpeed+5; speed++ {
		// Where a round begins, and all else, does not change how long it is.
		for _, phase := range phaseSamples() {
			checkRound(t, sat(phase, speed), wantRound(speed))
		}
		checkRound(t, impl.Sat{Plane: -1, Phase: 5, Speed: speed, Error: 20}, wantRound(speed))
		checkRound(t, impl.Sat{Plane: math.MinInt, Phase: -5, Speed: speed, Error: math.MaxInt}, wantRound(speed))
	}
}

// TestSatsComeBackAfterTheirRound has all speeds and some beyond: after the round a satellite is where it was, whatever the tick, and after no lesser number of ticks.
func TestSatsComeBackAfterTheirRound(t *testing.T) {
	for speed := -maxSpeed - 3; speed <= maxSpeed+3; speed++ {
		for _, phase := range []int{0, 1, 181, circle - 1, 725, -10} {
			s := sat(phase, speed)
			round := impl.RoundOf(s)
			if round < 1 || round > circle {
				t.Fatalf("RoundOf(%+v) = %d", s, round)
			}
			for tick := 0; tick+round <= maxTick; tick++ {
				checkPlace(t, s, tick+round, impl.PlaceAt(s, tick))
			}
			for lesser := 1; lesser < round; lesser++ {
				if impl.PlaceAt(s, lesser) == impl.PlaceAt(s, 0) || impl.PlaceAt(s, 500+lesser) == impl.PlaceAt(s, 500) {
					t.Errorf("RoundOf(%+v) = %d, but it is back after %d", s, round, lesser)
				}
			}
			// The first tick of the next round at the same place, and none before.
			start := arc(impl.PlaceAt(s, 0), 0)
			checkFirst(t, s, start, 1, maxTick, round)
			checkFirst(t, s, start, 1, round, -1)
		}
	}
}
