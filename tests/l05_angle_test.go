package tests

import (
	"math"
	"math/big"
	"math/rand"
	"testing"

	"loop.example/g00599/impl"
)

const circle = impl.Circle

// The remainders of math.MaxInt and math.MinInt modulo Circle.
const (
	angleOfMaxInt = 7
	angleOfMinInt = 352
)

func arc(start int, width int) impl.Arc {
	return impl.Arc{Start: start, Width: width}
}

// numberSamples lie around each multiple of half a circle near 0, and at the ends of int's range and of ParseInt's.
func numberSamples() []int {
	samples := []int{impl.MaxValue, -impl.MaxValue, 1 << 32, -1 << 32, math.MaxInt / 2, math.MinInt / 2}
	for half := -6; half <= 6; half++ {
		for by := -2; by <= 2; by++ {
			samples = append(samples, half*circle/2+by)
		}
	}
	for by := range 5 {
		samples = append(samples, math.MaxInt-by, math.MinInt+by, math.MaxInt-circle-by, math.MinInt+circle+by)
	}
	return append(samples, 10, 45, 90, 350, -10, 355)
}

// widthSamples are the widths at which an arc becomes another kind of arc, and the others around them.
func widthSamples() []int {
	return []int{
		0, 1, 2, 5, 20, 90, 178, 179, 180, 181, 340, 357, circle - 2, circle - 1, circle, circle + 1, 2*circle - 1, 2 * circle, 400, 1000,
		-1, -2, -359, -circle, -circle - 1, impl.MaxValue, -impl.MaxValue, math.MaxInt, math.MaxInt - 1, math.MaxInt / 2, math.MinInt, math.MinInt + 1, math.MinInt / 2,
	}
}

func bySamples() []int {
	return []int{
		0, 1, 2, 5, 89, 90, 169, 170, 178, 179, 180, 181, 200, circle - 1, circle,
		circle + 1, 2 * circle, -1, -2, -180, -circle, math.MaxInt, math.MaxInt - 1, math.MaxInt/2 + 1, math.MinInt, math.MinInt + 1, math.MinInt / 2,
	}
}

func arcSamples() []impl.Arc {
	starts := []int{0, 1, 10, 179, 180, 181, 345, 350, circle - 1, circle, circle + 1, 725, -1, -10, -circle, -400, math.MaxInt, math.MaxInt - 1, math.MinInt, math.MinInt + 1}
	arcs := []impl.Arc{}
	for _, start := range starts {
		for _, width := range widthSamples() {
			arcs = append(arcs, arc(start, width))
		}
	}
	return arcs
}

// wantAngle reckons in big integers, whose Mod is never below 0.
func wantAngle(n int) int {
	return int(new(big.Int).Mod(big.NewInt(int64(n)), big.NewInt(360)).Int64())
}

// nextAngle and angleBefore are the only steps that the walks below take.
func nextAngle(a int) int {
	if a == 359 {
		return 0
	}
	return a + 1
}

func angleBefore(a int) int {
	if a == 0 {
		return 359
	}
	return a - 1
}

// wantGap walks from one angle both ways at once until one of the walks is at the other angle.
func wantGap(a int, b int) int {
	on, back, goal := wantAngle(a), wantAngle(a), wantAngle(b)
	gap := 0
	for on != goal && back != goal {
		on, back = nextAngle(on), angleBefore(back)
		gap++
	}
	return gap
}

// anglesIn is the document's definition: it walks from the start on, over as many degrees as the width, but not twice round.
func anglesIn(x impl.Arc) [360]bool {
	in := [360]bool{}
	a := wantAngle(x.Start)
	for n := 0; n <= x.Width && n < 360; n++ {
		in[a] = true
		a = nextAngle(a)
	}
	return in
}

// wantWider grows the arc by one degree at a time, at its start and then at its end.
func wantWider(x impl.Arc, by int) impl.Arc {
	wide := arc(wantAngle(x.Start), x.Width)
	if by < 0 || by > 360 || x.Width < 0 || x.Width > 359 {
		return wide
	}
	for range by {
		wide.Start = angleBefore(wide.Start)
		for range 2 {
			if wide.Width < 359 {
				wide.Width++
			}
		}
	}
	return wide
}

// wantMiddle walks on from the start by one degree for every second degree of the width.
func wantMiddle(x impl.Arc) int {
	a := wantAngle(x.Start)
	if x.Width < 0 || x.Width > 359 {
		return a
	}
	for n := 2; n <= x.Width; n += 2 {
		a = nextAngle(a)
	}
	return a
}

func checkGap(t *testing.T, a int, b int, want int) {
	t.Helper()
	if got := impl.GapOf(a, b); got != want {
		t.Errorf("GapOf(%d, %d) = %d, want %d", a, b, got, want)
	}
}

func checkMeet(t *testing.T, x impl.Arc, y impl.Arc, want bool, what ...any) {
	t.Helper()
	if got := impl.ArcsMeet(x, y); got != want {
		t.Errorf("ArcsMeet(%v, %v) = %t, want %t %v", x, y, got, want, what)
	}
}

func TestAngleOf(t *testing.T) {
	cases := []struct{ n, want int }{
		{0, 0}, {1, 1}, {179, 179}, {180, 180}, {181, 181}, {358, 358}, {359, 359},
		{360, 0}, {361, 1}, {400, 40}, {719, 359}, {720, 0}, {721, 1}, {3600, 0},
		{-1, 359}, {-2, 358}, {-10, 350}, {-180, 180}, {-359, 1}, {-360, 0}, {-361, 359}, {-719, 1}, {-720, 0}, {-721, 359},
		{impl.MaxValue, 280}, {-impl.MaxValue, 80},
		{math.MaxInt, angleOfMaxInt}, {math.MaxInt - 7, 0}, {math.MaxInt - 8, 359},
		{math.MinInt, angleOfMinInt}, {math.MinInt + 7, 359}, {math.MinInt + 8, 0},
	}
	for _, c := range cases {
		if got := impl.AngleOf(c.n); got != c.want {
			t.Errorf("AngleOf(%d) = %d, want %d", c.n, got, c.want)
		}
	}
	if circle != 360 {
		t.Errorf("Circle = %d, want 360", circle)
	}
	for _, n := range numberSamples() {
		if got := impl.AngleOf(n); got != wantAngle(n) {
			t.Errorf("AngleOf(%d) = %d, want %d", n, got, wantAngle(n))
		}
	}
}

func TestGapOf(t *testing.T) {
	cases := []struct{ a, b, want int }{
		{0, 0, 0}, {90, 90, 0}, {359, 359, 0}, {0, 1, 1}, {0, 359, 1}, {359, 0, 1}, {10, 350, 20}, {350, 10, 20}, {90, 270, 180},
		{0, 179, 179}, {0, 180, 180}, {0, 181, 179}, {0, 182, 178}, {100, 279, 179}, {100, 280, 180}, {100, 281, 179},
		{270, 89, 179}, {270, 90, 180}, {270, 91, 179}, {359, 178, 179}, {359, 179, 180}, {359, 180, 179},
		{0, 360, 0}, {5, 365, 0}, {5, -355, 0}, {5, 725, 0}, {5, -715, 0}, {359, -1, 0}, {0, -360, 0}, {-360, 360, 0},
		{-10, 10, 20}, {-10, 370, 20}, {-1, 1, 2}, {-90, 90, 180}, {-90, 91, 179}, {-90, 89, 179}, {361, 359, 2}, {540, 0, 180}, {541, 0, 179}, {539, 0, 179},
		{math.MaxInt, math.MaxInt, 0}, {math.MinInt, math.MinInt, 0}, {math.MaxInt, math.MinInt, 15}, {math.MaxInt, 7, 0}, {math.MinInt, 352, 0},
		{math.MaxInt, 0, 7}, {math.MinInt, 0, 8}, {math.MaxInt, -1, 8}, {math.MinInt, 1, 9}, {math.MaxInt, 187, 180}, {math.MinInt, 172, 180},
		{math.MaxInt, math.MaxInt - 180, 180}, {math.MinInt, math.MinInt + 181, 179}, {math.MaxInt, math.MaxInt - 360, 0}, {math.MinInt, math.MinInt + 360, 0},
	}
	for _, c := range cases {
		checkGap(t, c.a, c.b, c.want)
		checkGap(t, c.b, c.a, c.want)
	}
}

// TestGapOfGoesTheShorterWay has all pairs of angles, each also some rounds later and earlier.
func TestGapOfGoesTheShorterWay(t *testing.T) {
	for a := range circle {
		for b := range circle {
			want := wantGap(a, b)
			if want > 180 {
				t.Fatalf("the walk from %d to %d is %d long", a, b, want)
			}
			checkGap(t, a, b, want)
			checkGap(t, a+circle, b, want)
			checkGap(t, a-circle, b, want)
			checkGap(t, a, b+7*circle, want)
			checkGap(t, a, b-3*circle, want)
		}
	}
	for _, a := range numberSamples() {
		for _, b := range numberSamples() {
			checkGap(t, a, b, wantGap(a, b))
		}
	}
}

func TestInArc(t *testing.T) {
	cases := []struct {
		x    impl.Arc
		a    int
		want bool
	}{
		{arc(10, 5), 9, false}, {arc(10, 5), 10, true}, {arc(10, 5), 11, true}, {arc(10, 5), 14, true}, {arc(10, 5), 15, true}, {arc(10, 5), 16, false},
		{arc(10, 5), 370, true}, {arc(10, 5), 369, false}, {arc(10, 5), 375, true}, {arc(10, 5), 376, false}, {arc(10, 5), -350, true}, {arc(10, 5), -351, false}, {arc(10, 5), -345, true}, {arc(10, 5), -344, false},
		{arc(10, 0), 9, false}, {arc(10, 0), 10, true}, {arc(10, 0), 11, false}, {arc(0, 0), 0, true}, {arc(0, 0), 359, false}, {arc(0, 0), 360, true}, {arc(359, 0), 359, true}, {arc(359, 0), 0, false}, {arc(359, 0), -1, true},
		{arc(350, 20), 349, false}, {arc(350, 20), 350, true}, {arc(350, 20), 359, true}, {arc(350, 20), 0, true}, {arc(350, 20), 10, true}, {arc(350, 20), 11, false}, {arc(350, 20), 180, false}, {arc(350, 20), -5, true},
		{arc(350, 9), 359, true}, {arc(350, 9), 0, false}, {arc(350, 10), 0, true}, {arc(350, 10), 1, false}, {arc(0, 20), 359, false},
		{arc(10, 358), 8, true}, {arc(10, 358), 9, false}, {arc(10, 358), 10, true}, {arc(10, 359), 9, true}, {arc(0, 359), 359, true}, {arc(0, 359), 0, true}, {arc(1, 358), 0, false},
		{arc(10, 360), 9, true}, {arc(10, 360), 10, true}, {arc(10, 361), 200, true}, {arc(0, 400), 200, true}, {arc(10, 720), 9, true},
		{arc(10, math.MaxInt), 9, true}, {arc(10, math.MaxInt), 0, true}, {arc(math.MaxInt, math.MaxInt), 6, true}, {arc(math.MinInt, math.MaxInt), 351, true}, {arc(-1, math.MaxInt), math.MinInt, true},
		{arc(10, -1), 10, false}, {arc(10, -1), 9, false}, {arc(0, -1), 0, false}, {arc(0, -1), 359, false}, {arc(10, -5), 8, false}, {arc(10, -360), 10, false}, {arc(10, -359), 11, false},
		{arc(10, math.MinInt), 10, false}, {arc(10, math.MinInt), 200, false}, {arc(math.MinInt, math.MinInt), 352, false}, {arc(math.MaxInt, math.MinInt), 7, false}, {arc(10, math.MinInt+1), 10, false},
		{arc(-10, 20), 349, false}, {arc(-10, 20), 350, true}, {arc(-10, 20), 10, true}, {arc(-10, 20), 11, false}, {arc(-10, 20), -10, true}, {arc(-370, 20), 355, true}, {arc(-360, 1), 1, true}, {arc(-360, 1), 2, false},
		{arc(360, 5), 359, false}, {arc(360, 5), 0, true}, {arc(360, 5), 5, true}, {arc(360, 5), 6, false}, {arc(361, 5), 0, false}, {arc(730, 5), 10, true}, {arc(730, 5), 16, false},
		{arc(math.MaxInt, 2), 6, false}, {arc(math.MaxInt, 2), 7, true}, {arc(math.MaxInt, 2), 9, true}, {arc(math.MaxInt, 2), 10, false}, {arc(math.MaxInt, 2), 352, false}, {arc(math.MaxInt, 2), math.MaxInt, true}, {arc(math.MaxInt, 2), math.MinInt, false},
		{arc(math.MinInt, 2), 351, false}, {arc(math.MinInt, 2), 352, true}, {arc(math.MinInt, 2), 354, true}, {arc(math.MinInt, 2), 355, false}, {arc(math.MinInt, 15), math.MaxInt, true}, {arc(math.MinInt, 14), math.MaxInt, false}, {arc(math.MaxInt, 344), math.MinInt, false}, {arc(math.MaxInt, 345), math.MinInt, true},
		{arc(7, 0), math.MaxInt, true}, {arc(8, 0), math.MaxInt, false}, {arc(352, 0), math.MinInt, true}, {arc(353, 358), math.MinInt, false}, {arc(0, 7), math.MaxInt, true}, {arc(0, 6), math.MaxInt, false},
	}
	for _, c := range cases {
		if got := impl.InArc(c.x, c.a); got != c.want {
			t.Errorf("InArc(%v, %d) = %t, want %t", c.x, c.a, got, c.want)
		}
	}
}

// TestArcsHaveTheirAngles has all angles of each arc, also a round later and earlier.
func TestArcsHaveTheirAngles(t *testing.T) {
	for _, x := range arcSamples() {
		in := anglesIn(x)
		for a := -circle; a < 2*circle; a++ {
			if got := impl.InArc(x, a); got != in[wantAngle(a)] {
				t.Errorf("InArc(%v, %d) = %t", x, a, got)
			}
		}
		for _, a := range numberSamples() {
			if got := impl.InArc(x, a); got != in[wantAngle(a)] {
				t.Errorf("InArc(%v, %d) = %t", x, a, got)
			}
		}
	}
}

// TestFirstAndLastAngles has all arcs that leave out at least two angles, with those angles and the ones beside them.
func TestFirstAndLastAngles(t *testing.T) {
	for start := range circle {
		for width := range circle - 2 {
			x := arc(start, width)
			if !impl.InArc(x, start) || !impl.InArc(x, start+width) || impl.InArc(x, start-1) || impl.InArc(x, start+width+1) {
				t.Errorf("the ends of %v", x)
			}
		}
	}
}

func TestWidenArc(t *testing.T) {
	cases := []struct {
		x    impl.Arc
		by   int
		want impl.Arc
	}{
		{arc(350, 20), 5, arc(345, 30)}, {arc(350, 20), 200, arc(150, 359)}, {arc(10, 0), 1, arc(9, 2)}, {arc(0, 0), 1, arc(359, 2)}, {arc(3, 4), 10, arc(353, 24)}, {arc(359, 0), 20, arc(339, 40)},
		{arc(350, 20), 0, arc(350, 20)}, {arc(0, 0), 0, arc(0, 0)}, {arc(10, 359), 0, arc(10, 359)}, {arc(-10, 20), 0, arc(350, 20)}, {arc(360, 7), 0, arc(0, 7)},
		{arc(10, 0), 178, arc(192, 356)}, {arc(10, 0), 179, arc(191, 358)}, {arc(10, 0), 180, arc(190, 359)}, {arc(10, 0), 181, arc(189, 359)},
		{arc(10, 1), 178, arc(192, 357)}, {arc(10, 1), 179, arc(191, 359)}, {arc(10, 1), 180, arc(190, 359)}, {arc(10, 2), 179, arc(191, 359)},
		{arc(10, 19), 169, arc(201, 357)}, {arc(10, 19), 170, arc(200, 359)}, {arc(10, 19), 171, arc(199, 359)}, {arc(10, 20), 169, arc(201, 358)}, {arc(10, 20), 170, arc(200, 359)},
		{arc(10, 356), 1, arc(9, 358)}, {arc(10, 357), 1, arc(9, 359)}, {arc(10, 358), 1, arc(9, 359)}, {arc(10, 358), 0, arc(10, 358)},
		{arc(10, 359), 1, arc(9, 359)}, {arc(0, 359), 1, arc(359, 359)}, {arc(10, 359), 360, arc(10, 359)},
		{arc(10, 0), 359, arc(11, 359)}, {arc(10, 0), 360, arc(10, 359)}, {arc(359, 5), 360, arc(359, 359)}, {arc(-10, 5), 360, arc(350, 359)},
		{arc(350, 20), 361, arc(350, 20)}, {arc(10, 0), 361, arc(10, 0)}, {arc(10, 359), 361, arc(10, 359)}, {arc(10, 5), 720, arc(10, 5)}, {arc(-10, 20), 361, arc(350, 20)}, {arc(370, 20), 361, arc(10, 20)},
		{arc(350, 20), -1, arc(350, 20)}, {arc(350, 20), -5, arc(350, 20)}, {arc(350, 20), -360, arc(350, 20)}, {arc(-10, 20), -1, arc(350, 20)}, {arc(370, 0), -1, arc(10, 0)},
		{arc(350, 20), math.MaxInt, arc(350, 20)}, {arc(350, 20), math.MinInt, arc(350, 20)}, {arc(-10, 20), math.MaxInt, arc(350, 20)}, {arc(-10, 20), math.MinInt, arc(350, 20)}, {arc(350, 20), 1 << 62, arc(350, 20)}, {arc(350, 20), -1 << 62, arc(350, 20)},
		{arc(10, 360), 0, arc(10, 360)}, {arc(10, 360), 1, arc(10, 360)}, {arc(-10, 360), 1, arc(350, 360)}, {arc(10, 361), 5, arc(10, 361)}, {arc(370, 400), 5, arc(10, 400)}, {arc(10, 720), 360, arc(10, 720)},
		{arc(10, -1), 0, arc(10, -1)}, {arc(10, -1), 1, arc(10, -1)}, {arc(-10, -1), 5, arc(350, -1)}, {arc(10, -2), 1, arc(10, -2)}, {arc(10, -360), 360, arc(10, -360)}, {arc(360, -5), 5, arc(0, -5)},
		{arc(10, math.MaxInt), 1, arc(10, math.MaxInt)}, {arc(10, math.MinInt), 1, arc(10, math.MinInt)}, {arc(-10, math.MaxInt), 0, arc(350, math.MaxInt)}, {arc(-10, math.MinInt), 360, arc(350, math.MinInt)},
		{arc(10, 360), 361, arc(10, 360)}, {arc(-10, -1), -1, arc(350, -1)}, {arc(math.MinInt, math.MinInt), math.MinInt, arc(352, math.MinInt)}, {arc(math.MaxInt, math.MaxInt), math.MaxInt, arc(7, math.MaxInt)},
		{arc(-10, 20), 5, arc(345, 30)}, {arc(-370, 20), 5, arc(345, 30)}, {arc(360, 20), 5, arc(355, 30)}, {arc(725, 20), 5, arc(0, 30)}, {arc(-1, 0), 359, arc(0, 359)},
		{arc(math.MaxInt, 4), 5, arc(2, 14)}, {arc(math.MaxInt, 4), 8, arc(359, 20)}, {arc(math.MaxInt, 4), 0, arc(7, 4)}, {arc(math.MaxInt, 4), 361, arc(7, 4)},
		{arc(math.MinInt, 4), 5, arc(347, 14)}, {arc(math.MinInt, 4), 360, arc(352, 359)}, {arc(math.MinInt, 4), 0, arc(352, 4)}, {arc(math.MinInt, 4), -1, arc(352, 4)}, {arc(math.MinInt+4, 4), 5, arc(351, 14)},
	}
	for _, c := range cases {
		if got := impl.WidenArc(c.x, c.by); got != c.want {
			t.Errorf("WidenArc(%v, %d) = %v, want %v", c.x, c.by, got, c.want)
		}
	}
	for _, x := range arcSamples() {
		for _, by := range bySamples() {
			if got := impl.WidenArc(x, by); got != wantWider(x, by) {
				t.Errorf("WidenArc(%v, %d) = %v, want %v", x, by, got, wantWider(x, by))
			}
		}
	}
}

// TestWidenArcOfAllWidths has each width with each number of degrees, and some beyond.
func TestWidenArcOfAllWidths(t *testing.T) {
	for width := -2; width <= circle+2; width++ {
		for by := -2; by <= circle+2; by++ {
			x := arc(350, width)
			if got := impl.WidenArc(x, by); got != wantWider(x, by) {
				t.Errorf("WidenArc(%v, %d) = %v, want %v", x, by, got, wantWider(x, by))
			}
		}
	}
}

func TestArcsMeet(t *testing.T) {
	cases := []struct {
		what string
		x, y impl.Arc
		want bool
	}{
		{"one angle at the end", arc(10, 10), arc(20, 10), true}, {"one angle at both ends", arc(10, 180), arc(190, 180), true}, {"one angle at the end, of many and of one", arc(10, 10), arc(20, 0), true}, {"one angle at the start, of many and of one", arc(10, 10), arc(10, 0), true},
		{"side by side", arc(10, 10), arc(21, 10), false}, {"side by side at both ends", arc(10, 179), arc(190, 179), false}, {"behind the end", arc(10, 10), arc(21, 0), false}, {"before the start", arc(10, 10), arc(9, 0), false}, {"two of one angle side by side", arc(10, 0), arc(11, 0), false},
		{"apart", arc(10, 10), arc(100, 10), false}, {"opposite", arc(0, 0), arc(180, 0), false}, {"overlapping", arc(10, 10), arc(15, 10), true},
		{"one in the other", arc(10, 50), arc(20, 10), true}, {"one in the other from its start", arc(10, 50), arc(10, 10), true}, {"one in the other to its end", arc(10, 50), arc(50, 10), true},
		{"equal", arc(10, 20), arc(10, 20), true}, {"equal, of one angle", arc(10, 0), arc(10, 0), true}, {"equal, a round later", arc(10, 0), arc(370, 0), true}, {"equal, a round earlier", arc(10, 0), arc(-350, 0), true}, {"equal, over the last degree", arc(350, 20), arc(-10, 20), true},
		{"over the last degree, one angle at the end", arc(350, 20), arc(10, 0), true}, {"over the last degree, side by side", arc(350, 20), arc(11, 300), false}, {"over the last degree, one angle at the start", arc(350, 20), arc(11, 339), true}, {"over the last degree, side by side at both ends", arc(350, 20), arc(11, 338), false},
		{"the last and the first degree", arc(359, 0), arc(0, 0), false}, {"from the last to the first degree", arc(359, 1), arc(0, 0), true}, {"up to the last degree", arc(350, 9), arc(0, 10), false}, {"both over the last degree", arc(350, 20), arc(355, 30), true}, {"both end at the same one", arc(300, 70), arc(350, 20), true},
		{"over the last degree, one in the other", arc(340, 50), arc(0, 5), true}, {"over the last degree, one in the other before it", arc(340, 50), arc(345, 5), true}, {"two over the last degree that meet twice", arc(200, 250), arc(80, 130), true},
		{"all but one angle, and this one", arc(11, 358), arc(10, 0), false}, {"all but one angle, and the next one", arc(11, 358), arc(11, 0), true}, {"all but one angle, and the one before", arc(11, 358), arc(9, 0), true}, {"all but one angle, twice", arc(11, 358), arc(12, 358), true},
		{"the whole circle, 359 wide", arc(11, 359), arc(10, 0), true}, {"the whole circle, 360 wide", arc(11, 360), arc(10, 0), true}, {"the whole circle, 361 wide", arc(11, 361), arc(200, 5), true}, {"the whole circle twice", arc(0, 359), arc(180, 359), true}, {"the whole circle, as wide as int", arc(11, math.MaxInt), arc(10, 0), true}, {"the whole circle twice, as wide as int", arc(1, math.MaxInt), arc(math.MaxInt, math.MaxInt), true},
		{"no angle", arc(10, -1), arc(10, 5), false}, {"no angle in the middle", arc(12, -1), arc(10, 5), false}, {"no angle, -5 wide", arc(15, -5), arc(10, 5), false}, {"no angle and the whole circle", arc(10, -1), arc(0, 359), false}, {"no angle and more than the whole circle", arc(10, -1), arc(0, 400), false}, {"no angle and as wide as int", arc(10, -1), arc(10, math.MaxInt), false},
		{"no angle, a circle less", arc(10, -360), arc(10, 0), false}, {"no angle, least width", arc(10, math.MinInt), arc(10, 5), false}, {"no angle, least width, and the whole circle", arc(math.MinInt, math.MinInt), arc(0, math.MaxInt), false},
		{"neither has an angle", arc(10, -1), arc(10, -1), false}, {"neither has an angle, least width", arc(10, math.MinInt), arc(10, math.MinInt), false}, {"neither has an angle, apart", arc(10, -5), arc(50, -360), false},
		{"starts out of range", arc(-10, 20), arc(370, 0), true}, {"starts out of range, side by side", arc(-10, 20), arc(371, 0), false}, {"start at Circle", arc(360, 0), arc(0, 0), true}, {"start at Circle, side by side", arc(360, 0), arc(1, 0), false},
		{"start at the end of int", arc(math.MaxInt, 2), arc(9, 5), true}, {"start at the end of int, side by side", arc(math.MaxInt, 2), arc(10, 5), false}, {"start at the end of int, one angle at the start", arc(math.MaxInt, 2), arc(0, 7), true}, {"start at the end of int, side by side before", arc(math.MaxInt, 2), arc(0, 6), false},
		{"start at the beginning of int", arc(math.MinInt, 2), arc(354, 5), true}, {"start at the beginning of int, side by side", arc(math.MinInt, 2), arc(355, 5), false}, {"start at the beginning of int, one angle at the start", arc(math.MinInt, 2), arc(340, 12), true}, {"start at the beginning of int, side by side before", arc(math.MinInt, 2), arc(340, 11), false},
		{"both ends of int", arc(math.MinInt, 15), arc(math.MaxInt, 5), true}, {"both ends of int, side by side", arc(math.MinInt, 14), arc(math.MaxInt, 5), false}, {"the last number, and the first one", arc(math.MaxInt, 1), arc(math.MinInt, 0), false},
	}
	for _, c := range cases {
		checkMeet(t, c.x, c.y, c.want, c.what)
		checkMeet(t, c.y, c.x, c.want, c.what, "the other way")
	}
}

// TestArcsMeetWhereTheyShareAnAngle holds ArcsMeet against the angles of both arcs.
func TestArcsMeetWhereTheyShareAnAngle(t *testing.T) {
	arcs := arcSamples()
	random := rand.New(rand.NewSource(5))
	for range 300 {
		arcs = append(arcs, arc(random.Intn(3*circle)-circle, random.Intn(circle+4)-3))
	}
	sets := make([][360]bool, len(arcs))
	for i, x := range arcs {
		sets[i] = anglesIn(x)
	}
	for i, x := range arcs {
		for j, y := range arcs {
			shared := false
			for a := 0; a < 360 && !shared; a++ {
				shared = sets[i][a] && sets[j][a]
			}
			checkMeet(t, x, y, shared)
		}
	}
}

// TestArcsMeetAroundTheirEnds moves an arc of each width to where it begins to meet one that is fixed, and to where it ceases to.
func TestArcsMeetAroundTheirEnds(t *testing.T) {
	fixed := arc(340, 50) // from 340 to 30
	for width := range circle {
		// The angles from 31 to 339 fit an arc that is 308 wide.
		goesRound := width > 308
		checkMeet(t, fixed, arc(30, width), true)
		checkMeet(t, fixed, arc(31, width), goesRound)
		checkMeet(t, fixed, arc(339-width, width), goesRound)
		checkMeet(t, fixed, arc(340-width, width), true)
	}
}

func TestMiddleOf(t *testing.T) {
	cases := []struct {
		x    impl.Arc
		want int
	}{
		{arc(10, 0), 10}, {arc(10, 1), 10}, {arc(10, 2), 11}, {arc(10, 3), 11}, {arc(3, 4), 5}, {arc(3, 5), 5}, {arc(3, 6), 6}, {arc(0, 0), 0}, {arc(359, 0), 359},
		{arc(350, 20), 0}, {arc(350, 18), 359}, {arc(350, 19), 359}, {arc(350, 21), 0}, {arc(350, 22), 1}, {arc(359, 1), 359}, {arc(359, 2), 0}, {arc(359, 3), 0}, {arc(358, 3), 359},
		{arc(0, 180), 90}, {arc(0, 181), 90}, {arc(0, 358), 179}, {arc(0, 359), 179}, {arc(180, 359), 359}, {arc(181, 359), 0}, {arc(359, 359), 178}, {arc(182, 358), 1},
		{arc(10, 360), 10}, {arc(10, 361), 10}, {arc(10, 400), 10}, {arc(10, 720), 10}, {arc(350, 1000), 350}, {arc(-10, 360), 350}, {arc(370, 362), 10},
		{arc(10, -1), 10}, {arc(10, -2), 10}, {arc(10, -20), 10}, {arc(10, -360), 10}, {arc(0, -2), 0}, {arc(-10, -4), 350}, {arc(360, -1), 0},
		{arc(10, math.MaxInt), 10}, {arc(10, math.MinInt), 10}, {arc(-10, math.MaxInt), 350}, {arc(-10, math.MinInt), 350}, {arc(math.MaxInt, math.MaxInt), 7}, {arc(math.MinInt, math.MinInt), 352},
		{arc(-10, 20), 0}, {arc(-1, 2), 0}, {arc(-1, 1), 359}, {arc(-360, 4), 2}, {arc(-400, 100), 10}, {arc(360, 5), 2}, {arc(361, 0), 1}, {arc(725, 10), 10},
		{arc(math.MaxInt, 0), 7}, {arc(math.MaxInt, 2), 8}, {arc(math.MaxInt, 5), 9}, {arc(math.MaxInt, 359), 186}, {arc(math.MinInt, 0), 352}, {arc(math.MinInt, 14), 359}, {arc(math.MinInt, 16), 0}, {arc(math.MinInt, 17), 0},
	}
	for _, c := range cases {
		if got := impl.MiddleOf(c.x); got != c.want {
			t.Errorf("MiddleOf(%v) = %d, want %d", c.x, got, c.want)
		}
	}
	for _, x := range arcSamples() {
		if got := impl.MiddleOf(x); got != wantMiddle(x) {
			t.Errorf("MiddleOf(%v) = %d, want %d", x, got, wantMiddle(x))
		}
	}
	for start := range circle {
		for width := -3; width < circle+3; width++ {
			x := arc(start, width)
			if got := impl.MiddleOf(x); got != wantMiddle(x) {
				t.Errorf("MiddleOf(%v) = %d, want %d", x, got, wantMiddle(x))
			}
		}
	}
}
