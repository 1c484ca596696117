package tests

import (
	"math"
	"math/rand"
	"slices"
	"testing"

	"loop.example/g00599/impl"
)

const maxTick = impl.MaxTick

func span(from int, to int) impl.Span {
	return impl.Span{From: from, To: to}
}

// spans makes a list of pairs of From and To.
func spans(ends ...int) []impl.Span {
	l := []impl.Span{}
	for i := 0; i < len(ends); i += 2 {
		l = append(l, span(ends[i], ends[i+1]))
	}
	return l
}

// invalidSpans are spans beyond each limit, by one and by as much as there is, and ones without a tick.
func invalidSpans() []impl.Span {
	return spans(
		-1, 1, -1, 0, -1, maxTick, -1, maxTick+1, -64, 64, math.MinInt, 5, math.MinInt, maxTick, math.MinInt+1, 0,
		0, maxTick+1, maxTick-1, maxTick+1, 5, maxTick+1, maxTick, maxTick+1, 0, 1024, 5, math.MaxInt, 0, math.MaxInt, 0, math.MaxInt-1, maxTick, math.MaxInt,
		0, 0, 1, 1, 5, 5, maxTick-1, maxTick-1, maxTick, maxTick, -1, -1, maxTick+1, maxTick+1,
		1, 0, 6, 5, 7, 2, maxTick, 0, maxTick, maxTick-1, maxTick+1, maxTick, 5, -1, 0, -1, maxTick, -5,
		math.MinInt, math.MaxInt, math.MaxInt, math.MinInt, math.MinInt, math.MinInt, math.MaxInt, math.MaxInt,
		math.MinInt, math.MinInt+1, math.MaxInt-1, math.MaxInt, math.MaxInt, 5, math.MaxInt, 0, 5, math.MinInt, 0, math.MinInt, math.MinInt, 0,
	)
}

func tickSamples() []int {
	samples := []int{math.MinInt, math.MinInt + 1, math.MaxInt, math.MaxInt - 1, -impl.MaxValue, impl.MaxValue, -1000, 2000, 1 << 32, -1 << 32}
	for t := -130; t <= maxTick+130; t++ {
		samples = append(samples, t)
	}
	return samples
}

// spanLists are lists of every kind that the document tells apart.
func spanLists() [][]impl.Span {
	return [][]impl.Span{
		nil, {}, invalidSpans(),
		spans(0, 1), spans(maxTick-1, maxTick), spans(0, maxTick), spans(5, 8), spans(500, 501),
		spans(5, 8, 8, 10), spans(8, 10, 5, 8), spans(5, 8, 9, 10), spans(9, 10, 5, 8),
		spans(5, 8, 6, 10), spans(6, 10, 5, 8), spans(5, 10, 6, 8), spans(6, 8, 5, 10),
		spans(5, 8, 5, 8), spans(5, 8, 5, 10), spans(7, 10, 5, 10),
		spans(0, 1, 1, 2, 2, 3), spans(2, 3, 0, 1, 1, 2), spans(0, 1, 2, 3, 1, 2),
		spans(0, 500, 500, maxTick), spans(0, 500, 501, maxTick), spans(0, 1, maxTick-1, maxTick),
		spans(0, 64, 64, 128, 129, 192, 191, 193), spans(63, 64, 64, 65, 127, 129, 959, 960, 960, 961), spans(62, 66), spans(0, 63, 65, 128),
		spans(20, 22, 5, 8, 8, 10, 7, 6, 2, 3, 990, 1001), spans(0, 6, 9, 21), spans(5, 10, -1, 7, 9, 1001),
		slices.Concat(invalidSpans(), spans(30, 40, 3, 4, 40, 41), invalidSpans()),
	}
}

// randomSpans has valid spans and others, short and long, wide apart or all within a small part of the ticks.
func randomSpans(random *rand.Rand) []impl.Span {
	low := random.Intn(maxTick+40) - 20
	wide := 1 + random.Intn(1+random.Intn(maxTick))
	l := make([]impl.Span, random.Intn(12))
	for i := range l {
		l[i].From = low + random.Intn(wide)
		l[i].To = l[i].From + random.Intn(2+wide/2) - random.Intn(2)
	}
	return l
}

// hasTick is the document's definition: there is a valid span of l with the tick t.
func hasTick(l []impl.Span, t int) bool {
	return slices.ContainsFunc(l, func(s impl.Span) bool {
		return 0 <= s.From && s.From < s.To && s.To <= 1000 && s.From <= t && t < s.To
	})
}

// wantSpans goes over all ticks and beyond, and begins and ends a span wherever the answer changes.
func wantSpans(has func(t int) bool) []impl.Span {
	l := []impl.Span{}
	from, inside := 0, false
	for t := -1; t <= 1001; t++ {
		if now := has(t); now != inside {
			if !now {
				l = append(l, span(from, t))
			}
			from, inside = t, now
		}
	}
	return l
}

func wantJoined(l []impl.Span) []impl.Span {
	return wantSpans(func(t int) bool { return hasTick(l, t) })
}

// wantShortened walks each span tick by tick from both of its ends, without sums of start and end.
func wantShortened(l []impl.Span, start int, end int) []impl.Span {
	short := []impl.Span{}
	if start < 0 || end < 0 {
		return short
	}
	for _, s := range wantJoined(l) {
		for n := 0; n < start && s.From < s.To; n++ {
			s.From++
		}
		for n := 0; n < end && s.From < s.To; n++ {
			s.To--
		}
		if s.From < s.To {
			short = append(short, s)
		}
	}
	return short
}

func checkSpans(t *testing.T, got []impl.Span, want []impl.Span, call string, args ...any) {
	t.Helper()
	if !slices.Equal(got, want) {
		t.Errorf("%s of %v = %v, want %v", call, args, got, want)
	}
}

func TestIsSpan(t *testing.T) {
	valid := spans(0, 1, 0, 2, 0, maxTick-1, 0, maxTick, 1, 2, 5, 8, 63, 64, 64, 65, 500, 501, maxTick-2, maxTick, maxTick-2, maxTick-1, maxTick-1, maxTick)
	for _, s := range valid {
		if !impl.IsSpan(s) {
			t.Errorf("IsSpan(%v) = false, want true", s)
		}
	}
	for _, s := range invalidSpans() {
		if impl.IsSpan(s) {
			t.Errorf("IsSpan(%v) = true, want false", s)
		}
	}
	if impl.MaxTick != 1000 {
		t.Errorf("MaxTick = %d, want 1000", impl.MaxTick)
	}
}

// TestIsSpanAroundTheLimits has all pairs of ends near 0 and near MaxTick.
func TestIsSpanAroundTheLimits(t *testing.T) {
	ends := []int{-3, -2, -1, 0, 1, 2, 3, 500, 997, 998, 999, 1000, 1001, 1002, 1003}
	for i, from := range ends {
		for j, to := range ends {
			want := i >= 3 && j < 12 && i < j
			if got := impl.IsSpan(span(from, to)); got != want {
				t.Errorf("IsSpan(%d to %d) = %t, want %t", from, to, got, want)
			}
		}
	}
}

func TestInSpan(t *testing.T) {
	cases := []struct {
		s    impl.Span
		t    int
		want bool
	}{
		{span(5, 8), 4, false}, {span(5, 8), 5, true}, {span(5, 8), 6, true}, {span(5, 8), 7, true}, {span(5, 8), 8, false}, {span(5, 8), 9, false},
		{span(5, 6), 4, false}, {span(5, 6), 5, true}, {span(5, 6), 6, false},
		{span(0, 1), -1, false}, {span(0, 1), 0, true}, {span(0, 1), 1, false},
		{span(maxTick-1, maxTick), maxTick - 2, false}, {span(maxTick-1, maxTick), maxTick - 1, true}, {span(maxTick-1, maxTick), maxTick, false}, {span(maxTick-1, maxTick), maxTick + 1, false},
		{span(0, maxTick), -1, false}, {span(0, maxTick), 0, true}, {span(0, maxTick), maxTick - 1, true}, {span(0, maxTick), maxTick, false},
		{span(0, maxTick), math.MinInt, false}, {span(0, maxTick), math.MaxInt, false}, {span(5, 8), math.MinInt, false}, {span(5, 8), math.MaxInt, false},
		{span(-1, 8), 3, false}, {span(-1, 8), -1, false}, {span(-1, 8), 0, false}, {span(5, maxTick+1), 7, false}, {span(5, maxTick+1), maxTick, false},
		{span(5, 5), 5, false}, {span(5, 5), 4, false}, {span(8, 5), 6, false}, {span(8, 5), 5, false}, {span(8, 5), 8, false},
		{span(math.MinInt, math.MaxInt), 0, false}, {span(math.MinInt, 5), math.MinInt, false}, {span(0, math.MaxInt), math.MaxInt - 1, false},
		{span(math.MaxInt, math.MinInt), 0, false}, {span(math.MinInt, math.MinInt), math.MinInt, false},
	}
	for _, c := range cases {
		if got := impl.InSpan(c.s, c.t); got != c.want {
			t.Errorf("InSpan(%v, %d) = %t, want %t", c.s, c.t, got, c.want)
		}
	}
	for _, l := range spanLists() {
		for _, s := range l {
			for _, tick := range tickSamples() {
				if got := impl.InSpan(s, tick); got != hasTick([]impl.Span{s}, tick) {
					t.Errorf("InSpan(%v, %d) = %t", s, tick, got)
				}
			}
		}
	}
}

func TestInSpans(t *testing.T) {
	cases := []struct {
		l    []impl.Span
		t    int
		want bool
	}{
		{nil, 0, false}, {nil, -1, false}, {nil, math.MinInt, false}, {[]impl.Span{}, 0, false}, {[]impl.Span{}, maxTick, false},
		{invalidSpans(), 0, false}, {invalidSpans(), 5, false}, {invalidSpans(), -1, false}, {invalidSpans(), maxTick, false}, {invalidSpans(), math.MinInt, false},
		{spans(5, 8, 8, 10), 4, false}, {spans(5, 8, 8, 10), 7, true}, {spans(5, 8, 8, 10), 8, true}, {spans(5, 8, 8, 10), 9, true}, {spans(5, 8, 8, 10), 10, false},
		{spans(5, 8, 9, 10), 8, false}, {spans(9, 10, 5, 8), 5, true}, {spans(9, 10, 5, 8), 9, true}, {spans(9, 10, 5, 8), 8, false},
		{spans(-1, 8, 5, 6), 5, true}, {spans(-1, 8, 5, 6), 6, false}, {spans(5, 6, 0, maxTick+1), 6, false}, {spans(7, 6, 5, 6), 5, true},
		{spans(0, maxTick), -1, false}, {spans(0, maxTick), 0, true}, {spans(0, maxTick), maxTick - 1, true}, {spans(0, maxTick), maxTick, false},
		{spans(0, maxTick), math.MinInt, false}, {spans(0, maxTick), math.MaxInt, false},
	}
	for _, c := range cases {
		if got := impl.InSpans(c.l, c.t); got != c.want {
			t.Errorf("InSpans(%v, %d) = %t, want %t", c.l, c.t, got, c.want)
		}
	}
	for _, l := range spanLists() {
		for _, tick := range tickSamples() {
			if got := impl.InSpans(l, tick); got != hasTick(l, tick) {
				t.Errorf("InSpans(%v, %d) = %t", l, tick, got)
			}
		}
	}
}

func TestJoinSpans(t *testing.T) {
	cases := []struct {
		what    string
		l, want []impl.Span
	}{
		{"nil", nil, nil}, {"empty", []impl.Span{}, nil}, {"none valid", invalidSpans(), nil},
		{"one", spans(5, 8), spans(5, 8)}, {"all ticks", spans(0, maxTick), spans(0, maxTick)},
		{"the first tick", spans(0, 1), spans(0, 1)}, {"the last tick", spans(maxTick-1, maxTick), spans(maxTick-1, maxTick)},
		{"touching", spans(5, 8, 8, 10), spans(5, 10)}, {"touching, out of order", spans(8, 10, 5, 8), spans(5, 10)},
		{"three touching", spans(8, 9, 9, 10, 5, 8), spans(5, 10)}, {"the gap filled last", spans(5, 8, 9, 10, 8, 9), spans(5, 10)},
		{"a gap of one tick", spans(5, 8, 9, 10), spans(5, 8, 9, 10)}, {"out of order", spans(9, 10, 5, 8), spans(5, 8, 9, 10)},
		{"overlapping", spans(5, 8, 7, 10), spans(5, 10)}, {"overlapping, out of order", spans(7, 10, 5, 8), spans(5, 10)},
		{"one in the other", spans(5, 10, 6, 8), spans(5, 10)}, {"one in the other, out of order", spans(6, 8, 5, 10), spans(5, 10)},
		{"the same From", spans(5, 8, 5, 10), spans(5, 10)}, {"the same To", spans(7, 10, 5, 10), spans(5, 10)},
		{"equal", spans(5, 8, 5, 8, 5, 8), spans(5, 8)},
		{"one that covers many", spans(1, 2, 3, 4, 5, 6, 0, 10), spans(0, 10)}, {"one that bridges two", spans(1, 3, 7, 9, 2, 8), spans(1, 9)},
		{"touching at 500 of all", spans(500, maxTick, 0, 500), spans(0, maxTick)}, {"both ends", spans(maxTick-1, maxTick, 0, 1), spans(0, 1, maxTick-1, maxTick)},
		{"touching at 64", spans(0, 64, 64, 128), spans(0, 128)}, {"a gap at 64", spans(0, 64, 65, 128), spans(0, 64, 65, 128)},
		{"invalid in between", spans(5, 8, 7, 6, 4, 4, -1, 9, 0, maxTick+1, 8, 10), spans(5, 10)},
		{"invalid ones bridge nothing", spans(5, 8, -1, 10, 9, 10, 8, maxTick+1, 9, 8), spans(5, 8, 9, 10)},
		{"invalid ones touch nothing", spans(0, 1, -1, 0, maxTick-1, maxTick, maxTick, maxTick+1, 1, 1), spans(0, 1, maxTick-1, maxTick)},
		{"mixed", spans(5, 8, 20, 22, 8, 10, 7, 6, 2, 3, 990, 1001), spans(2, 3, 5, 10, 20, 22)},
	}
	for _, c := range cases {
		checkSpans(t, impl.JoinSpans(c.l), c.want, "JoinSpans", c.what, c.l)
	}
}

func TestMeetSpans(t *testing.T) {
	cases := []struct {
		what       string
		a, b, want []impl.Span
	}{
		{"nothing", nil, nil, nil}, {"nil and all", nil, spans(0, maxTick), nil}, {"empty and all", []impl.Span{}, spans(0, maxTick), nil},
		{"none valid and all", invalidSpans(), spans(0, maxTick), nil}, {"none valid twice", invalidSpans(), invalidSpans(), nil},
		{"all and one", spans(0, maxTick), spans(5, 8), spans(5, 8)}, {"all twice", spans(0, maxTick), spans(0, maxTick), spans(0, maxTick)},
		{"equal", spans(5, 8), spans(5, 8), spans(5, 8)}, {"one in the other", spans(5, 10), spans(6, 8), spans(6, 8)},
		{"overlapping", spans(5, 8), spans(7, 10), spans(7, 8)}, {"touching", spans(5, 8), spans(8, 10), nil},
		{"apart", spans(5, 8), spans(9, 10), nil},
		{"touching in one list", spans(5, 8, 8, 10), spans(6, 9), spans(6, 9)}, {"touching in both", spans(5, 8, 8, 10), spans(10, 12, 8, 10, 6, 8), spans(6, 10)},
		{"what meets may touch", spans(0, 5, 5, 9), spans(3, 5, 5, 7), spans(3, 7)},
		{"a gap in the other", spans(5, 10), spans(4, 7, 8, 11), spans(5, 7, 8, 10)}, {"twice in one list only", spans(5, 8, 5, 8, 6, 7), spans(20, 30), nil},
		{"out of order", spans(20, 30, 5, 10), spans(25, 40, 0, 7), spans(5, 7, 25, 30)},
		{"invalid in both", spans(-1, 8, 5, 6), spans(-1, 8, 5, 7), spans(5, 6)}, {"invalid in one", spans(0, maxTick+1), spans(5, 7), nil},
		{"the ends", spans(0, 1, maxTick-1, maxTick), spans(0, maxTick), spans(0, 1, maxTick-1, maxTick)},
		{"mixed", spans(5, 8, 20, 22, 8, 10, 7, 6, 2, 3, 990, 1001), spans(0, 6, 9, 21), spans(2, 3, 5, 6, 9, 10, 20, 21)},
	}
	for _, c := range cases {
		checkSpans(t, impl.MeetSpans(c.a, c.b), c.want, "MeetSpans", c.what, c.a, c.b)
		checkSpans(t, impl.MeetSpans(c.b, c.a), c.want, "MeetSpans the other way", c.what, c.b, c.a)
	}
}

func TestCutSpans(t *testing.T) {
	cases := []struct {
		what       string
		a, b, want []impl.Span
	}{
		{"nothing", nil, nil, nil}, {"nil by all", nil, spans(0, maxTick), nil}, {"all by nil", spans(0, maxTick), nil, spans(0, maxTick)},
		{"all by empty", spans(0, maxTick), []impl.Span{}, spans(0, maxTick)}, {"all by none valid", spans(0, maxTick), invalidSpans(), spans(0, maxTick)},
		{"none valid by all", invalidSpans(), spans(0, maxTick), nil}, {"none valid by nil", invalidSpans(), nil, nil}, {"none valid twice", invalidSpans(), invalidSpans(), nil},
		{"equal", spans(5, 8), spans(5, 8), nil}, {"all twice", spans(0, maxTick), spans(0, maxTick), nil},
		{"all by one", spans(0, maxTick), spans(5, 8), spans(0, 5, 8, maxTick)}, {"one by all", spans(5, 8), spans(0, maxTick), nil},
		{"the middle", spans(5, 10), spans(6, 8), spans(5, 6, 8, 10)}, {"the beginning", spans(5, 10), spans(4, 6), spans(6, 10)},
		{"the end", spans(5, 10), spans(9, 11), spans(5, 9)}, {"by one that has it within", spans(6, 8), spans(5, 10), nil},
		{"touching before", spans(5, 8), spans(2, 5), spans(5, 8)}, {"touching behind", spans(5, 8), spans(8, 10), spans(5, 8)},
		{"touching on both sides", spans(5, 8), spans(8, 10, 2, 5), spans(5, 8)}, {"apart", spans(5, 8), spans(9, 10), spans(5, 8)},
		{"touching in the first", spans(8, 10, 5, 8), nil, spans(5, 10)}, {"across where they touch", spans(5, 8, 8, 10), spans(7, 9), spans(5, 7, 9, 10)},
		{"all but where they touch", spans(5, 8, 8, 10), spans(0, 7, 9, 20), spans(7, 9)}, {"by touching ones", spans(5, 10), spans(6, 7, 7, 9), spans(5, 6, 9, 10)},
		{"twice in the first", spans(5, 8, 6, 9, 5, 8), spans(6, 7), spans(5, 6, 7, 9)}, {"out of order", spans(20, 30, 5, 10), spans(25, 40, 0, 7), spans(7, 10, 20, 25)},
		{"by an invalid one", spans(5, 8), spans(-1, 6, 7, maxTick+1, 8, 5, 6, 6), spans(5, 8)}, {"an invalid one", spans(-1, 8, 5, maxTick+1, 5, 7), spans(6, 7), spans(5, 6)},
		{"the ends", spans(0, maxTick), spans(0, 1, maxTick-1, maxTick), spans(1, maxTick-1)}, {"all but the ends", spans(0, maxTick), spans(1, maxTick-1), spans(0, 1, maxTick-1, maxTick)},
		{"mixed", spans(5, 8, 20, 22, 8, 10, 7, 6, 2, 3, 990, 1001), spans(0, 6, 9, 21), spans(6, 9, 21, 22)},
	}
	for _, c := range cases {
		checkSpans(t, impl.CutSpans(c.a, c.b), c.want, "CutSpans", c.what, c.a, c.b)
	}
}

func TestTicksOf(t *testing.T) {
	cases := []struct {
		what string
		l    []impl.Span
		want int
	}{
		{"nil", nil, 0}, {"empty", []impl.Span{}, 0}, {"none valid", invalidSpans(), 0},
		{"one tick", spans(5, 6), 1}, {"three ticks", spans(5, 8), 3}, {"all", spans(0, maxTick), maxTick}, {"the ends", spans(0, 1, maxTick-1, maxTick), 2},
		{"touching", spans(5, 8, 8, 10), 5}, {"apart", spans(5, 8, 9, 10), 4}, {"overlapping", spans(5, 8, 7, 10), 5},
		{"one in the other", spans(5, 10, 6, 8), 5}, {"equal", spans(5, 8, 5, 8), 3}, {"all twice", spans(0, maxTick, 0, maxTick), maxTick},
		{"invalid among them", spans(5, 8, 7, 6, -1, 20, 990, 1001, 4, 4), 3},
		{"mixed", spans(5, 8, 20, 22, 8, 10, 7, 6, 2, 3, 990, 1001), 8},
	}
	for _, c := range cases {
		if got := impl.TicksOf(c.l); got != c.want {
			t.Errorf("TicksOf(%s: %v) = %d, want %d", c.what, c.l, got, c.want)
		}
	}
}

func TestShortenSpans(t *testing.T) {
	l := spans(20, 22, 5, 8, 8, 10, 30, 31, 7, 6)
	cases := []struct {
		what       string
		l          []impl.Span
		start, end int
		want       []impl.Span
	}{
		{"nil", nil, 0, 0, nil}, {"empty", []impl.Span{}, 1, 1, nil}, {"none valid", invalidSpans(), 0, 0, nil},
		{"by nothing", l, 0, 0, spans(5, 10, 20, 22, 30, 31)}, {"at the start", l, 1, 0, spans(6, 10, 21, 22)}, {"at the end", l, 0, 1, spans(5, 9, 20, 21)},
		{"at both", l, 1, 1, spans(6, 9)}, {"one tick left", l, 2, 2, spans(7, 8)}, {"one tick left at the end", l, 4, 0, spans(9, 10)}, {"one tick left at the start", l, 0, 4, spans(5, 6)},
		{"as long at the start", l, 5, 0, nil}, {"as long at the end", l, 0, 5, nil}, {"as long together", l, 2, 3, nil}, {"as long together", l, 4, 1, nil},
		{"longer at the start", l, 6, 0, nil}, {"longer at the end", l, 0, 6, nil}, {"longer together", l, 3, 3, nil}, {"longer at both", l, 100, 100, nil},
		{"start below 0", l, -1, 0, nil}, {"end below 0", l, 0, -1, nil}, {"both below 0", l, -1, -1, nil},
		{"start below 0, end above", l, -1, 1, nil}, {"end below 0, start above", l, 1, -1, nil}, {"start below 0, end as far above", l, -2, 2, nil},
		{"start at the end of int", l, math.MaxInt, 0, nil}, {"end at the end of int", l, 0, math.MaxInt, nil}, {"both at the end of int", l, math.MaxInt, math.MaxInt, nil},
		{"start at the end of int, end 1", l, math.MaxInt, 1, nil}, {"end at the end of int, start 1", l, 1, math.MaxInt, nil}, {"nearly at the end of int", l, math.MaxInt - 1, 3, nil},
		{"start at the beginning of int", l, math.MinInt, 0, nil}, {"end at the beginning of int", l, 0, math.MinInt, nil}, {"both at the beginning of int", l, math.MinInt, math.MinInt, nil},
		{"both ends of int", l, math.MaxInt, math.MinInt, nil}, {"both ends of int", l, math.MinInt, math.MaxInt, nil}, {"half of int twice", l, 1 << 62, 1 << 62, nil},
		{"all ticks by nothing", spans(0, maxTick), 0, 0, spans(0, maxTick)}, {"all but the first", spans(0, maxTick), maxTick - 1, 0, spans(maxTick-1, maxTick)}, {"all but the last", spans(0, maxTick), 0, maxTick - 1, spans(0, 1)},
		{"all ticks by as many", spans(0, maxTick), maxTick, 0, nil}, {"all ticks by half and half", spans(0, maxTick), 500, 500, nil}, {"all ticks but one", spans(0, maxTick), 500, 499, spans(500, 501)},
		{"all ticks, start at the end of int", spans(0, maxTick), math.MaxInt, 0, nil}, {"all ticks, both at the end of int", spans(0, maxTick), math.MaxInt, math.MaxInt, nil},
		{"all ticks of touching spans", spans(500, maxTick, 0, 500), 500, 499, spans(500, 501)}, {"touching spans of one tick", spans(6, 7, 7, 8, 5, 6), 1, 1, spans(6, 7)},
		{"overlapping", spans(5, 8, 7, 10), 2, 2, spans(7, 8)}, {"equal", spans(5, 8, 5, 8), 1, 1, spans(6, 7)}, {"one in the other", spans(5, 10, 6, 8), 1, 1, spans(6, 9)},
		{"apart by one tick", spans(5, 8, 9, 12), 1, 1, spans(6, 7, 10, 11)},
	}
	for _, c := range cases {
		checkSpans(t, impl.ShortenSpans(c.l, c.start, c.end), c.want, "ShortenSpans", c.what, c.l, c.start, c.end)
	}
}

// checkTicks holds what is returned for one list against its ticks.
func checkTicks(t *testing.T, l []impl.Span) {
	t.Helper()
	want := wantJoined(l)
	checkSpans(t, impl.JoinSpans(l), want, "JoinSpans", l)
	count := 0
	for _, s := range want {
		count += s.To - s.From
	}
	if got := impl.TicksOf(l); got != count {
		t.Errorf("TicksOf(%v) = %d, want %d", l, got, count)
	}
	for _, start := range []int{-1, 0, 1, 2, 3, 7, 64, 999, 1000} {
		for _, end := range []int{-1, 0, 1, 2, 5, 63, 999, 1000} {
			checkSpans(t, impl.ShortenSpans(l, start, end), wantShortened(l, start, end), "ShortenSpans", l, start, end)
		}
	}
}

func checkTwoLists(t *testing.T, a []impl.Span, b []impl.Span) {
	t.Helper()
	both := wantSpans(func(t int) bool { return hasTick(a, t) && hasTick(b, t) })
	checkSpans(t, impl.MeetSpans(a, b), both, "MeetSpans", a, b)
	firstOnly := wantSpans(func(t int) bool { return hasTick(a, t) && !hasTick(b, t) })
	checkSpans(t, impl.CutSpans(a, b), firstOnly, "CutSpans", a, b)
}

func TestSpansHaveTheirTicks(t *testing.T) {
	for _, a := range spanLists() {
		checkTicks(t, a)
		for _, b := range spanLists() {
			checkTwoLists(t, a, b)
		}
	}
	random := rand.New(rand.NewSource(4))
	for range 2000 {
		a, b := randomSpans(random), randomSpans(random)
		checkTicks(t, a)
		checkTwoLists(t, a, b)
	}
}

func TestSpansByThemselvesAndByNothing(t *testing.T) {
	for _, l := range spanLists() {
		joined := wantJoined(l)
		checkSpans(t, impl.MeetSpans(l, l), joined, "MeetSpans with itself", l)
		checkSpans(t, impl.CutSpans(l, l), nil, "CutSpans by itself", l)
		for _, nothing := range [][]impl.Span{nil, {}, invalidSpans()} {
			checkSpans(t, impl.MeetSpans(l, nothing), nil, "MeetSpans with nothing", l, nothing)
			checkSpans(t, impl.MeetSpans(nothing, l), nil, "MeetSpans of nothing", l, nothing)
			checkSpans(t, impl.CutSpans(l, nothing), joined, "CutSpans by nothing", l, nothing)
			checkSpans(t, impl.CutSpans(nothing, l), nil, "CutSpans of nothing", l, nothing)
		}
	}
}

// TestSpansOfFewTicks has all lists of two spans, valid or not, within few ticks at each place where something may end.
func TestSpansOfFewTicks(t *testing.T) {
	for _, low := range []int{-2, 62, 126, 958, maxTick - 4} {
		var few []impl.Span
		for from := low; from < low+6; from++ {
			for to := low; to < low+7; to++ {
				few = append(few, span(from, to))
			}
		}
		for _, x := range few {
			for _, y := range few {
				l := []impl.Span{x, y}
				checkSpans(t, impl.JoinSpans(l), wantJoined(l), "JoinSpans", l)
				checkTwoLists(t, l[:1], l[1:])
			}
		}
	}
}

func TestManySpans(t *testing.T) {
	var even, odd []impl.Span
	for from := 0; from < maxTick; from += 2 {
		even = append(even, span(from, from+1))
		odd = append(odd, span(from+1, from+2))
	}
	checkSpans(t, impl.JoinSpans(even), even, "JoinSpans of every second tick")
	checkSpans(t, impl.JoinSpans(slices.Concat(odd, even)), spans(0, maxTick), "JoinSpans of all ticks")
	checkSpans(t, impl.MeetSpans(even, odd), nil, "MeetSpans of even and odd ticks")
	checkSpans(t, impl.CutSpans(spans(0, maxTick), even), odd, "CutSpans by every second tick")
	checkSpans(t, impl.ShortenSpans(even, 0, 0), even, "ShortenSpans of every second tick by nothing")
	checkSpans(t, impl.ShortenSpans(even, 1, 0), nil, "ShortenSpans of every second tick")
	if impl.TicksOf(even) != 500 || impl.TicksOf(slices.Concat(even, odd, even)) != maxTick {
		t.Error("TicksOf of every second tick")
	}
	long := slices.Repeat(spans(7, 6, 5, 8, 8, 10), 20000)
	checkSpans(t, impl.JoinSpans(long), spans(5, 10), "JoinSpans of 60000 spans")
	if !impl.InSpans(long, 9) || impl.InSpans(long, 10) || impl.TicksOf(long) != 5 {
		t.Error("ticks of 60000 spans")
	}
}

// TestSpansIgnoreSpareCapacity cuts a list off before spans that would change each result.
func TestSpansIgnoreSpareCapacity(t *testing.T) {
	l := spans(5, 8, 8, 10, 0, maxTick)[:1]
	all := spans(0, maxTick)
	checkSpans(t, impl.JoinSpans(l), spans(5, 8), "JoinSpans", l)
	checkSpans(t, impl.MeetSpans(l, all), spans(5, 8), "MeetSpans", l, all)
	checkSpans(t, impl.MeetSpans(all, l), spans(5, 8), "MeetSpans", all, l)
	checkSpans(t, impl.CutSpans(l, nil), spans(5, 8), "CutSpans", l)
	checkSpans(t, impl.CutSpans(all, l), spans(0, 5, 8, maxTick), "CutSpans", all, l)
	checkSpans(t, impl.ShortenSpans(l, 1, 1), spans(6, 7), "ShortenSpans", l)
	if impl.TicksOf(l) != 3 || impl.InSpans(l, 8) {
		t.Errorf("TicksOf(%v) = %d, InSpans(%v, 8) = %t", l, impl.TicksOf(l), l, impl.InSpans(l, 8))
	}
}

func TestSpansChangeNothing(t *testing.T) {
	other := spans(9, 21, 0, 6, 7, 6)
	type list = []impl.Span
	for _, content := range spanLists() {
		checkListCalls(t, span(300, 400), span(1, 999), []listCall[impl.Span]{
			{"InSpans", content, func(l list) list { impl.InSpans(l, 9); impl.InSpans(l, maxTick); return nil }},
			{"TicksOf", content, func(l list) list { impl.TicksOf(l); return nil }},
			{"JoinSpans", content, func(l list) list { return impl.JoinSpans(l) }},
			{"MeetSpans", content, func(l list) list { return impl.MeetSpans(l, other) }},
			{"MeetSpans as the second", content, func(l list) list { return impl.MeetSpans(other, l) }},
			{"MeetSpans with all", content, func(l list) list { return impl.MeetSpans(l, spans(0, maxTick)) }},
			{"MeetSpans with itself", content, func(l list) list { return impl.MeetSpans(l, l) }},
			{"MeetSpans with its half", content, func(l list) list { return impl.MeetSpans(l[:len(l)/2], l[len(l)/2:]) }},
			{"MeetSpans with nothing", content, func(l list) list { return impl.MeetSpans(l, nil) }},
			{"CutSpans", content, func(l list) list { return impl.CutSpans(l, other) }},
			{"CutSpans as the second", content, func(l list) list { return impl.CutSpans(other, l) }},
			{"CutSpans by itself", content, func(l list) list { return impl.CutSpans(l, l) }},
			{"CutSpans by its half", content, func(l list) list { return impl.CutSpans(l[:len(l)/2], l[len(l)/2:]) }},
			{"CutSpans by nothing", content, func(l list) list { return impl.CutSpans(l, nil) }},
			{"ShortenSpans by nothing", content, func(l list) list { return impl.ShortenSpans(l, 0, 0) }},
			{"ShortenSpans", content, func(l list) list { return impl.ShortenSpans(l, 1, 1) }},
			{"ShortenSpans by too much", content, func(l list) list { return impl.ShortenSpans(l, math.MaxInt, 1) }},
			{"ShortenSpans by less than nothing", content, func(l list) list { return impl.ShortenSpans(l, -1, 0) }},
		})
	}
}
