package tests

import (
	"math"
	"math/rand"
	"slices"
	"testing"

	"loop.example/g00599/impl"
)

func cloud(node int, from int, to int) impl.Cloud {
	return impl.Cloud{Node: node, From: from, To: to}
}

// cloudsOver has one cloud over a node for each span.
func cloudsOver(node int, l []impl.Span) []impl.Cloud {
	clouds := []impl.Cloud{}
	for _, x := range l {
		clouds = append(clouds, cloud(node, x.From, x.To))
	}
	return clouds
}

// spansOver picks the clouds over a node as they are: in any order, and also invalid ones.
func spansOver(l []impl.Cloud, node int) []impl.Span {
	over := []impl.Span{}
	for _, c := range l {
		if c.Node == node {
			over = append(over, span(c.From, c.To))
		}
	}
	return over
}

func wantCovered(l []impl.Cloud, node int, tick int) bool {
	return hasTick(spansOver(l, node), tick)
}

// wantCut goes over all ticks of each contact by itself.
func wantCut(plan []impl.Contact, clouds []impl.Cloud) []impl.Contact {
	left := []impl.Contact{}
	for _, x := range plan {
		overA, overB := spansOver(clouds, x.A), spansOver(clouds, x.B)
		left = append(left, contactsIn(x.A, x.B, wantSpans(func(tick int) bool {
			return hasTick(spans(x.From, x.To), tick) && !hasTick(overA, tick) && !hasTick(overB, tick)
		}))...)
	}
	return left
}

// wantLost counts, for each contact, its ticks at which one of its nodes is covered.
func wantLost(plan []impl.Contact, clouds []impl.Cloud) int {
	lost := 0
	for _, x := range plan {
		over := append(spansOver(clouds, x.A), spansOver(clouds, x.B)...)
		for tick := range maxTick {
			if hasTick(spans(x.From, x.To), tick) && hasTick(over, tick) {
				lost++
			}
		}
	}
	return lost
}

func checkCloudSpans(t *testing.T, l []impl.Cloud, node int, want []impl.Span) {
	t.Helper()
	checkSpans(t, impl.CloudSpans(l, node), want, "CloudSpans", l, node)
}

// checkCovered asks for all ticks and beyond.
func checkCovered(t *testing.T, l []impl.Cloud, node int, want []impl.Span) {
	t.Helper()
	for _, tick := range tickSamples() {
		if got := impl.IsCovered(l, node, tick); got != hasTick(want, tick) {
			t.Errorf("IsCovered(%+v, %d, %d) = %t", l, node, tick, got)
		}
	}
}

func checkLost(t *testing.T, plan []impl.Contact, clouds []impl.Cloud, want int) {
	t.Helper()
	if got := impl.LostTicks(plan, clouds); got != want {
		t.Errorf("LostTicks(%+v, %+v) = %d, want %d", plan, clouds, got, want)
	}
}

// checkCut has a literal list, and asks for the clouds in the order given and in the other one, and for the ticks that are lost.
func checkCut(t *testing.T, what string, plan []impl.Contact, clouds []impl.Cloud, want []impl.Contact) {
	t.Helper()
	reversed := slices.Clone(clouds)
	slices.Reverse(reversed)
	for _, l := range [][]impl.Cloud{clouds, reversed} {
		if got := impl.CutClouds(plan, l); !slices.Equal(got, want) {
			t.Errorf("%s: CutClouds(%+v, %+v) = %v, want %v", what, plan, l, got, want)
		}
		checkLost(t, plan, l, wantLost(plan, clouds))
	}
	if impl.IsPlan(plan, math.MaxInt) {
		checkIsPlan(t, want, math.MaxInt, true)
	}
}

// mixedClouds has clouds over the node 3 among those over others, out of order, invalid, and in part the same.
func mixedClouds() []impl.Cloud {
	return []impl.Cloud{
		cloud(3, 20, 22), cloud(4, 0, 6), cloud(3, 5, 8), cloud(-3, 9, 21), cloud(3, 7, 6), cloud(3, 8, 10), cloud(0, 1, 2),
		cloud(3, 2, 3), cloud(3, 990, 1001), cloud(4, 22, 30), cloud(3, 5, 8), cloud(3, -1, 1), cloud(3, 12, 12), cloud(3, 6, 7),
	}
}

func TestCloudSpans(t *testing.T) {
	cases := []struct {
		what    string
		l, want []impl.Span
	}{
		{"nil", nil, nil}, {"empty", []impl.Span{}, nil}, {"one", spans(5, 8), spans(5, 8)}, {"one of one tick", spans(5, 6), spans(5, 6)}, {"one of all ticks", spans(0, maxTick), spans(0, maxTick)},
		{"the first tick", spans(0, 1), spans(0, 1)}, {"the last tick", spans(maxTick-1, maxTick), spans(maxTick-1, maxTick)}, {"both", spans(maxTick-1, maxTick, 0, 1), spans(0, 1, maxTick-1, maxTick)},
		{"out of order", spans(20, 30, 5, 8, 12, 13), spans(5, 8, 12, 13, 20, 30)}, {"a gap of one tick", spans(9, 10, 5, 8), spans(5, 8, 9, 10)}, {"a gap of one tick, filled", spans(9, 10, 5, 8, 8, 9), spans(5, 10)},
		{"touching", spans(5, 8, 8, 10), spans(5, 10)}, {"touching, out of order", spans(8, 10, 5, 8), spans(5, 10)}, {"touching, of one tick each", spans(7, 8, 5, 6, 6, 7), spans(5, 8)},
		{"overlapping", spans(5, 8, 7, 10), spans(5, 10)}, {"overlapping, out of order", spans(7, 10, 5, 8), spans(5, 10)}, {"one in the other", spans(5, 10, 6, 8), spans(5, 10)}, {"one in the other, out of order", spans(6, 8, 5, 10), spans(5, 10)},
		{"one tick in the other", spans(5, 10, 6, 7), spans(5, 10)}, {"the same From", spans(5, 8, 5, 10), spans(5, 10)}, {"the same To", spans(7, 10, 5, 10), spans(5, 10)}, {"the same", spans(5, 8, 5, 8, 5, 8), spans(5, 8)}, {"the same, of one tick", spans(5, 6, 5, 6), spans(5, 6)},
		{"From below 0", spans(-1, 8), nil}, {"From equal to To", spans(5, 5), nil}, {"From greater than To", spans(8, 5), nil}, {"To beyond MaxTick", spans(5, maxTick+1), nil}, {"the ends of int", spans(math.MinInt, math.MaxInt, math.MaxInt, math.MinInt), nil}, {"none valid", invalidSpans(), nil},
		{"invalid among others", spans(5, 8, 7, 6, 4, 4, -1, 9, 0, maxTick+1, 8, 10, 20, 21), spans(5, 10, 20, 21)}, {"invalid ones bridge nothing", spans(5, 8, -1, 10, 9, 10, 8, maxTick+1, 9, 8), spans(5, 8, 9, 10)},
	}
	others := []impl.Cloud{cloud(-7, 6, 9), cloud(8, 0, maxTick), cloud(0, 5, 30), cloud(6, 8, 9), cloud(1<<32+7, 8, 9)}
	for _, c := range cases {
		over := cloudsOver(7, c.l)
		for _, l := range [][]impl.Cloud{over, append(slices.Clone(others), over...), append(slices.Clone(over), others...), slices.Concat(others, over, others, over)} {
			checkCloudSpans(t, l, 7, c.want)
			checkCovered(t, l, 7, c.want)
			checkCloudSpans(t, l, 5, nil)
			checkCovered(t, l, 5, nil)
		}
	}
	for _, l := range spanLists() {
		checkCloudSpans(t, cloudsOver(7, l), 7, wantJoined(l))
		checkCovered(t, cloudsOver(7, l), 7, l)
	}
}

// TestCloudsOverEachNode asks for nodes of all numbers: a cloud names any.
func TestCloudsOverEachNode(t *testing.T) {
	mixed := mixedClouds()
	checkCloudSpans(t, mixed, 3, spans(2, 3, 5, 10, 20, 22))
	checkCloudSpans(t, mixed, 4, spans(0, 6, 22, 30))
	checkCloudSpans(t, mixed, -3, spans(9, 21))
	checkCloudSpans(t, mixed, 0, spans(1, 2))
	for _, node := range []int{1, 2, 5, -1, -4, 1 << 32, 1<<32 + 3, math.MaxInt, math.MinInt} {
		checkCloudSpans(t, mixed, node, nil)
		checkCovered(t, mixed, node, nil)
	}
	for _, node := range []int{3, 4, -3, 0} {
		checkCovered(t, mixed, node, spansOver(mixed, node))
	}
	named := append(endsOfInt(), -1, -2, 0, 1, 12, 1000, 1<<32, -1<<32)
	for _, node := range named {
		l := append(mixed[:len(mixed):len(mixed)], cloud(node, 40, 43), cloud(node, 43, 50))
		checkCloudSpans(t, l, node, wantJoined(spansOver(l, node)))
		checkCovered(t, l, node, spansOver(l, node))
		checkCloudSpans(t, []impl.Cloud{cloud(node, 5, 8)}, node, spans(5, 8))
		for _, other := range named {
			if other != node {
				checkCloudSpans(t, []impl.Cloud{cloud(node, 5, 8)}, other, nil)
			}
		}
	}
	// The zero value is a cloud without a tick.
	checkCloudSpans(t, []impl.Cloud{{}}, 0, nil)
}

func TestIsCovered(t *testing.T) {
	l := []impl.Cloud{cloud(2, 5, 8), cloud(2, 10, 12), cloud(2, 12, 15), cloud(2, 20, 21), cloud(3, 0, maxTick), cloud(4, 0, 1), cloud(4, maxTick-1, maxTick), cloud(5, -1, 8), cloud(5, 30, maxTick+1), cloud(5, 20, 20), cloud(5, 26, 22), cloud(-1, 5, 8)}
	cases := []struct {
		node, tick int
		want       bool
	}{
		// At From - 1, From, To - 1 and To.
		{2, 4, false}, {2, 5, true}, {2, 6, true}, {2, 7, true}, {2, 8, false}, {2, 19, false}, {2, 20, true}, {2, 21, false},
		// Between two clouds, and where two touch.
		{2, 9, false}, {2, 10, true}, {2, 11, true}, {2, 12, true}, {2, 14, true}, {2, 15, false}, {2, 16, false},
		// Below 0, at MaxTick, and at the ends of int's range.
		{3, -1, false}, {3, 0, true}, {3, 500, true}, {3, maxTick - 1, true}, {3, maxTick, false}, {3, maxTick + 1, false}, {3, math.MinInt, false}, {3, math.MinInt + 1, false}, {3, math.MaxInt, false}, {3, math.MaxInt - 1, false}, {3, 1 << 32, false},
		{4, -1, false}, {4, 0, true}, {4, 1, false}, {4, maxTick - 2, false}, {4, maxTick - 1, true}, {4, maxTick, false},
		// Clouds that are not valid.
		{5, -1, false}, {5, 0, false}, {5, 7, false}, {5, 20, false}, {5, 23, false}, {5, 30, false}, {5, maxTick - 1, false}, {5, maxTick, false},
		// Other nodes.
		{-1, 4, false}, {-1, 5, true}, {-1, 7, true}, {-1, 8, false}, {0, 5, false}, {1, 5, false}, {6, 5, false}, {-2, 5, false}, {math.MinInt, 5, false}, {math.MaxInt, 5, false}, {1<<32 + 2, 5, false},
	}
	for _, c := range cases {
		if got := impl.IsCovered(l, c.node, c.tick); got != c.want {
			t.Errorf("IsCovered(%+v, %d, %d) = %t, want %t", l, c.node, c.tick, got, c.want)
		}
		if impl.IsCovered(nil, c.node, c.tick) || impl.IsCovered([]impl.Cloud{}, c.node, c.tick) || impl.IsCovered([]impl.Cloud{{}}, c.node, c.tick) {
			t.Errorf("node %d is covered at %d without a cloud", c.node, c.tick)
		}
	}
	for _, x := range invalidSpans() {
		checkCovered(t, []impl.Cloud{cloud(2, x.From, x.To)}, 2, nil)
		checkCovered(t, []impl.Cloud{cloud(2, x.From, x.To), cloud(2, 5, 8)}, 2, spans(5, 8))
	}
}

// TestCutClouds has one contact from 10 to 20, and all its clouds over one of its nodes, over the other one, and over both.
func TestCutClouds(t *testing.T) {
	cases := []struct {
		what        string
		over, clear []impl.Span
	}{
		{"nil", nil, spans(10, 20)}, {"empty", []impl.Span{}, spans(10, 20)}, {"none valid", invalidSpans(), spans(10, 20)},
		{"before", spans(5, 8), spans(10, 20)}, {"ends one tick before From", spans(5, 9), spans(10, 20)}, {"ends at From", spans(5, 10), spans(10, 20)}, {"ends one tick after From", spans(5, 11), spans(11, 20)}, {"one tick before From", spans(9, 10), spans(10, 20)},
		{"begins at From", spans(10, 13), spans(13, 20)}, {"begins one tick after From", spans(11, 13), spans(10, 11, 13, 20)}, {"begins one tick before From", spans(9, 13), spans(13, 20)},
		{"the first tick", spans(10, 11), spans(11, 20)}, {"the second tick", spans(11, 12), spans(10, 11, 12, 20)}, {"a middle tick", spans(15, 16), spans(10, 15, 16, 20)}, {"the last but one tick", spans(18, 19), spans(10, 18, 19, 20)}, {"the last tick", spans(19, 20), spans(10, 19)},
		{"begins at To - 1", spans(19, 30), spans(10, 19)}, {"begins at To", spans(20, 30), spans(10, 20)}, {"one tick at To", spans(20, 21), spans(10, 20)}, {"begins one tick after To", spans(21, 30), spans(10, 20)}, {"after", spans(25, 30), spans(10, 20)}, {"ends at To", spans(17, 20), spans(10, 17)}, {"ends one tick after To", spans(17, 21), spans(10, 17)}, {"ends one tick before To", spans(17, 19), spans(10, 17, 19, 20)},
		{"the same ticks", spans(10, 20), nil}, {"one tick more at either end", spans(9, 21), nil}, {"all ticks", spans(0, maxTick), nil}, {"up to To", spans(0, 20), nil}, {"from From on", spans(10, maxTick), nil}, {"whole, by touching ones", spans(15, 20, 10, 15), nil}, {"whole, by overlapping ones", spans(13, 25, 5, 17), nil}, {"whole, by single ticks", spans(10, 11, 11, 12, 12, 13, 13, 14, 14, 15, 15, 16, 16, 17, 17, 18, 18, 19, 19, 20), nil},
		{"one tick left at the beginning", spans(11, 20), spans(10, 11)}, {"one tick left at the end", spans(10, 19), spans(19, 20)}, {"one tick left at the beginning, by more", spans(11, 50), spans(10, 11)}, {"one tick left at the end, by more", spans(0, 19), spans(19, 20)}, {"one tick left in the middle", spans(5, 14, 15, 25), spans(14, 15)}, {"one tick left at both ends", spans(11, 19), spans(10, 11, 19, 20)}, {"one tick left at both ends and in the middle", spans(15, 19, 11, 14), spans(10, 11, 14, 15, 19, 20)},
		{"two", spans(12, 14, 16, 17), spans(10, 12, 14, 16, 17, 20)}, {"two out of order", spans(16, 17, 12, 14), spans(10, 12, 14, 16, 17, 20)}, {"two that touch", spans(14, 16, 12, 14), spans(10, 12, 16, 20)}, {"two that overlap", spans(12, 15, 13, 16), spans(10, 12, 16, 20)}, {"one in the other", spans(12, 18, 14, 15), spans(10, 12, 18, 20)}, {"the same twice", spans(12, 14, 12, 14), spans(10, 12, 14, 20)},
		{"each second tick", spans(11, 12, 13, 14, 15, 16, 17, 18, 19, 20), spans(10, 11, 12, 13, 14, 15, 16, 17, 18, 19)}, {"each other second tick", spans(10, 11, 12, 13, 14, 15, 16, 17, 18, 19), spans(11, 12, 13, 14, 15, 16, 17, 18, 19, 20)}, {"both ends and outside", spans(0, 3, 4, 11, 14, 15, 19, 22, 30, 40), spans(11, 14, 15, 19)},
		{"invalid among others", spans(-1, 15, 12, 14, 16, maxTick+1, 18, 17, 17, 17), spans(10, 12, 14, 20)},
	}
	plan := []impl.Contact{contact(3, 7, 10, 20)}
	others := []impl.Cloud{cloud(0, 0, maxTick), cloud(-3, 12, 18), cloud(4, 10, 11), cloud(8, 0, maxTick), cloud(1<<32+3, 15, 20)}
	for _, c := range cases {
		overA, overB, want := cloudsOver(3, c.over), cloudsOver(7, c.over), contactsIn(3, 7, c.clear)
		checkCut(t, c.what+", over A", plan, overA, want)
		checkCut(t, c.what+", over B", plan, overB, want)
		checkCut(t, c.what+", over both", plan, append(slices.Clone(overA), overB...), want)
		checkCut(t, c.what+", over A and others", plan, append(slices.Clone(others), overA...), want)
		checkCut(t, c.what+", over B and others", plan, append(slices.Clone(overB), others...), want)
		// Over neither.
		checkCut(t, c.what+", over others", plan, append(cloudsOver(5, c.over), others...), plan)
		mixed := []impl.Cloud{}
		for i, x := range c.over {
			mixed = append(mixed, cloud([]int{3, 7}[i%2], x.From, x.To))
		}
		checkCut(t, c.what+", over A and B in turn", plan, mixed, want)
	}
}

// TestCutCloudsOfBothNodes has other clouds over A than over B.
func TestCutCloudsOfBothNodes(t *testing.T) {
	cases := []struct {
		what                string
		overA, overB, clear []impl.Span
	}{
		{"the same ticks", spans(12, 15), spans(12, 15), spans(10, 12, 15, 20)}, {"one tick each, the same", spans(12, 13), spans(12, 13), spans(10, 12, 13, 20)}, {"touching", spans(12, 14), spans(14, 17), spans(10, 12, 17, 20)}, {"one tick each, touching", spans(12, 13), spans(13, 14), spans(10, 12, 14, 20)}, {"a gap of one tick", spans(12, 14), spans(15, 17), spans(10, 12, 14, 15, 17, 20)}, {"overlapping by one tick", spans(12, 15), spans(14, 17), spans(10, 12, 17, 20)}, {"overlapping", spans(12, 16), spans(13, 17), spans(10, 12, 17, 20)},
		{"one in the other", spans(12, 17), spans(13, 15), spans(10, 12, 17, 20)}, {"one tick in the other", spans(12, 17), spans(13, 14), spans(10, 12, 17, 20)}, {"the same From", spans(12, 17), spans(12, 14), spans(10, 12, 17, 20)}, {"the same To", spans(12, 17), spans(14, 17), spans(10, 12, 17, 20)},
		{"many in one", spans(11, 18), spans(12, 13, 14, 15, 16, 17), spans(10, 11, 18, 20)}, {"many in one, and one behind it", spans(11, 17), spans(12, 13, 14, 15, 18, 19), spans(10, 11, 17, 18, 19, 20)}, {"from both ends, touching", spans(0, 15), spans(15, 30), nil}, {"from both ends, overlapping", spans(0, 16), spans(14, 30), nil}, {"from both ends, with a gap of one tick", spans(0, 14), spans(15, 30), spans(14, 15)}, {"the ends", spans(10, 11), spans(19, 20), spans(11, 19)},
		{"in turn", spans(10, 11, 14, 15, 18, 19), spans(12, 13, 16, 17), spans(11, 12, 13, 14, 15, 16, 17, 18, 19, 20)}, {"in turn, touching", spans(10, 12, 14, 16, 18, 20), spans(12, 14, 16, 18), nil}, {"in turn, overlapping", spans(9, 12, 14, 17), spans(11, 15, 16, 19), spans(19, 20)}, {"in turn, touching, but for one tick", spans(10, 12, 14, 16, 18, 20), spans(12, 14, 17, 18), spans(16, 17)},
		{"one whole", spans(10, 20), spans(12, 14), nil}, {"one whole, the other one not at all", spans(10, 20), spans(0, 10, 20, 30), nil}, {"neither", spans(0, 10, 20, 21), spans(5, 9, 21, 22), spans(10, 20)}, {"one before and one behind", spans(0, 5), spans(25, 30), spans(10, 20)}, {"many before and behind", spans(0, 1, 2, 3, 4, 5, 12, 13), spans(1, 2, 6, 10, 14, 15, 22, 23, 30, 31), spans(10, 12, 13, 14, 15, 20)}, {"an invalid one and another one", spans(9, 1001, 12, 13), spans(-1, 30, 15, 17), spans(10, 12, 13, 15, 17, 20)},
	}
	plan := []impl.Contact{contact(3, 7, 10, 20)}
	for _, c := range cases {
		want := contactsIn(3, 7, c.clear)
		checkCut(t, c.what, plan, append(cloudsOver(3, c.overA), cloudsOver(7, c.overB)...), want)
		checkCut(t, c.what+", the other way", plan, append(cloudsOver(3, c.overB), cloudsOver(7, c.overA)...), want)
		checkCut(t, c.what+", over neither", plan, append(cloudsOver(30, c.overB), cloudsOver(-7, c.overA)...), plan)
	}
}

// TestCutCloudsOfOneTick has contacts and clouds of one tick each, and contacts at the ends of the ticks.
func TestCutCloudsOfOneTick(t *testing.T) {
	for _, tick := range []int{0, 1, 5, 63, 64, 500, maxTick - 2, maxTick - 1} {
		for _, at := range []int{0, 1, 4, 5, 6, 62, 63, 64, 65, 499, 500, 501, maxTick - 3, maxTick - 2, maxTick - 1} {
			want := contactsIn(0, 1, spans(tick, tick+1))
			if at == tick {
				want = nil
			}
			checkCut(t, "one tick each", contactsIn(0, 1, spans(tick, tick+1)), cloudsOver(1, spans(at, at+1)), want)
		}
		want := contactsIn(0, 1, wantSpans(func(at int) bool { return 0 <= at && at < maxTick && at != tick }))
		checkCut(t, "one tick of all", contactsIn(0, 1, spans(0, maxTick)), cloudsOver(0, spans(tick, tick+1)), want)
	}
	cases := []struct {
		what              string
		when, over, clear []impl.Span
	}{
		{"the first tick", spans(0, 4), spans(0, 1), spans(1, 4)}, {"not the first tick", spans(0, 4), spans(1, 4), spans(0, 1)}, {"the last tick", spans(maxTick-4, maxTick), spans(maxTick-1, maxTick), spans(maxTick-4, maxTick-1)}, {"not the last tick", spans(maxTick-4, maxTick), spans(maxTick-4, maxTick-1), spans(maxTick-1, maxTick)},
		{"both ends", spans(0, maxTick), spans(0, 1, maxTick-1, maxTick), spans(1, maxTick-1)}, {"all but both ends", spans(0, maxTick), spans(1, maxTick-1), spans(0, 1, maxTick-1, maxTick)}, {"all", spans(0, maxTick), spans(0, maxTick), nil}, {"a cloud beyond MaxTick", spans(0, maxTick), spans(5, maxTick+1), spans(0, maxTick)}, {"a cloud from MaxTick on", spans(0, maxTick), spans(maxTick, maxTick+1), spans(0, maxTick)}, {"a cloud below 0", spans(0, maxTick), spans(-1, 1), spans(0, maxTick)}, {"a cloud at the ends of int", spans(0, maxTick), spans(math.MinInt, math.MaxInt), spans(0, maxTick)},
		{"up to MaxTick - 1", spans(0, maxTick-1), spans(maxTick-2, maxTick), spans(0, maxTick-2)}, {"from MaxTick - 1 on", spans(maxTick-1, maxTick), spans(0, maxTick-1), spans(maxTick-1, maxTick)},
	}
	for _, c := range cases {
		checkCut(t, c.what, contactsIn(0, 1, c.when), cloudsOver(0, c.over), contactsIn(0, 1, c.clear))
		checkCut(t, c.what, contactsIn(0, 1, c.when), cloudsOver(1, c.over), contactsIn(0, 1, c.clear))
	}
	even, odd := []impl.Span{}, []impl.Span{}
	for tick := 0; tick < maxTick; tick += 2 {
		even, odd = append(even, span(tick, tick+1)), append(odd, span(tick+1, tick+2))
	}
	checkCut(t, "each odd tick", contactsIn(0, 1, spans(0, maxTick)), cloudsOver(1, odd), contactsIn(0, 1, even))
	checkCut(t, "each tick", contactsIn(0, 1, spans(0, maxTick)), append(cloudsOver(1, odd), cloudsOver(0, even)...), nil)
}

// TestCutCloudsOfManyContacts has lists of contacts whose order, nodes and ticks are kept.
func TestCutCloudsOfManyContacts(t *testing.T) {
	type plan = []impl.Contact
	clouds := []impl.Cloud{cloud(1, 6, 7), cloud(2, 10, 12), cloud(0, 0, 1), cloud(4, 0, maxTick), cloud(-1, 5, 7), cloud(math.MaxInt, 5, 6), cloud(math.MinInt, 7, 8)}
	cases := []struct {
		what    string
		l, want plan
	}{
		{"nil", nil, nil}, {"empty", plan{}, nil}, {"the zero value", plan{{}}, nil},
		{"of two pairs", plan{contact(0, 1, 5, 8), contact(0, 2, 5, 18)}, plan{contact(0, 1, 5, 6), contact(0, 1, 7, 8), contact(0, 2, 5, 10), contact(0, 2, 12, 18)}}, {"of two pairs, out of order", plan{contact(0, 2, 5, 18), contact(0, 1, 5, 8)}, plan{contact(0, 2, 5, 10), contact(0, 2, 12, 18), contact(0, 1, 5, 6), contact(0, 1, 7, 8)}}, {"of one pair, out of order", plan{contact(0, 1, 20, 30), contact(0, 1, 5, 8), contact(0, 1, 12, 14)}, plan{contact(0, 1, 20, 30), contact(0, 1, 5, 6), contact(0, 1, 7, 8), contact(0, 1, 12, 14)}},
		{"one whole in the middle", plan{contact(0, 1, 1, 4), contact(0, 4, 1, 900), contact(1, 2, 5, 11)}, plan{contact(0, 1, 1, 4), contact(1, 2, 5, 6), contact(1, 2, 7, 10)}}, {"all whole", plan{contact(0, 4, 1, 900), contact(0, 1, 6, 7), contact(2, 4, 10, 12), contact(2, 5, 10, 12)}, plan{}},
		// Contacts that touch, overlap, lie in each other and are the same stay apart.
		{"touching", plan{contact(0, 1, 2, 4), contact(0, 1, 4, 6)}, plan{contact(0, 1, 2, 4), contact(0, 1, 4, 6)}}, {"touching under a cloud", plan{contact(0, 2, 8, 11), contact(0, 2, 11, 15)}, plan{contact(0, 2, 8, 10), contact(0, 2, 12, 15)}}, {"overlapping", plan{contact(0, 1, 2, 8), contact(0, 1, 5, 9)}, plan{contact(0, 1, 2, 6), contact(0, 1, 7, 8), contact(0, 1, 5, 6), contact(0, 1, 7, 9)}}, {"overlapping, out of order", plan{contact(0, 1, 5, 9), contact(0, 1, 2, 8)}, plan{contact(0, 1, 5, 6), contact(0, 1, 7, 9), contact(0, 1, 2, 6), contact(0, 1, 7, 8)}}, {"one in the other", plan{contact(0, 1, 2, 9), contact(0, 1, 4, 6)}, plan{contact(0, 1, 2, 6), contact(0, 1, 7, 9), contact(0, 1, 4, 6)}},
		{"twice", plan{contact(1, 2, 5, 8), contact(1, 2, 5, 8)}, plan{contact(1, 2, 5, 6), contact(1, 2, 7, 8), contact(1, 2, 5, 6), contact(1, 2, 7, 8)}}, {"twice, not cut", plan{contact(2, 3, 5, 8), contact(2, 3, 5, 8)}, plan{contact(2, 3, 5, 8), contact(2, 3, 5, 8)}}, {"twice, taken whole", plan{contact(0, 1, 6, 7), contact(0, 1, 6, 7)}, plan{}}, {"touching what is left of another one", plan{contact(0, 1, 5, 8), contact(0, 1, 6, 7), contact(0, 1, 8, 9)}, plan{contact(0, 1, 5, 6), contact(0, 1, 7, 8), contact(0, 1, 8, 9)}},
		// Nodes that make no valid contact are kept as they are.
		{"equal nodes", plan{contact(1, 1, 5, 8)}, plan{contact(1, 1, 5, 6), contact(1, 1, 7, 8)}}, {"equal nodes, not cut", plan{contact(3, 3, 5, 8)}, plan{contact(3, 3, 5, 8)}}, {"the wrong way round", plan{contact(2, 1, 5, 12)}, plan{contact(2, 1, 5, 6), contact(2, 1, 7, 10)}}, {"both ways", plan{contact(2, 1, 5, 12), contact(1, 2, 5, 12)}, plan{contact(2, 1, 5, 6), contact(2, 1, 7, 10), contact(1, 2, 5, 6), contact(1, 2, 7, 10)}},
		{"A below 0", plan{contact(-1, 0, 4, 9)}, plan{contact(-1, 0, 4, 5), contact(-1, 0, 7, 9)}}, {"B below 0", plan{contact(0, -1, 4, 9)}, plan{contact(0, -1, 4, 5), contact(0, -1, 7, 9)}}, {"both below 0", plan{contact(-2, -1, 4, 9)}, plan{contact(-2, -1, 4, 5), contact(-2, -1, 7, 9)}}, {"below 0, not cut", plan{contact(-3, -2, 4, 9)}, plan{contact(-3, -2, 4, 9)}}, {"the ends of int", plan{contact(math.MinInt, math.MaxInt, 4, 9), contact(math.MaxInt, 9, 4, 9)}, plan{contact(math.MinInt, math.MaxInt, 4, 5), contact(math.MinInt, math.MaxInt, 6, 7), contact(math.MinInt, math.MaxInt, 8, 9), contact(math.MaxInt, 9, 4, 5), contact(math.MaxInt, 9, 6, 9)}},
		// Spans that are not valid have no ticks, also where there is no cloud.
		{"From equal to To", plan{contact(0, 1, 5, 5), contact(2, 3, 5, 5)}, plan{}}, {"From greater than To", plan{contact(0, 1, 8, 5), contact(2, 3, 8, 5)}, plan{}}, {"From below 0", plan{contact(0, 1, -1, 9), contact(2, 3, -1, 9)}, plan{}}, {"To beyond MaxTick", plan{contact(0, 1, 5, maxTick+1), contact(2, 3, 5, maxTick+1)}, plan{}}, {"at MaxTick", plan{contact(2, 3, maxTick, maxTick), contact(2, 3, maxTick, maxTick+1)}, plan{}}, {"up to MaxTick", plan{contact(2, 3, maxTick-1, maxTick), contact(1, 2, maxTick-1, maxTick)}, plan{contact(2, 3, maxTick-1, maxTick), contact(1, 2, maxTick-1, maxTick)}},
		{"at 0", plan{contact(0, 1, 0, 3), contact(0, 1, 0, 1), contact(1, 2, 0, 1)}, plan{contact(0, 1, 1, 3), contact(1, 2, 0, 1)}}, {"none valid", append(contactsIn(0, 1, invalidSpans()), contactsIn(5, 3, invalidSpans())...), plan{}}, {"invalid among others", slices.Concat(contactsIn(0, 1, invalidSpans()), plan{contact(0, 1, 5, 8)}, contactsIn(2, 3, invalidSpans()), plan{contact(2, 3, 5, 8)}), plan{contact(0, 1, 5, 6), contact(0, 1, 7, 8), contact(2, 3, 5, 8)}},
	}
	for _, c := range cases {
		checkCut(t, c.what, c.l, clouds, c.want)
		kept := slices.DeleteFunc(slices.Clone(c.l), func(x impl.Contact) bool { return !impl.IsSpan(span(x.From, x.To)) })
		for _, none := range [][]impl.Cloud{nil, {}, {{}}, cloudsOver(0, invalidSpans()), cloudsOver(77, spans(0, maxTick))} {
			checkCut(t, c.what+", without clouds", c.l, none, kept)
			checkLost(t, c.l, none, 0)
		}
	}
}

func TestLostTicks(t *testing.T) {
	type plan = []impl.Contact
	clouds := []impl.Cloud{cloud(1, 6, 8), cloud(2, 7, 12), cloud(4, 0, maxTick), cloud(2, 10, 13), cloud(2, 9, 8), cloud(0, -1, 50)}
	cases := []struct {
		what string
		l    plan
		want int
	}{
		{"nil", nil, 0}, {"empty", plan{}, 0}, {"the zero value", plan{{}}, 0}, {"not at all", plan{contact(0, 1, 0, 6), contact(0, 1, 8, maxTick), contact(0, 3, 0, maxTick)}, 0}, {"one tick", plan{contact(0, 1, 0, 7)}, 1}, {"in part", plan{contact(0, 1, 0, 20)}, 2}, {"in part, by clouds of one node that overlap", plan{contact(0, 2, 0, 20)}, 6}, {"in part, by clouds of both nodes that overlap", plan{contact(1, 2, 0, 20)}, 7}, {"at either end", plan{contact(1, 2, 7, 11)}, 4}, {"whole", plan{contact(1, 2, 6, 13)}, 7}, {"all ticks", plan{contact(0, 4, 0, maxTick)}, maxTick}, {"all ticks, by both", plan{contact(2, 4, 0, maxTick)}, maxTick},
		{"whole, in part and not at all", plan{contact(0, 1, 6, 8), contact(0, 2, 11, 15), contact(0, 3, 5, 8), contact(2, 4, 50, 60)}, 2 + 2 + 10}, {"overlapping", plan{contact(0, 1, 5, 8), contact(0, 1, 7, 12)}, 2 + 1}, {"twice", plan{contact(0, 1, 5, 8), contact(0, 1, 5, 8)}, 4}, {"one in the other", plan{contact(0, 1, 0, 20), contact(0, 1, 7, 8)}, 3},
		{"not valid", plan{contact(0, 1, -1, 20), contact(0, 4, 5, maxTick+1), contact(1, 2, 8, 8), contact(1, 2, 12, 6), contact(1, 4, math.MinInt, math.MaxInt), contact(1, 4, math.MaxInt, math.MinInt)}, 0}, {"not valid, among others", plan{contact(0, 1, -1, 20), contact(0, 1, 5, 7), contact(1, 2, 12, 6), contact(1, 2, 12, 16)}, 2}, {"nodes that are not valid", plan{contact(1, 1, 0, 20), contact(2, 1, 0, 20), contact(4, -1, 0, 20), contact(-1, -1, 0, 20)}, 2 + 7 + 20},
	}
	for _, c := range cases {
		checkLost(t, c.l, clouds, c.want)
		checkCut(t, c.what, c.l, clouds, wantCut(c.l, clouds))
		checkLost(t, c.l, nil, 0)
		checkLost(t, c.l, []impl.Cloud{}, 0)
		checkLost(t, append(c.l[:len(c.l):len(c.l)], contactsIn(1, 4, invalidSpans())...), clouds, c.want)
	}
	checkLost(t, slices.Repeat(plan{contact(0, 4, 0, maxTick), contact(0, 1, 0, 20)}, 500), clouds, 500*(maxTick+2))
}

// checkWeather asks, for each two nodes and each tick, whether they can speak exactly where they could and neither is covered.
func checkWeather(t *testing.T, plan []impl.Contact, clouds []impl.Cloud, nodes []int, from int, to int) {
	t.Helper()
	left := impl.CutClouds(plan, clouds)
	if want := wantCut(plan, clouds); !slices.Equal(left, want) {
		t.Errorf("CutClouds(%+v, %+v) = %v, want %v", plan, clouds, left, want)
	}
	checkLost(t, plan, clouds, wantLost(plan, clouds))
	for i, a := range nodes {
		checkCloudSpans(t, clouds, a, wantJoined(spansOver(clouds, a)))
		for tick := from; tick < to; tick++ {
			if got := impl.IsCovered(clouds, a, tick); got != wantCovered(clouds, a, tick) {
				t.Errorf("IsCovered(%+v, %d, %d) = %t", clouds, a, tick, got)
			}
			for _, b := range nodes[:i+1] {
				isClear := !wantCovered(clouds, a, tick) && !wantCovered(clouds, b, tick)
				checkCanSpeak(t, left, a, b, tick, isClear && impl.CanSpeak(plan, a, b, tick))
			}
		}
	}
}

// TestCloudsTakeAwayTheirTicksOnly has random contacts and clouds, of which some are not valid, at few ticks and of few nodes, so that they often meet.
func TestCloudsTakeAwayTheirTicksOnly(t *testing.T) {
	random := rand.New(rand.NewSource(120))
	nodes := []int{-1, 0, 1, 2, 3}
	lost := 0
	for range 1500 {
		low := []int{-2, 0, 50, maxTick - 22}[random.Intn(4)]
		ends := func() (int, int) {
			from := low + random.Intn(24)
			return from, from + random.Intn(10) - random.Intn(3)
		}
		plan, clouds := []impl.Contact{}, []impl.Cloud{}
		for range random.Intn(7) {
			from, to := ends()
			a := nodes[random.Intn(4)]
			plan = append(plan, contact(a, a+random.Intn(3), from, to))
		}
		for range random.Intn(9) {
			from, to := ends()
			clouds = append(clouds, cloud(nodes[random.Intn(5)], from, to))
		}
		checkWeather(t, plan, clouds, nodes, low-3, low+40)
		lost += impl.LostTicks(plan, clouds)
	}
	if lost == 0 {
		t.Error("no cloud takes a tick away")
	}
}

// TestCloudsOfManyLists has the lists of spans of chapter 4 as contacts and as clouds, and random ones of all sizes.
func TestCloudsOfManyLists(t *testing.T) {
	lists := spanLists()
	random := rand.New(rand.NewSource(121))
	for range 40 {
		lists = append(lists, randomSpans(random))
	}
	for _, when := range lists {
		for i, over := range lists {
			clouds := append(cloudsOver(1, over), cloudsOver(2, lists[(i+7)%len(lists)])...)
			plan := append(contactsIn(0, 1, when), contactsIn(1, 2, when)...)
			want := []impl.Contact{}
			for _, x := range plan {
				by := spansOver(clouds, x.A)
				by = append(by, spansOver(clouds, x.B)...)
				want = append(want, contactsIn(x.A, x.B, impl.CutSpans(spans(x.From, x.To), by))...)
			}
			if got := impl.CutClouds(plan, clouds); !slices.Equal(got, want) {
				t.Errorf("CutClouds(%+v, %+v) = %v, want %v", plan, clouds, got, want)
			}
			checkLost(t, plan, clouds, impl.ContactTicks(plan)-impl.ContactTicks(want))
		}
	}
}

// TestWeatherOverPlans has the plans of skies: what is left of a plan is one, too.
func TestWeatherOverPlans(t *testing.T) {
	random := rand.New(rand.NewSource(122))
	for _, s := range []impl.Sky{acquiring(planSky(), 2), acquiring(silenceSky(), 1), calmSky()} {
		plan, nodes := impl.PlanOf(s, 3, 60), []int{}
		for node := range impl.NodesOf(s) {
			nodes = append(nodes, node)
		}
		checkIsPlan(t, plan, len(nodes), true)
		for _, size := range []int{0, 1, 4, 20} {
			clouds := []impl.Cloud{}
			for range size {
				from := random.Intn(60)
				clouds = append(clouds, cloud(random.Intn(len(nodes)), from, from+1+random.Intn(8)*random.Intn(2)))
			}
			checkWeather(t, plan, clouds, nodes, 0, 70)
			left := impl.CutClouds(plan, clouds)
			checkIsPlan(t, left, len(nodes), true)
			// A second time, the same clouds take nothing more.
			checkCut(t, "again", left, clouds, left)
			checkLost(t, left, clouds, 0)
		}
		covered := []impl.Cloud{}
		for _, node := range nodes {
			covered = append(covered, cloud(node, 0, maxTick))
		}
		checkCut(t, "all covered", plan, covered, nil)
		checkLost(t, plan, covered, impl.ContactTicks(plan))
	}
}

// TestWeatherChangesNothing has lists that lie in the midst of known memory, and overwrites each result.
func TestWeatherChangesNothing(t *testing.T) {
	plans := [][]impl.Contact{{contact(0, 1, 5, 18), contact(5, 2, 8, 3), contact(0, 1, 2, 30), contact(3, 4, 0, 9)}, {contact(0, 1, 5, 18)}, {}}
	for _, weather := range [][]impl.Cloud{mixedClouds(), append(cloudsOver(1, spans(10, 12, 6, 8)), cloudsOver(0, spans(7, 9, 30, 20))...), {}} {
		clouds := guard(weather, cloud(0, 5, 18))
		for _, content := range plans {
			checkListCalls(t, contact(0, 1, 5, 18), contact(99, 99, 99, 99), []listCall[impl.Contact]{
				{"CutClouds", content, func(l []impl.Contact) []impl.Contact { return impl.CutClouds(l, clouds.slice) }},
				{"CutClouds without clouds", content, func(l []impl.Contact) []impl.Contact { return impl.CutClouds(l, nil) }},
				{"LostTicks", content, func(l []impl.Contact) []impl.Contact { impl.LostTicks(l, clouds.slice); return nil }},
			})
		}
		for _, node := range []int{0, 1, 3, 77} {
			first, kept := impl.CloudSpans(clouds.slice, node), wantJoined(spansOver(weather, node))
			fill(impl.CloudSpans(clouds.slice, node), span(99, 99))
			impl.IsCovered(clouds.slice, node, 6)
			checkSpans(t, first, kept, "the first CloudSpans", weather, node)
		}
		if clouds.changed() {
			t.Errorf("the clouds %+v are changed", weather)
		}
	}
}

// TestWeatherIgnoresSpareCapacity cuts lists off before what would change each result.
func TestWeatherIgnoresSpareCapacity(t *testing.T) {
	clouds := []impl.Cloud{cloud(1, 6, 7), cloud(1, 0, 20), cloud(0, 5, 6)}[:1]
	plan := []impl.Contact{contact(0, 1, 5, 8), contact(2, 3, 5, 8)}[:1]
	checkCloudSpans(t, clouds, 1, spans(6, 7))
	checkCovered(t, clouds, 1, spans(6, 7))
	checkCut(t, "spare capacity", plan, clouds, contactsIn(0, 1, spans(5, 6, 7, 8)))
	checkLost(t, plan, clouds, 1)
	checkCut(t, "no cloud", plan, clouds[:0], plan)
	checkCut(t, "no contact", plan[:0], clouds, nil)
}
