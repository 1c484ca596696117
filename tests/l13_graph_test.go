package tests

import (
	"math"
	"math/rand"
	"slices"
	"testing"

	"loop.example/g00599/impl"
)

func link(a int, b int) impl.Link {
	return impl.Link{A: a, B: b}
}

// links makes a list of pairs of A and B.
func links(ends ...int) []impl.Link {
	l := []impl.Link{}
	for i := 0; i < len(ends); i += 2 {
		l = append(l, link(ends[i], ends[i+1]))
	}
	return l
}

// during has one contact of the same ticks for each link.
func during(from int, to int, l []impl.Link) []impl.Contact {
	contacts := []impl.Contact{}
	for _, x := range l {
		contacts = append(contacts, contact(x.A, x.B, from, to))
	}
	return contacts
}

// wantLinks leaves a contact out if an earlier one of the list has the same nodes and the tick, too.
func wantLinks(l []impl.Contact, tick int) []impl.Link {
	want := []impl.Link{}
	for i, x := range l {
		isEarlier := slices.ContainsFunc(l[:i], func(y impl.Contact) bool {
			return y.A == x.A && y.B == x.B && hasTick(spans(y.From, y.To), tick)
		})
		if hasTick(spans(x.From, x.To), tick) && !isEarlier {
			want = append(want, link(x.A, x.B))
		}
	}
	return want
}

// afterFrom says of a tick whether it is at least from + 1. The one number whose successor is below it is math.MaxInt.
func afterFrom(tick int, from int) bool {
	return tick > from || from == math.MaxInt
}

// wantChanges goes by each tick.
func wantChanges(l []impl.Contact, from int, to int) []int {
	want := []int{}
	before := wantLinks(l, 0)
	for tick := 1; tick < 1000; tick++ {
		now := wantLinks(l, tick)
		if !slices.Equal(before, now) && afterFrom(tick, from) && inRange(tick, 0, to) {
			want = append(want, tick)
		}
		before = now
	}
	return want
}

// piecesAt makes the last piece longer with each tick that is no change.
func piecesAt(changes []int, from int, to int) []impl.Span {
	pieces := []impl.Span{}
	if from < 0 || 1000 < to {
		return pieces
	}
	for tick := from; tick < to; tick++ {
		if tick > from && !slices.Contains(changes, tick) {
			pieces[len(pieces)-1].To++
		} else {
			pieces = append(pieces, span(tick, tick+1))
		}
	}
	return pieces
}

func wantPieces(l []impl.Contact, from int, to int) []impl.Span {
	return piecesAt(wantChanges(l, 0, 1000), from, to)
}

// wantOtherEnds asks of each number that is an end of a link whether it is the other one, too.
func wantOtherEnds(l []impl.Link, node int) []int {
	ends := []int{}
	for _, x := range l {
		ends = append(ends, x.A, x.B)
	}
	slices.Sort(ends)
	want := []int{}
	for _, end := range slices.Compact(ends) {
		if slices.Contains(l, link(node, end)) || slices.Contains(l, link(end, node)) {
			want = append(want, end)
		}
	}
	return want
}

// checkLinks has a literal list.
func checkLinks(t *testing.T, what string, l []impl.Contact, tick int, want []impl.Link) {
	t.Helper()
	if got := impl.LinksAt(l, tick); !slices.Equal(got, want) {
		t.Errorf("%s: LinksAt(%+v, %d) = %v, want %v", what, l, tick, got, want)
	}
}

// checkSame asks in both directions.
func checkSame(t *testing.T, what string, a []impl.Link, b []impl.Link, want bool) {
	t.Helper()
	if there, back := impl.SameLinks(a, b), impl.SameLinks(b, a); there != want || back != want {
		t.Errorf("%s: SameLinks(%v, %v) = %t, and back %t, want %t", what, a, b, there, back, want)
	}
}

// checkChanges has a literal list.
func checkChanges(t *testing.T, what string, l []impl.Contact, from int, to int, want []int) {
	t.Helper()
	if got := impl.ChangesOf(l, from, to); !slices.Equal(got, want) {
		t.Errorf("%s: ChangesOf(%+v, %d, %d) = %v, want %v", what, l, from, to, got, want)
	}
}

// checkPieces has a literal list.
func checkPieces(t *testing.T, what string, l []impl.Contact, from int, to int, want []impl.Span) {
	t.Helper()
	if got := impl.PiecesOf(l, from, to); !slices.Equal(got, want) {
		t.Errorf("%s: PiecesOf(%+v, %d, %d) = %v, want %v", what, l, from, to, got, want)
	}
}

// checkGraph compares all of a range with the second implementation.
func checkGraph(t *testing.T, what string, l []impl.Contact, from int, to int) {
	t.Helper()
	checkChanges(t, what, l, from, to, wantChanges(l, from, to))
	checkPieces(t, what, l, from, to, wantPieces(l, from, to))
}

// checkNeighborsIn asks for the links in the order given, in the other one, and all of them twice.
func checkNeighborsIn(t *testing.T, what string, l []impl.Link, node int, want ...int) {
	t.Helper()
	reversed := slices.Clone(l)
	slices.Reverse(reversed)
	for _, list := range [][]impl.Link{l, reversed, slices.Concat(l, reversed)} {
		if got := impl.NeighborsIn(list, node); !impl.EqualInts(got, want) {
			t.Errorf("%s: NeighborsIn(%v, %d) = %v, want %v", what, list, node, got, want)
		}
	}
}

// timePlan has links that vanish and come back, that end where others begin, and that go on where their contacts touch.
func timePlan() []impl.Contact {
	return []impl.Contact{
		contact(0, 1, 2, 12), contact(0, 1, 13, 20), contact(0, 2, 0, 5), contact(0, 2, 30, 31), contact(0, 2, 32, 40),
		contact(0, 3, 20, 25), contact(0, 3, 25, 30), contact(1, 2, 5, 6), contact(1, 3, 900, maxTick), contact(2, 3, maxTick-1, maxTick),
	}
}

// contactLists are lists of every kind that the document tells apart.
func contactLists() [][]impl.Contact {
	type list = []impl.Contact
	return []list{
		nil, {}, {{}}, timePlan(), contactsIn(0, 1, invalidSpans()), contactsIn(0, 1, spans(0, maxTick)),
		{contact(0, 1, 5, 8)}, {contact(0, 1, 0, 1)}, {contact(0, 1, 1, 2)}, {contact(0, 1, maxTick-1, maxTick)}, {contact(0, 1, maxTick-2, maxTick-1)},
		{contact(0, 1, 5, 8), contact(0, 2, 6, 9), contact(1, 2, 5, 7)}, {contact(1, 2, 5, 7), contact(0, 2, 6, 9), contact(0, 1, 5, 8)}, {contact(0, 1, 5, 8), contact(0, 1, 5, 8), contact(0, 1, 5, 8)},
		{contact(0, 1, 5, 8), contact(0, 1, 8, 10)}, {contact(0, 1, 8, 10), contact(0, 1, 5, 8)}, {contact(0, 1, 5, 8), contact(0, 1, 7, 10)}, {contact(0, 1, 5, 10), contact(0, 1, 6, 8)}, {contact(0, 1, 5, 8), contact(0, 1, 9, 10)},
		{contact(0, 1, 5, 8), contact(0, 2, 5, 10), contact(0, 1, 8, 10)}, {contact(0, 1, 5, 8), contact(0, 2, 5, 10), contact(0, 1, 7, 10)}, {contact(0, 2, 5, 10), contact(0, 1, 5, 8), contact(0, 1, 8, 10)},
		{contact(1, 0, 5, 8), contact(0, 1, 6, 9)}, {contact(2, 2, 5, 8), contact(-1, -3, 6, 9), contact(math.MinInt, math.MaxInt, 7, 12), contact(math.MaxInt, math.MinInt, 7, 11)},
		{contact(0, 1, -1, 8), contact(0, 1, 6, 6), contact(0, 2, 9, 7), contact(0, 1, 6, maxTick+1), contact(0, 2, 7, 9), contact(1, 2, math.MinInt, math.MaxInt)},
	}
}

func TestLinksAt(t *testing.T) {
	type list = []impl.Contact
	cases := []struct {
		what string
		l    list
		tick int
		want []impl.Link
	}{
		{"nil", nil, 5, nil}, {"empty", list{}, 5, nil}, {"the zero value", list{{}}, 0, nil},
		{"one", list{contact(0, 1, 5, 8)}, 6, links(0, 1)}, {"one of all ticks", list{contact(0, 1, 0, maxTick)}, 500, links(0, 1)}, {"several in order", list{contact(0, 1, 5, 8), contact(0, 2, 5, 8), contact(1, 2, 5, 8)}, 5, links(0, 1, 0, 2, 1, 2)}, {"several out of order", list{contact(1, 2, 5, 8), contact(0, 2, 5, 8), contact(0, 1, 5, 8)}, 5, links(1, 2, 0, 2, 0, 1)},
		{"some of several", list{contact(0, 1, 5, 8), contact(0, 2, 6, 9), contact(0, 3, 8, 12), contact(1, 2, 0, 20), contact(1, 3, 0, 8)}, 8, links(0, 2, 0, 3, 1, 2)}, {"none of several", list{contact(0, 1, 5, 8), contact(0, 2, 9, 12)}, 8, nil},
		{"the same twice", list{contact(0, 1, 5, 8), contact(0, 1, 5, 8)}, 6, links(0, 1)}, {"the same twice, and others", list{contact(0, 2, 5, 8), contact(0, 1, 5, 8), contact(0, 2, 5, 8), contact(0, 3, 5, 8), contact(0, 1, 5, 8)}, 7, links(0, 2, 0, 1, 0, 3)}, {"the same three times", list{contact(0, 1, 5, 8), contact(0, 1, 5, 8), contact(0, 1, 5, 8)}, 5, links(0, 1)},
		{"touching, before", list{contact(0, 1, 5, 8), contact(0, 1, 8, 10)}, 7, links(0, 1)}, {"touching, behind", list{contact(0, 1, 5, 8), contact(0, 1, 8, 10)}, 8, links(0, 1)}, {"overlapping, before", list{contact(0, 1, 5, 8), contact(0, 1, 7, 10)}, 6, links(0, 1)}, {"overlapping, in both", list{contact(0, 1, 5, 8), contact(0, 1, 7, 10)}, 7, links(0, 1)}, {"overlapping, behind", list{contact(0, 1, 5, 8), contact(0, 1, 7, 10)}, 8, links(0, 1)}, {"one in the other", list{contact(0, 1, 5, 10), contact(0, 1, 6, 8)}, 7, links(0, 1)},
		// The place of a link is that of the first contact which has the tick.
		{"by the first contact", list{contact(0, 1, 5, 8), contact(0, 2, 5, 10), contact(0, 1, 8, 10)}, 7, links(0, 1, 0, 2)}, {"by the second contact", list{contact(0, 1, 5, 8), contact(0, 2, 5, 10), contact(0, 1, 8, 10)}, 8, links(0, 2, 0, 1)}, {"by the first one of both", list{contact(0, 1, 5, 9), contact(0, 2, 5, 10), contact(0, 1, 8, 10)}, 8, links(0, 1, 0, 2)},
		{"the wrong way round", list{contact(2, 1, 5, 8)}, 5, links(2, 1)}, {"both ways", list{contact(2, 1, 5, 8), contact(1, 2, 5, 8)}, 5, links(2, 1, 1, 2)}, {"equal nodes", list{contact(3, 3, 5, 8), contact(0, 0, 5, 8), contact(3, 3, 5, 8)}, 5, links(3, 3, 0, 0)}, {"below 0", list{contact(-1, 0, 5, 8), contact(-3, -2, 5, 8), contact(4, -4, 5, 8)}, 5, links(-1, 0, -3, -2, 4, -4)},
		{"the ends of int", list{contact(math.MinInt, math.MaxInt, 5, 8), contact(math.MaxInt, math.MinInt, 5, 8), contact(math.MaxInt, math.MaxInt, 5, 8), contact(math.MinInt, math.MaxInt, 5, 8), contact(0, math.MinInt, 5, 8)}, 5, links(math.MinInt, math.MaxInt, math.MaxInt, math.MinInt, math.MaxInt, math.MaxInt, 0, math.MinInt)}, {"nodes that differ beyond 32 bits", list{contact(0, 1, 5, 8), contact(1<<32, 1, 5, 8), contact(0, 1<<32+1, 5, 8)}, 5, links(0, 1, 1<<32, 1, 0, 1<<32+1)}, {"nodes that differ by Modulus", list{contact(0, 1, 5, 8), contact(impl.Modulus, 1, 5, 8), contact(0, 1+impl.Modulus, 5, 8)}, 5, links(0, 1, impl.Modulus, 1, 0, 1+impl.Modulus)},
		{"From below 0", list{contact(0, 1, -1, 8)}, 5, nil}, {"From below 0, at From", list{contact(0, 1, -1, 8)}, -1, nil}, {"From equal to To", list{contact(0, 1, 5, 5)}, 5, nil}, {"From greater than To", list{contact(0, 1, 8, 5)}, 6, nil}, {"From greater than To, at From", list{contact(0, 1, 8, 5)}, 8, nil}, {"To beyond MaxTick", list{contact(0, 1, 5, maxTick+1)}, 5, nil}, {"To beyond MaxTick, at MaxTick", list{contact(0, 1, 5, maxTick+1)}, maxTick, nil}, {"the ends of int's range", list{contact(0, 1, math.MinInt, math.MaxInt), contact(0, 1, math.MaxInt, math.MinInt)}, 5, nil}, {"none valid", contactsIn(0, 1, invalidSpans()), 5, nil},
		{"invalid before valid", list{contact(0, 1, -1, 8), contact(0, 2, 5, 8), contact(0, 1, 5, 8)}, 5, links(0, 2, 0, 1)}, {"invalid among others", slices.Concat(contactsIn(0, 1, invalidSpans()), list{contact(0, 2, 5, 8)}, contactsIn(0, 2, invalidSpans())), 5, links(0, 2)},
		// At From - 1, From, To - 1 and To, and where two of one tick touch.
		{"From - 1", list{contact(0, 1, 5, 8)}, 4, nil}, {"From", list{contact(0, 1, 5, 8)}, 5, links(0, 1)}, {"To - 1", list{contact(0, 1, 5, 8)}, 7, links(0, 1)}, {"To", list{contact(0, 1, 5, 8)}, 8, nil}, {"of one tick, From - 1", list{contact(0, 1, 5, 6)}, 4, nil}, {"of one tick", list{contact(0, 1, 5, 6)}, 5, links(0, 1)}, {"of one tick, To", list{contact(0, 1, 5, 6)}, 6, nil}, {"one ends as another one begins", list{contact(0, 1, 5, 8), contact(0, 2, 8, 9)}, 8, links(0, 2)}, {"one ends before another one begins", list{contact(0, 1, 5, 8), contact(0, 2, 9, 10)}, 8, nil},
		// At the ends of the ticks.
		{"-1", list{contact(0, 1, 0, maxTick)}, -1, nil}, {"0", list{contact(0, 1, 0, 1)}, 0, links(0, 1)}, {"1", list{contact(0, 1, 0, 1)}, 1, nil}, {"MaxTick - 1", list{contact(0, 1, 0, maxTick), contact(0, 2, maxTick-1, maxTick)}, maxTick - 1, links(0, 1, 0, 2)}, {"MaxTick - 2", list{contact(0, 1, 0, maxTick), contact(0, 2, maxTick-1, maxTick)}, maxTick - 2, links(0, 1)}, {"MaxTick", list{contact(0, 1, 0, maxTick), contact(0, 2, maxTick, maxTick+1)}, maxTick, nil}, {"the least int", list{contact(0, 1, 0, maxTick), contact(0, 1, math.MinInt, 5)}, math.MinInt, nil}, {"the greatest int", list{contact(0, 1, 0, maxTick), contact(0, 1, 5, math.MaxInt)}, math.MaxInt, nil}, {"the greatest int but one", list{contact(0, 1, 5, math.MaxInt)}, math.MaxInt - 1, nil},
	}
	for _, c := range cases {
		checkLinks(t, c.what, c.l, c.tick, c.want)
		checkLinks(t, c.what+", twice", slices.Concat(c.l, c.l), c.tick, c.want)
	}
	for _, l := range contactLists() {
		for _, tick := range tickSamples() {
			checkLinks(t, "each tick", l, tick, wantLinks(l, tick))
		}
	}
	checkLinks(t, "very many", slices.Repeat(timePlan(), 20000), 4, links(0, 1, 0, 2))
}

// TestLinksAreWhoCanSpeak asks for plans, in which each link has the lesser node first.
func TestLinksAreWhoCanSpeak(t *testing.T) {
	for _, s := range []impl.Sky{acquiring(planSky(), 2), acquiring(silenceSky(), 1), calmSky()} {
		plan := impl.PlanOf(s, 3, 60)
		for tick := -2; tick < 65; tick++ {
			want := []impl.Link{}
			for a := range impl.NodesOf(s) {
				for b := a + 1; b < impl.NodesOf(s); b++ {
					if impl.CanSpeak(plan, a, b, tick) {
						want = append(want, link(a, b))
					}
				}
			}
			checkLinks(t, "plan", plan, tick, want)
		}
	}
}

func TestSameLinks(t *testing.T) {
	l := links(0, 1, 0, 3, 2, 4)
	cases := []struct {
		what string
		a, b []impl.Link
		want bool
	}{
		{"nil", nil, nil, true}, {"nil and empty", nil, []impl.Link{}, true}, {"empty", []impl.Link{}, []impl.Link{}, true}, {"nil and one", nil, links(0, 1), false}, {"empty and the zero value", []impl.Link{}, []impl.Link{{}}, false}, {"the zero value", []impl.Link{{}}, []impl.Link{{}}, true}, {"none and several", nil, l, false},
		{"one", links(0, 1), links(0, 1), true}, {"several", l, links(0, 1, 0, 3, 2, 4), true}, {"longer by one at the end", l, links(0, 1, 0, 3, 2, 4, 3, 4), false}, {"longer by one at the beginning", l, links(0, 0, 0, 1, 0, 3, 2, 4), false}, {"longer by one in the middle", l, links(0, 1, 0, 2, 0, 3, 2, 4), false}, {"longer by the zero value", l, append(slices.Clone(l), impl.Link{}), false}, {"twice as long", l, slices.Concat(l, l), false},
		{"another order", links(0, 1, 0, 2), links(0, 2, 0, 1), false}, {"another order of the last two", l, links(0, 1, 2, 4, 0, 3), false}, {"the other way", l, links(2, 4, 0, 3, 0, 1), false}, {"rotated", l, links(2, 4, 0, 1, 0, 3), false},
		{"another A first", l, links(1, 1, 0, 3, 2, 4), false}, {"another A in the middle", l, links(0, 1, 1, 3, 2, 4), false}, {"another A last", l, links(0, 1, 0, 3, 3, 4), false}, {"another B first", l, links(0, 2, 0, 3, 2, 4), false}, {"another B in the middle", l, links(0, 1, 0, 2, 2, 4), false}, {"another B last", l, links(0, 1, 0, 3, 2, 5), false}, {"A and B exchanged", links(0, 1), links(1, 0), false}, {"A and B exchanged last", l, links(0, 1, 0, 3, 4, 2), false}, {"all exchanged", l, links(1, 0, 3, 0, 4, 2), false}, {"ends of two links exchanged", links(0, 1, 2, 3), links(0, 3, 2, 1), false}, {"ends of two links moved", links(0, 1, 2, 3), links(1, 2, 3, 0), false},
		{"one and the same twice", links(0, 1), links(0, 1, 0, 1), false}, {"the same twice", links(0, 1, 0, 1), links(0, 1, 0, 1), true}, {"another one twice", links(0, 1, 0, 1, 0, 2), links(0, 1, 0, 2, 0, 2), false}, {"twice, in another order", links(0, 1, 0, 2, 0, 1), links(0, 1, 0, 1, 0, 2), false},
		{"below 0", links(-1, -2), links(-1, -2), true}, {"the sign of A", links(-1, 2), links(1, 2), false}, {"the sign of B", links(1, -2), links(1, 2), false}, {"the ends of int", links(math.MinInt, math.MaxInt), links(math.MinInt, math.MaxInt), true}, {"the ends of int exchanged", links(math.MinInt, math.MaxInt), links(math.MaxInt, math.MinInt), false}, {"beyond 32 bits", links(0, 1), links(1<<32, 1), false}, {"the highest bit", links(0, 1), links(math.MinInt, 1), false}, {"the highest bit of B", links(0, 0), links(0, math.MinInt), false},
		{"the same hash, by Modulus", links(0, 1), links(0, 1+impl.Modulus), false}, {"the same hash, by Modulus below 0", links(0, 1), links(-impl.Modulus, 1), false}, {"the same hash as no link", nil, links(0, 1479723441), false}, {"the same hash, of valid nodes", links(0, 1, 0, 6, 3, 4, 4, 10), links(0, 1, 2, 6, 3, 6, 5, 9, 8, 10), false},
	}
	for _, c := range cases {
		checkSame(t, c.what, c.a, c.b, c.want)
		checkSame(t, c.what+", the first with itself", c.a, slices.Clone(c.a), true)
		checkSame(t, c.what+", the second with itself", c.b, slices.Clone(c.b), true)
		checkSame(t, c.what+", behind others", slices.Concat(l, c.a), slices.Concat(l, c.b), c.want)
		checkSame(t, c.what+", before others", slices.Concat(c.a, l), slices.Concat(c.b, l), c.want)
	}
	same := slices.Repeat(l, 10000)
	checkSame(t, "very many", same, slices.Clone(same), true)
	checkSame(t, "very many, and one more", same, append(slices.Clone(same), link(0, 1)), false)
}

func TestChangesOf(t *testing.T) {
	type list = []impl.Contact
	cases := []struct {
		what string
		l    list
		want []int
	}{
		{"nil", nil, nil}, {"empty", list{}, nil}, {"the zero value", list{{}}, nil}, {"all ticks", contactsIn(0, 1, spans(0, maxTick)), nil},
		{"one", contactsIn(0, 1, spans(5, 8)), []int{5, 8}}, {"of one tick", contactsIn(0, 1, spans(5, 6)), []int{5, 6}}, {"two apart", list{contact(0, 1, 5, 8), contact(0, 2, 10, 12)}, []int{5, 8, 10, 12}}, {"two that overlap", list{contact(0, 1, 5, 8), contact(0, 2, 7, 12)}, []int{5, 7, 8, 12}}, {"one in the other", list{contact(0, 1, 5, 12), contact(0, 2, 7, 8)}, []int{5, 7, 8, 12}}, {"two at once", list{contact(0, 1, 5, 8), contact(0, 2, 5, 8)}, []int{5, 8}}, {"out of order", list{contact(2, 3, 10, 12), contact(0, 1, 5, 8)}, []int{5, 8, 10, 12}},
		// Links vanish and come back.
		{"back after one tick", contactsIn(0, 1, spans(2, 5, 6, 9)), []int{2, 5, 6, 9}}, {"back after two ticks", contactsIn(0, 1, spans(2, 5, 7, 9)), []int{2, 5, 7, 9}}, {"back after several ticks", contactsIn(0, 1, spans(2, 5, 50, 90)), []int{2, 5, 50, 90}}, {"back after one tick, twice", contactsIn(0, 1, spans(2, 3, 4, 5, 6, 7)), []int{2, 3, 4, 5, 6, 7}}, {"back after one tick, out of order", contactsIn(0, 1, spans(6, 9, 2, 5)), []int{2, 5, 6, 9}}, {"back after one tick, by another one that goes on", append(contactsIn(0, 1, spans(2, 5, 6, 9)), contact(0, 2, 0, maxTick)), []int{2, 5, 6, 9}}, {"there for one tick", append(contactsIn(0, 1, spans(5, 6)), contact(0, 2, 0, maxTick)), []int{5, 6}}, {"two at once, back after one tick", append(contactsIn(0, 1, spans(2, 5, 6, 9)), contactsIn(0, 2, spans(2, 5, 6, 9))...), []int{2, 5, 6, 9}}, {"one vanishes as the other one comes back", append(contactsIn(0, 1, spans(2, 5, 8, 11)), contactsIn(0, 2, spans(5, 8, 11, 14))...), []int{2, 5, 8, 11, 14}}, {"gone, but for a contact that goes on", contactsIn(0, 1, spans(2, 5, 6, 9, 4, 7)), []int{2, 9}},
		// One link ends where another one begins: there are equally many.
		{"in turn", list{contact(0, 1, 2, 5), contact(0, 2, 5, 8)}, []int{2, 5, 8}}, {"in turn, by one tick each", list{contact(0, 1, 2, 3), contact(0, 2, 3, 4), contact(1, 2, 4, 5)}, []int{2, 3, 4, 5}}, {"in turn, by another B", list{contact(1, 2, 2, 5), contact(1, 3, 5, 8)}, []int{2, 5, 8}}, {"in turn, by another A", list{contact(1, 3, 2, 5), contact(2, 3, 5, 8)}, []int{2, 5, 8}}, {"in turn, the wrong way round", list{contact(1, 2, 2, 5), contact(2, 1, 5, 8)}, []int{2, 5, 8}}, {"in turn, with one that goes on", list{contact(0, 1, 0, 100), contact(0, 2, 2, 5), contact(1, 2, 5, 8)}, []int{2, 5, 8, 100}}, {"not quite in turn", list{contact(0, 1, 2, 5), contact(0, 2, 6, 8)}, []int{2, 5, 6, 8}},
		// Contacts of the same nodes that touch or overlap change nothing.
		{"touching", contactsIn(0, 1, spans(2, 5, 5, 8)), []int{2, 8}}, {"touching, out of order", contactsIn(0, 1, spans(5, 8, 2, 5)), []int{2, 8}}, {"touching, of one tick each", contactsIn(0, 1, spans(2, 3, 3, 4, 4, 5)), []int{2, 5}}, {"overlapping", contactsIn(0, 1, spans(2, 5, 4, 8)), []int{2, 8}}, {"one in the other, of the same nodes", contactsIn(0, 1, spans(2, 8, 4, 5)), []int{2, 8}}, {"the same twice", contactsIn(0, 1, spans(2, 8, 2, 8)), []int{2, 8}}, {"touching, as another one begins", list{contact(0, 1, 2, 5), contact(0, 1, 5, 8), contact(0, 2, 5, 6)}, []int{2, 5, 6, 8}}, {"touching, with another one", list{contact(0, 1, 2, 5), contact(0, 1, 5, 8), contact(0, 2, 0, 20)}, []int{2, 8, 20}},
		// The order of the links is that of the contacts, and changes with them.
		{"only the order", list{contact(0, 1, 2, 5), contact(0, 2, 2, 8), contact(0, 1, 5, 8)}, []int{2, 5, 8}}, {"only the order, where both overlap", list{contact(0, 1, 2, 5), contact(0, 2, 2, 8), contact(0, 1, 4, 8)}, []int{2, 5, 8}}, {"only the order, there and back", list{contact(0, 1, 2, 4), contact(0, 1, 6, 8), contact(0, 2, 2, 8), contact(0, 1, 2, 8)}, []int{2, 4, 6, 8}}, {"only the order of three", list{contact(0, 1, 2, 5), contact(0, 2, 2, 5), contact(1, 2, 2, 8), contact(0, 2, 5, 8), contact(0, 1, 5, 8)}, []int{2, 5, 8}}, {"not the order", list{contact(0, 2, 2, 8), contact(0, 1, 2, 5), contact(0, 1, 5, 8)}, []int{2, 8}},
		// At the ends of the ticks.
		{"at 0", contactsIn(0, 1, spans(0, 5)), []int{5}}, {"only the tick 0", contactsIn(0, 1, spans(0, 1)), []int{1}}, {"at 1", contactsIn(0, 1, spans(1, 5)), []int{1, 5}}, {"not in the tick 1", contactsIn(0, 1, spans(0, 1, 2, maxTick)), []int{1, 2}}, {"only the last tick", contactsIn(0, 1, spans(maxTick-1, maxTick)), []int{maxTick - 1}}, {"not in the last tick", contactsIn(0, 1, spans(0, maxTick-1)), []int{maxTick - 1}}, {"not in the last tick but one", contactsIn(0, 1, spans(0, maxTick-2, maxTick-1, maxTick)), []int{maxTick - 2, maxTick - 1}}, {"in turn in the last tick", list{contact(0, 1, 0, maxTick-1), contact(0, 2, maxTick-1, maxTick)}, []int{maxTick - 1}}, {"up to MaxTick", contactsIn(0, 1, spans(5, maxTick)), []int{5}}, {"all but both ends", contactsIn(0, 1, spans(1, maxTick-1)), []int{1, maxTick - 1}},
		// Contacts that are not valid, and nodes that are not.
		{"none valid", contactsIn(0, 1, invalidSpans()), nil}, {"invalid among others", slices.Concat(contactsIn(0, 1, invalidSpans()), list{contact(0, 2, 5, 8)}, contactsIn(0, 2, invalidSpans())), []int{5, 8}}, {"invalid ones bridge nothing", contactsIn(0, 1, spans(2, 5, -1, 9, 5, 5, 6, 4, 4, maxTick+1, 6, 9)), []int{2, 5, 6, 9}}, {"equal nodes", contactsIn(3, 3, spans(5, 8)), []int{5, 8}}, {"nodes below 0", contactsIn(-3, -5, spans(5, 8)), []int{5, 8}}, {"the ends of int", list{contact(math.MinInt, math.MaxInt, 2, 5), contact(math.MaxInt, math.MinInt, 5, 8)}, []int{2, 5, 8}}, {"the wrong way round", contactsIn(7, 2, spans(2, 5, 5, 8)), []int{2, 8}},
		{"all together", timePlan(), []int{2, 5, 6, 12, 13, 20, 30, 31, 32, 40, 900, maxTick - 1}},
	}
	for _, c := range cases {
		for _, ends := range [][2]int{{0, maxTick}, {-1, maxTick}, {0, maxTick + 1}, {-100, 2000}, {math.MinInt, math.MaxInt}, {math.MinInt + 1, math.MinInt}, {math.MaxInt, math.MinInt}, {math.MaxInt, math.MaxInt}} {
			checkChanges(t, c.what, c.l, ends[0], ends[1], c.want)
			checkChanges(t, c.what+", twice", slices.Concat(c.l, c.l), ends[0], ends[1], c.want)
		}
		checkPieces(t, c.what, c.l, 0, maxTick, wantPieces(c.l, 0, maxTick))
	}
}

// TestChangesAtTheEndsOfRanges has a link that begins or ends at each tick around both ends of a range.
func TestChangesAtTheEndsOfRanges(t *testing.T) {
	for _, ends := range [][2]int{{50, 60}, {50, 55}, {50, 53}, {50, 52}, {50, 51}, {50, 50}, {51, 50}, {0, 10}, {0, 1}, {1, 2}, {-1, 5}, {-5, 5}, {maxTick - 6, maxTick}, {maxTick - 2, maxTick}, {maxTick - 1, maxTick}, {maxTick - 6, maxTick - 1}, {maxTick - 6, maxTick + 1}, {maxTick - 6, maxTick + 50}} {
		from, to := ends[0], ends[1]
		for at := max(0, from-3); at <= min(to+3, maxTick); at++ {
			want := []int{}
			if from < at && at < to && 1 <= at && at < maxTick {
				want = []int{at}
			}
			if at < maxTick {
				checkChanges(t, "begins", contactsIn(0, 1, spans(at, maxTick)), from, to, want)
			}
			if 0 < at {
				checkChanges(t, "ends", contactsIn(0, 1, spans(0, at)), from, to, want)
			}
			if 0 < at && at < maxTick {
				checkChanges(t, "in turn", append(contactsIn(0, 1, spans(0, at)), contact(0, 2, at, maxTick)), from, to, want)
				checkChanges(t, "touching", contactsIn(0, 1, spans(0, at, at, maxTick)), from, to, nil)
			}
		}
	}
	cases := []struct {
		what string
		want []int
		l    []impl.Contact
	}{
		{"begins at from", nil, contactsIn(0, 1, spans(50, 70))}, {"begins at from + 1", []int{51}, contactsIn(0, 1, spans(51, 70))}, {"begins at to - 1", []int{59}, contactsIn(0, 1, spans(59, 70))}, {"begins at to", nil, contactsIn(0, 1, spans(60, 70))}, {"ends at from", nil, contactsIn(0, 1, spans(40, 50))}, {"ends at from + 1", []int{51}, contactsIn(0, 1, spans(40, 51))}, {"ends at to - 1", []int{59}, contactsIn(0, 1, spans(40, 59))}, {"ends at to", nil, contactsIn(0, 1, spans(40, 60))},
		{"from from to to", nil, contactsIn(0, 1, spans(50, 60))}, {"between both", []int{51, 59}, contactsIn(0, 1, spans(51, 59))}, {"each tick between both", []int{51, 52, 53, 54, 55, 56, 57, 58, 59}, contactsIn(0, 1, spans(49, 50, 51, 52, 53, 54, 55, 56, 57, 58, 59, 60))}, {"gone at from only", []int{51}, contactsIn(0, 1, spans(40, 50, 51, 70))}, {"gone at to - 1 only", []int{59}, contactsIn(0, 1, spans(40, 59, 60, 70))}, {"outside only", nil, contactsIn(0, 1, spans(40, 48, 49, 50, 60, 61, 63, 70))},
	}
	for _, c := range cases {
		checkChanges(t, c.what, c.l, 50, 60, c.want)
	}
}

func TestChangesOfManyRanges(t *testing.T) {
	l := contactsIn(0, 1, spans(0, 1, 2, 8, 9, 500, maxTick-1, maxTick))
	all := []int{1, 2, 8, 9, 500, maxTick - 1}
	cases := []struct {
		from, to int
		want     []int
	}{
		{0, maxTick, all}, {-1, maxTick + 1, all}, {0, maxTick - 1, []int{1, 2, 8, 9, 500}}, {1, maxTick, []int{2, 8, 9, 500, maxTick - 1}}, {0, 2, []int{1}}, {0, 3, []int{1, 2}}, {1, 9, []int{2, 8}}, {2, 9, []int{8}}, {2, 8, nil}, {8, 500, []int{9}}, {7, 501, []int{8, 9, 500}}, {500, maxTick - 1, nil}, {499, maxTick - 1, []int{500}},
		// from equal to to, greater than to, and less by one.
		{8, 8, nil}, {9, 8, nil}, {500, 8, nil}, {8, 9, nil}, {7, 8, nil}, {0, 0, nil}, {0, 1, nil}, {1, 0, nil}, {maxTick, maxTick, nil}, {maxTick - 1, maxTick, nil}, {maxTick - 2, maxTick, []int{maxTick - 1}}, {maxTick, 0, nil},
		// Below 0 and beyond MaxTick.
		{-5, 3, []int{1, 2}}, {-1, 2, []int{1}}, {-2, 1, nil}, {-5, -1, nil}, {-1, 0, nil}, {-1, -5, nil}, {5, -5, nil}, {499, maxTick + 1, []int{500, maxTick - 1}}, {499, 2000, []int{500, maxTick - 1}}, {maxTick - 2, 2000, []int{maxTick - 1}}, {maxTick - 1, 2000, nil}, {maxTick, 2000, nil}, {2000, 3000, nil}, {2000, 5, nil},
		// The ends of int's range.
		{math.MinInt, math.MaxInt, all}, {math.MinInt, maxTick, all}, {0, math.MaxInt, all}, {math.MinInt + 1, math.MaxInt - 1, all}, {math.MinInt, 9, []int{1, 2, 8}}, {7, math.MaxInt, []int{8, 9, 500, maxTick - 1}}, {math.MinInt, math.MinInt + 1, nil}, {math.MinInt, math.MinInt + 2, nil}, {0, math.MinInt + 1, nil}, {math.MaxInt - 1, math.MaxInt, nil}, {math.MaxInt - 1, 9, nil}, {math.MaxInt - 1, maxTick, nil}, {math.MaxInt - 2, math.MaxInt, nil},
		// One more than math.MaxInt is math.MinInt, and one less than that is math.MaxInt.
		{math.MaxInt, maxTick, all}, {math.MaxInt, 9, []int{1, 2, 8}}, {math.MaxInt, 2, []int{1}}, {math.MaxInt, 1, nil}, {math.MaxInt, 0, nil}, {math.MaxInt, -1, nil}, {math.MaxInt, math.MaxInt, all}, {math.MaxInt, math.MaxInt - 1, all}, {math.MaxInt, math.MinInt + 1, nil}, {0, math.MinInt, all}, {7, math.MinInt, []int{8, 9, 500, maxTick - 1}}, {maxTick - 2, math.MinInt, []int{maxTick - 1}}, {maxTick - 1, math.MinInt, nil}, {maxTick, math.MinInt, nil}, {-1, math.MinInt, all}, {math.MinInt, math.MinInt, all}, {math.MaxInt, math.MinInt, all}, {math.MaxInt - 1, math.MinInt, nil},
	}
	for _, c := range cases {
		checkChanges(t, "literal", l, c.from, c.to, c.want)
		checkChanges(t, "none", nil, c.from, c.to, nil)
		checkChanges(t, "all ticks", contactsIn(0, 1, spans(0, maxTick)), c.from, c.to, nil)
	}
	for _, list := range contactLists() {
		changes := wantChanges(list, 0, maxTick)
		for _, from := range rangeEnds() {
			for _, to := range rangeEnds() {
				want := slices.DeleteFunc(slices.Clone(changes), func(tick int) bool { return !afterFrom(tick, from) || !inRange(tick, 0, to) })
				checkChanges(t, "each range", list, from, to, want)
			}
		}
	}
}

// TestChangesWithTheSameHash has different links in turn, of which the numbers A and B, one after the other, have the same Hash.
func TestChangesWithTheSameHash(t *testing.T) {
	const m = impl.Modulus
	cases := []struct {
		what string
		a, b []impl.Link
	}{
		{"A by Modulus", links(0, 1), links(m, 1)}, {"B by Modulus", links(0, 1), links(0, 1+m)}, {"both by Modulus", links(0, 1), links(m, 1+m)}, {"A by Modulus below 0", links(0, 1), links(-m, 1)}, {"B by Modulus below 0", links(3, 5), links(3, 5-m)}, {"by many times Modulus", links(3, 5), links(3+m<<31, 5-m<<31)}, {"the last one of three", links(0, 1, 0, 2, 1, 2), links(0, 1, 0, 2, 1, 2+m)}, {"the ends of int", links(math.MinInt, math.MaxInt), links(math.MinInt+m, math.MaxInt-m)},
		{"none and one", nil, links(0, 1479723441)}, {"none and another one", nil, links(1, 1478723438)}, {"one and none", links(2, 1477723435), nil}, {"valid nodes", links(0, 1, 0, 6, 3, 4, 4, 10), links(0, 1, 2, 6, 3, 6, 5, 9, 8, 10)}, {"other valid nodes", links(0, 2, 0, 4, 1, 3, 1, 8), links(0, 1, 2, 7, 3, 4, 3, 8, 5, 8)}, {"more valid nodes", links(1, 5, 1, 7, 3, 5, 6, 11), links(0, 1, 3, 10, 4, 7, 5, 10, 10, 11)},
	}
	numbers := func(l []impl.Link) []int {
		n := []int{}
		for _, x := range l {
			n = append(n, x.A, x.B)
		}
		return n
	}
	for _, c := range cases {
		if impl.Hash(numbers(c.a)) != impl.Hash(numbers(c.b)) {
			t.Errorf("%s: %v and %v have not the same hash", c.what, c.a, c.b)
		}
		checkSame(t, c.what, c.a, c.b, false)
		l := slices.Concat(during(0, 5, c.a), during(5, 6, c.b), during(6, maxTick, c.a))
		checkChanges(t, c.what, l, 0, maxTick, []int{5, 6})
		checkPieces(t, c.what, l, 3, 9, spans(3, 5, 5, 6, 6, 9))
		checkLinks(t, c.what, l, 5, c.b)
		checkLinks(t, c.what, l, 6, c.a)
	}
}

func TestPiecesOf(t *testing.T) {
	type list = []impl.Contact
	back := contactsIn(0, 1, spans(2, 5, 6, 9))
	each := contactsIn(0, 1, spans(51, 52, 53, 54, 55, 56, 57, 58))
	cases := []struct {
		what     string
		l        list
		from, to int
		want     []impl.Span
	}{
		{"nil", nil, 0, 20, spans(0, 20)}, {"empty", list{}, 5, 6, spans(5, 6)}, {"the zero value", list{{}}, 0, 20, spans(0, 20)}, {"no contact, all ticks", nil, 0, maxTick, spans(0, maxTick)}, {"no change", contactsIn(0, 1, spans(0, maxTick)), 0, maxTick, spans(0, maxTick)}, {"no change in the range", contactsIn(0, 1, spans(5, 80)), 10, 20, spans(10, 20)}, {"none valid", contactsIn(0, 1, invalidSpans()), 0, 20, spans(0, 20)},
		{"one change", contactsIn(0, 1, spans(5, 80)), 0, 20, spans(0, 5, 5, 20)}, {"a change at from", contactsIn(0, 1, spans(5, 80)), 5, 20, spans(5, 20)}, {"a change at from + 1", contactsIn(0, 1, spans(5, 80)), 4, 20, spans(4, 5, 5, 20)}, {"a change at to - 1", contactsIn(0, 1, spans(5, 80)), 0, 6, spans(0, 5, 5, 6)}, {"a change at to", contactsIn(0, 1, spans(5, 80)), 0, 5, spans(0, 5)},
		{"back after one tick", back, 0, 20, spans(0, 2, 2, 5, 5, 6, 6, 9, 9, 20)}, {"back after one tick, from there on", back, 5, 20, spans(5, 6, 6, 9, 9, 20)}, {"back after one tick, up to there", back, 0, 6, spans(0, 2, 2, 5, 5, 6)}, {"back after one tick, only there", back, 5, 6, spans(5, 6)}, {"back after one tick, around it", back, 4, 7, spans(4, 5, 5, 6, 6, 7)}, {"back after several ticks", contactsIn(0, 1, spans(2, 5, 50, 90)), 3, 60, spans(3, 5, 5, 50, 50, 60)}, {"one vanishes as another one comes back", append(contactsIn(0, 1, spans(2, 5, 8, 11)), contactsIn(0, 2, spans(5, 8, 11, 14))...), 3, 13, spans(3, 5, 5, 8, 8, 11, 11, 13)},
		{"touching", contactsIn(0, 1, spans(2, 5, 5, 8)), 3, 20, spans(3, 8, 8, 20)}, {"in turn", list{contact(0, 1, 2, 5), contact(0, 2, 5, 8)}, 3, 20, spans(3, 5, 5, 8, 8, 20)}, {"only the order", list{contact(0, 1, 2, 5), contact(0, 2, 2, 8), contact(0, 1, 5, 8)}, 3, 20, spans(3, 5, 5, 8, 8, 20)},
		{"each tick", each, 50, 60, spans(50, 51, 51, 52, 52, 53, 53, 54, 54, 55, 55, 56, 56, 57, 57, 58, 58, 60)}, {"each tick of the range", each, 52, 56, spans(52, 53, 53, 54, 54, 55, 55, 56)}, {"two of them", each, 52, 54, spans(52, 53, 53, 54)},
		// Ranges of one tick, and up to MaxTick.
		{"one tick", timePlan(), 4, 5, spans(4, 5)}, {"the tick 0", timePlan(), 0, 1, spans(0, 1)}, {"the tick 0, where it is the only one", contactsIn(0, 1, spans(0, 1)), 0, 2, spans(0, 1, 1, 2)}, {"the last tick", timePlan(), maxTick - 1, maxTick, spans(maxTick-1, maxTick)}, {"the last two ticks", timePlan(), maxTick - 2, maxTick, spans(maxTick-2, maxTick-1, maxTick-1, maxTick)}, {"up to MaxTick - 1", timePlan(), 899, maxTick - 1, spans(899, 900, 900, maxTick-1)}, {"up to MaxTick", timePlan(), 899, maxTick, spans(899, 900, 900, maxTick-1, maxTick-1, maxTick)}, {"all but the ends", contactsIn(0, 1, spans(1, maxTick-1)), 0, maxTick, spans(0, 1, 1, maxTick-1, maxTick-1, maxTick)}, {"all together", timePlan(), 0, maxTick, spans(0, 2, 2, 5, 5, 6, 6, 12, 12, 13, 13, 20, 20, 30, 30, 31, 31, 32, 32, 40, 40, 900, 900, maxTick-1, maxTick-1, maxTick)},
	}
	for _, c := range cases {
		checkPieces(t, c.what, c.l, c.from, c.to, c.want)
		checkPieces(t, c.what+", twice", slices.Concat(c.l, c.l), c.from, c.to, c.want)
	}
	for _, l := range contactLists() {
		changes := wantChanges(l, 0, maxTick)
		for _, x := range invalidSpans() {
			checkPieces(t, "not valid", l, x.From, x.To, nil)
		}
		for _, from := range rangeEnds() {
			for _, to := range rangeEnds() {
				checkPieces(t, "each range", l, from, to, piecesAt(changes, from, to))
			}
		}
	}
	// With changes at all ticks that have one.
	odd := []impl.Span{}
	single := []impl.Span{}
	for tick := range maxTick {
		if tick%2 == 1 {
			odd = append(odd, span(tick, tick+1))
		}
		single = append(single, span(tick, tick+1))
	}
	checkPieces(t, "each tick of all", contactsIn(0, 1, odd), 0, maxTick, single)
	checkPieces(t, "no tick of all", contactsIn(0, 1, single), 0, maxTick, spans(0, maxTick))
	checkPieces(t, "very many", slices.Repeat(timePlan(), 5000), 3, 10, spans(3, 5, 5, 6, 6, 10))
}

// checkConstant is promise 13 for a range: the pieces follow one another from from to to, the links of all ticks of a piece are the same, and those of two pieces that meet are not.
func checkConstant(t *testing.T, l []impl.Contact, from int, to int) []impl.Span {
	t.Helper()
	pieces := impl.PiecesOf(l, from, to)
	at := from
	for i, x := range pieces {
		if x.From != at || x.To <= x.From {
			t.Errorf("PiecesOf(%+v, %d, %d) = %v, but %d should be at %d", l, from, to, pieces, i, at)
		}
		at = x.To
		first := impl.LinksAt(l, x.From)
		for tick := x.From; tick < x.To; tick++ {
			checkSame(t, "in a piece", impl.LinksAt(l, tick), first, true)
		}
		if i > 0 {
			checkSame(t, "where two pieces meet", impl.LinksAt(l, x.From-1), first, false)
		}
	}
	if at != to {
		t.Errorf("PiecesOf(%+v, %d, %d) = %v ends at %d", l, from, to, pieces, at)
	}
	return pieces
}

// randomContacts has few nodes and ticks from low on, so that contacts often touch, overlap and come back. Some are not valid.
func randomContacts(random *rand.Rand, low int) []impl.Contact {
	l := []impl.Contact{}
	for range random.Intn(12) {
		from := low + random.Intn(24)
		a := random.Intn(4) - 1
		l = append(l, contact(a, a+random.Intn(3), from, from+random.Intn(10)-random.Intn(3)))
	}
	return l
}

func TestLinksDoNotChangeWithinAPiece(t *testing.T) {
	random := rand.New(rand.NewSource(13))
	several := 0
	for range 2000 {
		low := []int{-2, 0, 50, maxTick - 22}[random.Intn(4)]
		l := randomContacts(random, low)
		changes := wantChanges(l, 0, maxTick)
		for range 3 {
			from := max(0, low+random.Intn(30)-4)
			to := min(maxTick, from+1+random.Intn(30))
			if to <= from {
				continue
			}
			pieces := checkConstant(t, l, from, to)
			checkPieces(t, "random", l, from, to, piecesAt(changes, from, to))
			if len(pieces) > 3 {
				several++
			}
			for tick := from - 1; tick <= to; tick++ {
				checkLinks(t, "random", l, tick, wantLinks(l, tick))
			}
		}
	}
	if several == 0 {
		t.Error("no list has several pieces")
	}
	for _, l := range contactLists() {
		checkConstant(t, l, 0, maxTick)
	}
	for range 20 {
		l := slices.Concat(randomContacts(random, -2), randomContacts(random, 490), randomContacts(random, maxTick-22))
		checkConstant(t, l, 0, maxTick)
		checkGraph(t, "random, of all ticks", l, 0, maxTick)
		checkGraph(t, "random, of all ticks and beyond", l, -5, maxTick+5)
	}
}

// TestGraphsOfPlans has the plans of skies, as they are and under clouds.
func TestGraphsOfPlans(t *testing.T) {
	random := rand.New(rand.NewSource(131))
	for _, s := range []impl.Sky{acquiring(planSky(), 2), acquiring(silenceSky(), 1), calmSky()} {
		plan := impl.PlanOf(s, 3, 60)
		clouds := []impl.Cloud{}
		for range 8 {
			from := random.Intn(60)
			clouds = append(clouds, cloud(random.Intn(impl.NodesOf(s)), from, from+1+random.Intn(8)*random.Intn(2)))
		}
		for _, l := range [][]impl.Contact{plan, impl.CutClouds(plan, clouds)} {
			checkConstant(t, l, 0, 70)
			checkGraph(t, "plan", l, 0, 70)
			for tick := range 70 {
				at := impl.LinksAt(l, tick)
				for a := range impl.NodesOf(s) {
					want := []int{}
					for b := range impl.NodesOf(s) {
						if impl.CanSpeak(l, a, b, tick) {
							want = append(want, b)
						}
					}
					checkNeighborsIn(t, "plan", at, a, want...)
				}
			}
		}
	}
}

func TestNeighborsIn(t *testing.T) {
	const least, greatest = math.MinInt, math.MaxInt
	l := links(0, 3, 1, 0, 2, 3, 4, 5, 0, 7, -1, 0)
	cases := []struct {
		what string
		l    []impl.Link
		node int
		want []int
	}{
		{"nil", nil, 0, nil}, {"empty", []impl.Link{}, 0, nil}, {"without the node", links(1, 2, 3, 4), 0, nil}, {"without the node, below 0", links(0, 1, 3, 4), -1, nil}, {"without the node, beyond", links(0, 1, 3, 4), 5, nil},
		{"as A", links(2, 5), 2, []int{5}}, {"as B", links(2, 5), 5, []int{2}}, {"as A of several", links(2, 5, 2, 7, 2, 9), 2, []int{5, 7, 9}}, {"as A of several, out of order", links(2, 9, 2, 5, 2, 7), 2, []int{5, 7, 9}}, {"as B of several", links(1, 5, 2, 5, 4, 5), 5, []int{1, 2, 4}}, {"as A and as B", links(2, 5, 1, 2, 2, 3, 0, 2), 2, []int{0, 1, 3, 5}}, {"among others", links(0, 1, 2, 5, 3, 4, 1, 2, 1, 5), 2, []int{1, 5}}, {"of two digits", links(2, 10, 2, 9, 2, 11, 1, 2), 2, []int{1, 9, 10, 11}},
		{"the same twice", links(2, 5, 2, 5), 2, []int{5}}, {"the same twice, apart", links(2, 5, 2, 3, 2, 5, 1, 2, 2, 3), 2, []int{1, 3, 5}}, {"the same three times, as B", links(2, 5, 2, 5, 2, 5), 5, []int{2}}, {"the wrong way round", links(5, 2), 2, []int{5}}, {"both ways", links(2, 5, 5, 2), 2, []int{5}}, {"both ways, the other end", links(2, 5, 5, 2), 5, []int{2}}, {"several the wrong way round", links(9, 2, 2, 7, 5, 2), 2, []int{5, 7, 9}},
		{"itself", links(2, 2), 2, []int{2}}, {"itself twice", links(2, 2, 2, 2), 2, []int{2}}, {"itself and others", links(2, 5, 2, 2, 1, 2), 2, []int{1, 2, 5}}, {"another one itself", links(2, 2, 2, 5), 5, []int{2}}, {"only another one itself", links(2, 2), 5, nil}, {"0 itself", []impl.Link{{}}, 0, []int{0}},
		{"neighbors below 0", links(-3, 2, 2, -1, -2, 2, 2, 0), 2, []int{-3, -2, -1, 0}}, {"a node below 0", links(-3, 2, -3, -5, 4, -3), -3, []int{-5, 2, 4}}, {"the ends of int", links(2, greatest, least, 2, 2, 3, 2, greatest-1, least+1, 2), 2, []int{least, least + 1, 3, greatest - 1, greatest}}, {"the least int", links(least, greatest, least, 0, least, least), least, []int{least, 0, greatest}}, {"the greatest int", links(greatest, least, 0, greatest), greatest, []int{least, 0}}, {"nodes that differ beyond 32 bits", links(2, 5, 2, 1<<32+5, 1<<32+2, 7), 2, []int{5, 1<<32 + 5}},
		{"0 of many", l, 0, []int{-1, 1, 3, 7}}, {"1 of many", l, 1, []int{0}}, {"2 of many", l, 2, []int{3}}, {"3 of many", l, 3, []int{0, 2}}, {"4 of many", l, 4, []int{5}}, {"6 of many", l, 6, nil}, {"-1 of many", l, -1, []int{0}}, {"-2 of many", l, -2, nil}, {"the least int of many", l, least, nil}, {"the greatest int of many", l, greatest, nil},
	}
	for _, c := range cases {
		checkNeighborsIn(t, c.what, c.l, c.node, c.want...)
	}
	checkNeighborsIn(t, "very many", slices.Repeat(l, 20000), 0, -1, 1, 3, 7)
	random := rand.New(rand.NewSource(132))
	for range 2000 {
		list := []impl.Link{}
		for range random.Intn(14) {
			list = append(list, link(random.Intn(8)-2, random.Intn(8)-2))
		}
		for node := -3; node < 8; node++ {
			checkNeighborsIn(t, "random", list, node, wantOtherEnds(list, node)...)
		}
	}
}

// checkNewMemory overwrites a result with its spare capacity: neither an earlier one nor a later one may change with it.
func checkNewMemory[E comparable](t *testing.T, what string, over E, call func() []E) {
	t.Helper()
	first := call()
	kept := slices.Clone(first)
	fill(call(), over)
	if !slices.Equal(first, kept) || !slices.Equal(call(), kept) {
		t.Errorf("%s returns memory of another result", what)
	}
}

// TestGraphsChangeNothing has lists that lie in the midst of known memory, and overwrites each result.
func TestGraphsChangeNothing(t *testing.T) {
	for _, content := range append(contactLists(), timePlan()[3:]) {
		g := guard(content, contact(0, 1, 3, 9))
		checkNewMemory(t, "LinksAt", link(99, 99), func() []impl.Link { return impl.LinksAt(g.slice, 7) })
		checkNewMemory(t, "ChangesOf", 99, func() []int { return impl.ChangesOf(g.slice, 0, maxTick) })
		checkNewMemory(t, "PiecesOf", span(99, 99), func() []impl.Span { return impl.PiecesOf(g.slice, 0, maxTick) })
		checkNewMemory(t, "PiecesOf no ticks", span(99, 99), func() []impl.Span { return impl.PiecesOf(g.slice, 9, 9) })
		if g.changed() {
			t.Errorf("the contacts %+v are changed", content)
		}
	}
	for _, content := range [][]impl.Link{links(2, 9, 2, 5, 2, 7, 1, 2, 2, 5, 2, 2), links(2, 5), links(3, 5), {}} {
		g := guard(content, link(2, 77))
		checkNewMemory(t, "NeighborsIn", 99, func() []int { return impl.NeighborsIn(g.slice, 2) })
		impl.SameLinks(g.slice, links(2, 9))
		impl.SameLinks(g.slice, g.slice)
		if g.changed() {
			t.Errorf("the links %v are changed", content)
		}
	}
}

// TestGraphsIgnoreSpareCapacity cuts lists off before what would change each result.
func TestGraphsIgnoreSpareCapacity(t *testing.T) {
	l := []impl.Contact{contact(0, 1, 5, 8), contact(0, 1, 7, 20), contact(0, 2, 6, 7)}[:1]
	checkLinks(t, "spare capacity", l, 6, links(0, 1))
	checkLinks(t, "no contact", l[:0], 6, nil)
	checkChanges(t, "spare capacity", l, 0, 30, []int{5, 8})
	checkChanges(t, "no contact", l[:0], 0, 30, nil)
	checkPieces(t, "spare capacity", l, 0, 30, spans(0, 5, 5, 8, 8, 30))
	checkPieces(t, "no contact", l[:0], 0, 30, spans(0, 30))
	list := links(0, 1, 0, 2)
	checkSame(t, "spare capacity", list[:1], links(0, 1, 0, 3)[:1], true)
	checkSame(t, "no link", list[:0], links(0, 1)[:0], true)
	checkNeighborsIn(t, "spare capacity", list[:1], 0, 1)
	checkNeighborsIn(t, "no link", list[:0], 0)
}
