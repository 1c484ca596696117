package tests

import (
	"math"
	"math/rand"
	"slices"
	"testing"

	"loop.example/g00599/impl"
)

// runs takes a Count and a Next for each run.
func runs(numbers ...int) []impl.Run {
	l := []impl.Run{}
	for i := 0; i < len(numbers); i += 2 {
		l = append(l, impl.Run{Count: numbers[i], Next: numbers[i+1]})
	}
	return l
}

// equal has a number several times.
func equal(count int, next int) []int {
	return slices.Repeat([]int{next}, count)
}

// inTurn has runs of so many numbers each, which are 0, 1 and 2 in turn.
func inTurn(counts ...int) []impl.Run {
	l := []impl.Run{}
	for i, count := range counts {
		l = append(l, impl.Run{Count: count, Next: i % 3})
	}
	return l
}

// countsWith has the same Count for each run but the one at an index.
func countsWith(size int, count int, at int, other int) []int {
	l := equal(size, count)
	l[at] = other
	return l
}

// wrongCounts are out of the range 1 to 100. Each of them would be in it, or leave room for others, if it were cut off, turned round or added up beyond int's range.
func wrongCounts() []int {
	return append([]int{0, -1, -2, -3, -50, -99, -100, -101, 101, 102, 200, 1000, 1 << 32, 1<<32 + 1, -1 << 32, 1<<32 - 1, 1 << 62, 1<<62 + 1, -1 << 62}, endsOfInt()...)
}

// wantRuns asks where a number differs from the one before it.
func wantRuns(next []int) []impl.Run {
	begins := []int{}
	for i := range next {
		if i == 0 || next[i] != next[i-1] {
			begins = append(begins, i)
		}
	}
	l := []impl.Run{}
	for i, begin := range append(begins, len(next)) {
		if i > 0 {
			l = append(l, impl.Run{Count: begin - begins[i-1], Next: next[begins[i-1]]})
		}
	}
	return l
}

// wantCount is how many numbers the runs stand for; -1 if they stand for none, or for too many.
func wantCount(l []impl.Run) int {
	count := 0
	for _, r := range l {
		if r.Count < 1 || r.Count > 100 || count > 100 {
			return -1
		}
		count += r.Count
	}
	if count > 100 {
		return -1
	}
	return count
}

// wantNumber counts the runs down to the index.
func wantNumber(l []impl.Run, at int) int {
	if at < 0 || at >= wantCount(l) {
		return -1
	}
	i := 0
	for ; at >= l[i].Count; i++ {
		at -= l[i].Count
	}
	return l[i].Next
}

func wantNumbers(l []impl.Run) []int {
	next := []int{}
	for at := range max(wantCount(l), 0) {
		next = append(next, wantNumber(l, at))
	}
	return next
}

func wantPacked(l []impl.Run) bool {
	for i := 1; i < len(l); i++ {
		if l[i].Next == l[i-1].Next {
			return false
		}
	}
	return wantCount(l) >= 0
}

func checkPack(t *testing.T, what string, next []int, want []impl.Run) {
	t.Helper()
	if got := impl.PackNext(next); !slices.Equal(got, want) {
		t.Errorf("%s: PackNext(%v) = %v, want %v", what, next, got, want)
	}
}

func checkUnpack(t *testing.T, what string, l []impl.Run, want []int) {
	t.Helper()
	if got := impl.UnpackNext(l); !slices.Equal(got, want) {
		t.Errorf("%s: UnpackNext(%v) = %v, want %v", what, l, got, want)
	}
}

func checkPacked(t *testing.T, what string, l []impl.Run, want bool) {
	t.Helper()
	if got := impl.IsPacked(l); got != want {
		t.Errorf("%s: IsPacked(%v) = %t, want %t", what, l, got, want)
	}
}

func checkPackedSize(t *testing.T, what string, l []impl.Table, want int) {
	t.Helper()
	if got := impl.PackedSize(l); got != want {
		t.Errorf("%s: PackedSize(%+v) = %d, want %d", what, l, got, want)
	}
}

func checkNextIn(t *testing.T, what string, l []impl.Run, node int, want int) {
	t.Helper()
	if got := impl.NextIn(l, node); got != want {
		t.Errorf("%s: NextIn(%v, %d) = %d, want %d", what, l, node, got, want)
	}
}

// checkNumbers asks NextIn for all indices of a list, and for others.
func checkNumbers(t *testing.T, what string, l []impl.Run, next []int) {
	t.Helper()
	for at, want := range next {
		checkNextIn(t, what, l, at, want)
	}
	for _, at := range append([]int{99, 100, 101, 102}, outsiders(len(next))...) {
		if at < 0 || at >= len(next) {
			checkNextIn(t, what+", beside it", l, at, -1)
		}
	}
}

// checkRuns asks everything of runs, and, for promise 16, that those which are packed are the runs of their list.
func checkRuns(t *testing.T, what string, l []impl.Run, next []int, packed bool) {
	t.Helper()
	checkUnpack(t, what, l, next)
	checkPacked(t, what, l, packed)
	checkNumbers(t, what, l, next)
	if packed {
		checkPack(t, what+", packed again", impl.UnpackNext(l), l)
	}
}

// checkWantedRuns goes by the second implementations.
func checkWantedRuns(t *testing.T, what string, l []impl.Run) {
	t.Helper()
	checkRuns(t, what+", second implementation", l, wantNumbers(l), wantPacked(l))
}

// checkNone has runs that stand for no list.
func checkNone(t *testing.T, what string, l []impl.Run) {
	t.Helper()
	checkRuns(t, what, l, nil, false)
	checkWantedRuns(t, what, l)
}

// checkKept is promise 16 for a list: its runs stand for it if it is not too long, and there is a run for each number that differs from the one before it.
func checkKept(t *testing.T, what string, next []int) {
	t.Helper()
	l := impl.PackNext(next)
	if !slices.Equal(l, wantRuns(next)) {
		t.Errorf("%s: PackNext(%v) = %v, want %v", what, next, l, wantRuns(next))
	}
	checkPackedSize(t, what, []impl.Table{{Next: next}}, len(wantRuns(next)))
	if len(next) > 100 {
		checkNone(t, what+", too long", l)
	} else {
		checkRuns(t, what, l, next, true)
	}
}

func TestPackNext(t *testing.T) {
	type list = []int
	const least, greatest = math.MinInt, math.MaxInt
	cases := []struct {
		what string
		next list
		want []impl.Run
	}{
		{"no number", nil, nil}, {"no number of an empty list", list{}, nil}, {"one", list{7}, runs(1, 7)}, {"one 0", list{0}, runs(1, 0)}, {"one -1", list{-1}, runs(1, -1)}, {"one least int", list{least}, runs(1, least)}, {"one greatest int", list{greatest}, runs(1, greatest)},
		{"two equal", list{4, 4}, runs(2, 4)}, {"three equal", list{4, 4, 4}, runs(3, 4)}, {"five 0", list{0, 0, 0, 0, 0}, runs(5, 0)}, {"four -1", list{-1, -1, -1, -1}, runs(4, -1)}, {"seven least int", equal(7, least), runs(7, least)}, {"seven greatest int", equal(7, greatest), runs(7, greatest)},
		{"two that differ", list{1, 2}, runs(1, 1, 1, 2)}, {"two that differ, the greater one first", list{2, 1}, runs(1, 2, 1, 1)}, {"all differ", list{5, 3, 0, -1, 4, 2}, runs(1, 5, 1, 3, 1, 0, 1, -1, 1, 4, 1, 2)}, {"0 and -1", list{0, -1}, runs(1, 0, 1, -1)}, {"-1 and 0", list{-1, 0, 0}, runs(1, -1, 2, 0)}, {"1 and -1", list{1, -1, 1}, runs(1, 1, 1, -1, 1, 1)},
		{"one comes back", list{3, 5, 3}, runs(1, 3, 1, 5, 1, 3)}, {"two come back in turn", list{3, 5, 3, 5, 3}, runs(1, 3, 1, 5, 1, 3, 1, 5, 1, 3)}, {"many come back", list{3, 3, 3, -1, 3, 2, 2, 3, 3, -1, -1}, runs(3, 3, 1, -1, 1, 3, 2, 2, 2, 3, 2, -1)}, {"the first one comes back at the end", list{8, 8, 9, 9, 9, 8}, runs(2, 8, 3, 9, 1, 8)}, {"0 comes back", list{0, 1, 1, 0, 0}, runs(1, 0, 2, 1, 2, 0)},
		{"equal at the beginning", list{6, 6, 6, 1, 2}, runs(3, 6, 1, 1, 1, 2)}, {"equal in the middle", list{1, 6, 6, 6, 2}, runs(1, 1, 3, 6, 1, 2)}, {"equal at the end", list{1, 2, 6, 6, 6}, runs(1, 1, 1, 2, 3, 6)}, {"ascending runs", list{1, 2, 2, 3, 3, 3, 4, 4, 4, 4}, runs(1, 1, 2, 2, 3, 3, 4, 4)},
		{"the ends of int", list{least, greatest, greatest, least, least + 1, greatest - 1}, runs(1, least, 2, greatest, 1, least, 1, least+1, 1, greatest-1)}, {"the ends of int and 0", list{least, 0, greatest, -1}, runs(1, least, 1, 0, 1, greatest, 1, -1)}, {"equal in 32 bits", list{1, 1<<32 + 1, 1}, runs(1, 1, 1, 1<<32+1, 1, 1)}, {"equal in 8 bits", list{5, 261, 5}, runs(1, 5, 1, 261, 1, 5)}, {"equal but for the sign", list{5, -5, 5}, runs(1, 5, 1, -5, 1, 5)}, {"equal but for the highest bit", list{0, least, 0}, runs(1, 0, 1, least, 1, 0)},
		{"100 equal", equal(100, 2), runs(100, 2)}, {"101 equal", equal(101, 2), runs(101, 2)}, {"200 equal", equal(200, -1), runs(200, -1)}, {"1000 equal", equal(1000, 0), runs(1000, 0)}, {"100 equal and one more", append(equal(100, 2), 3), runs(100, 2, 1, 3)}, {"101 equal between others", slices.Concat(list{1}, equal(101, 2), list{1}), runs(1, 1, 101, 2, 1, 1)}, {"three times 101 equal", slices.Concat(equal(101, 2), equal(101, 3), equal(101, 2)), runs(101, 2, 101, 3, 101, 2)},
		{"a Next of a table", squareTable().Next, runs(1, 3, 1, 2, 2, 5, 1, 0, 1, -1)}, {"a Next without ways", list{-1, -1, -1, 4, 4, -1}, runs(3, -1, 2, 4, 1, -1)},
	}
	for _, c := range cases {
		checkPack(t, c.what, c.next, c.want)
		checkKept(t, c.what, c.next)
	}
}

// TestPackNextOfLongLists has a list that stays in a run, two that leave it with every number, and one whose runs get longer.
func TestPackNextOfLongLists(t *testing.T) {
	const many = 1000000
	if l := impl.PackNext(equal(many, 5)); !slices.Equal(l, runs(many, 5)) {
		t.Errorf("equal numbers: %d runs, the first ones %v", len(l), l[:min(len(l), 5)])
	}
	differing, inTurns, longer, wantLonger := upTo(many), []int{}, []int{}, []impl.Run{}
	for i := range many {
		inTurns = append(inTurns, i%2)
	}
	for size := 1; size <= 1500; size++ {
		longer = append(longer, equal(size, size%2)...)
		wantLonger = append(wantLonger, impl.Run{Count: size, Next: size % 2})
	}
	for _, next := range [][]int{differing, inTurns} {
		l := impl.PackNext(next)
		if len(l) != many {
			t.Errorf("numbers that differ each time: %d runs", len(l))
			continue
		}
		for i, r := range l {
			if r != (impl.Run{Count: 1, Next: next[i]}) {
				t.Errorf("numbers that differ each time: the run %d is %v", i, r)
				break
			}
		}
		if got := impl.PackedSize([]impl.Table{{Next: next}, {Next: next}}); got != 2*many {
			t.Errorf("numbers that differ each time: PackedSize = %d", got)
		}
		if impl.IsPacked(l) || len(impl.UnpackNext(l)) != 0 || impl.NextIn(l, 0) != -1 {
			t.Error("a million runs stand for a list")
		}
	}
	if l := impl.PackNext(longer); !slices.Equal(l, wantLonger) {
		t.Errorf("ever longer runs: %d runs, the first ones %v", len(l), l[:min(len(l), 5)])
	}
}

func TestPackedTablesKeepEveryNumber(t *testing.T) {
	for size := range 8 {
		listsOf(size, -1, 1, func(next []int) { checkKept(t, "small", next) })
	}
	random := rand.New(rand.NewSource(16))
	for size := range 131 {
		for _, numbers := range []int{1, 2, 3, 12, 1000} {
			for range 4 {
				next := []int{}
				for len(next) < size {
					next = append(next, equal(1+random.Intn(1+random.Intn(20)), random.Intn(numbers)-1)...)
				}
				checkKept(t, "random", next[:size])
				single := slices.Clone(next[:size])
				for i := range single {
					single[i] = random.Intn(numbers) - 1
				}
				checkKept(t, "random, single", single)
			}
		}
		for at := range size {
			next := equal(size, 5)
			next[at] = 6
			checkKept(t, "another one among equal ones", next)
			checkKept(t, "two parts", append(equal(at, 7), equal(size-at, -1)...))
		}
	}
}

// TestPackedTablesOfLinks packs tables that links give, all of a graph's together.
func TestPackedTablesOfLinks(t *testing.T) {
	random := rand.New(rand.NewSource(161))
	for range 300 {
		nodes := 1 + random.Intn(maxNodes)
		l := randomLinks(random, nodes)
		tables, want := []impl.Table{}, 0
		for dst := range nodes {
			x := impl.TableOf(l, nodes, random.Intn(nodes+1), dst)
			checkKept(t, "graph", x.Next)
			tables = append(tables, x)
			want += len(wantRuns(x.Next))
			checkPackedSize(t, "graph", tables, want)
		}
	}
}

func TestUnpackNextAndIsPacked(t *testing.T) {
	type list = []int
	const least, greatest = math.MinInt, math.MaxInt
	cases := []struct {
		what   string
		l      []impl.Run
		next   list
		packed bool
	}{
		{"no run", nil, nil, true}, {"no run of an empty list", []impl.Run{}, nil, true},
		{"one number", runs(1, 7), list{7}, true}, {"one 0", runs(1, 0), list{0}, true}, {"one -1", runs(1, -1), list{-1}, true}, {"one least int", runs(1, least), list{least}, true}, {"one greatest int", runs(1, greatest), list{greatest}, true}, {"two numbers", runs(2, 7), list{7, 7}, true}, {"three -1", runs(3, -1), list{-1, -1, -1}, true},
		{"runs of one number", runs(1, 3, 1, 5, 1, 3, 1, -1), list{3, 5, 3, -1}, true}, {"runs of several numbers", runs(3, 3, 1, -1, 1, 3, 2, 2), list{3, 3, 3, -1, 3, 2, 2}, true}, {"the order is kept", runs(2, 9, 3, 1, 1, 4), list{9, 9, 1, 1, 1, 4}, true}, {"the ends of int", runs(2, least, 1, greatest, 1, least, 2, greatest-1), list{least, least, greatest, least, greatest - 1, greatest - 1}, true}, {"a Next like a Count", runs(1, 1, 2, 2, 3, 3), list{1, 2, 2, 3, 3, 3}, true}, {"a Next beyond 100", runs(1, 101, 1, 1000), list{101, 1000}, true},
		{"the same Next", runs(1, 5, 2, 5), list{5, 5, 5}, false}, {"the same run", runs(2, 5, 2, 5), list{5, 5, 5, 5}, false}, {"the same Next three times", runs(1, 5, 2, 5, 1, 5), list{5, 5, 5, 5}, false}, {"the same Next at the beginning", runs(1, 5, 2, 5, 1, 4, 1, 3), list{5, 5, 5, 4, 3}, false}, {"the same Next in the middle", runs(1, 4, 2, 5, 1, 5, 1, 3), list{4, 5, 5, 5, 3}, false}, {"the same Next at the end", runs(1, 4, 1, 3, 2, 5, 1, 5), list{4, 3, 5, 5, 5}, false}, {"the same Next at the beginning and at the end", runs(1, 4, 1, 4, 2, 5, 1, 5), list{4, 4, 5, 5, 5}, false}, {"the same 0", runs(1, 0, 1, 0), list{0, 0}, false}, {"the same -1", runs(1, -1, 1, -1, 1, 0), list{-1, -1, 0}, false}, {"the same least int", runs(1, 0, 1, least, 1, least), list{0, least, least}, false}, {"the same greatest int", runs(1, greatest, 1, greatest), list{greatest, greatest}, false},
		{"the same Next, not behind one another", runs(1, 5, 2, 4, 1, 5), list{5, 4, 4, 5}, true}, {"the same Next at both ends", runs(2, 5, 1, 4, 1, 3, 2, 5), list{5, 5, 4, 3, 5, 5}, true}, {"the same runs in turn", runs(1, 5, 1, 4, 1, 5, 1, 4), list{5, 4, 5, 4}, true}, {"the same Counts", runs(2, 1, 2, 2, 2, 3), list{1, 1, 2, 2, 3, 3}, true}, {"the same Next in 32 bits", runs(1, 1, 1, 1<<32+1), list{1, 1<<32 + 1}, true}, {"the same Next but for the sign", runs(1, 5, 1, -5), list{5, -5}, true}, {"the ends of int behind one another", runs(1, greatest, 1, least), list{greatest, least}, true}, {"the same Next but for the highest bit", runs(1, 0, 1, least), list{0, least}, true},
		{"a Count of 100", runs(100, 5), equal(100, 5), true}, {"a Count of 99", runs(99, -1), equal(99, -1), true}, {"together 100", runs(60, 5, 40, 1), append(equal(60, 5), equal(40, 1)...), true}, {"together 100 with the same Next", runs(60, 5, 40, 5), equal(100, 5), false}, {"together 100 with a last one", runs(99, 5, 1, 1), append(equal(99, 5), 1), true}, {"together 100 with a first one", runs(1, 5, 99, 1), append(list{5}, equal(99, 1)...), true}, {"together 100 in three", runs(33, 2, 33, 1, 34, 2), slices.Concat(equal(33, 2), equal(33, 1), equal(34, 2)), true},
	}
	for _, c := range cases {
		checkRuns(t, c.what, c.l, c.next, c.packed)
		checkWantedRuns(t, c.what, c.l)
	}
	for _, l := range [][]impl.Run{runs(60, 5, 41, 1), runs(60, 5, 41, 5), runs(100, 5, 1, 1), runs(1, 5, 100, 1), runs(100, 5, 100, 1), runs(99, 5, 1, 1, 1, 2), runs(34, 2, 33, 1, 34, 2), runs(50, 2, 1, 1, 50, 2), runs(51, 2, 50, 3), runs(101, 5), runs(0, 5), runs(-1, 5), runs(0, 0), runs(100, 1, 1, 2, -1, 3), runs(1, 1, 100, 2, -1, 3), runs(101, 1, -1, 2), runs(-1, 1, 101, 2), runs(0, 1, 100, 2), runs(100, 1, 0, 2), runs(50, 1, 0, 2, 50, 3)} {
		checkNone(t, "no list", l)
	}
}

// TestCountsOfRuns has each Count at the first, a middle and the last run, also where all together would be no more than 100.
func TestCountsOfRuns(t *testing.T) {
	for size := 1; size <= 5; size++ {
		for at := range size {
			for _, count := range wrongCounts() {
				for _, others := range []int{1, 2, 20, 100} {
					checkNone(t, "wrong Count", inTurn(countsWith(size, others, at, count)...))
				}
				checkNone(t, "two wrong Counts", inTurn(append(countsWith(size, 1, at, count), -count)...))
			}
			for count := 1; count <= 100; count++ {
				l := inTurn(countsWith(size, 1, at, count)...)
				if count+size-1 > 100 {
					checkNone(t, "too many", l)
				} else {
					checkWantedRuns(t, "good Count", l)
					checkPacked(t, "good Count", l, true)
				}
			}
			for _, total := range []int{98, 99, 100} {
				l := inTurn(countsWith(size, 5, at, total-5*(size-1))...)
				checkUnpack(t, "together", l, wantNumbers(l))
				checkPacked(t, "together", l, true)
				checkNextIn(t, "together", l, total-1, (size-1)%3)
				checkNextIn(t, "together", l, total, -1)
			}
			for _, total := range []int{101, 102, 110} {
				checkNone(t, "together", inTurn(countsWith(size, 5, at, total-5*(size-1))...))
			}
		}
	}
	for _, one := range endsOfInt() {
		for _, two := range endsOfInt() {
			// All Counts together are then 1, or any number of those around it, if they wrap around.
			for rest := -3; rest <= 3; rest++ {
				checkNone(t, "wraps around", inTurn(one, two, rest-one-two))
				checkNone(t, "wraps around", inTurn(1, one, two, rest-one-two))
			}
		}
	}
}

// TestManyRuns has as many runs as can be, and more.
func TestManyRuns(t *testing.T) {
	for size := 90; size <= 100; size++ {
		l := inTurn(equal(size, 1)...)
		next := []int{}
		for i := range size {
			next = append(next, i%3)
		}
		checkRuns(t, "many", l, next, true)
		checkRuns(t, "many with the same Next", runs(slices.Repeat([]int{1, 7}, size)...), equal(size, 7), false)
	}
	for _, size := range []int{101, 102, 150, 1000, 100000} {
		counts := equal(size, 1)
		checkNone(t, "too many", inTurn(counts...))
		checkNone(t, "too many with the same Next", runs(slices.Repeat([]int{1, 7}, size)...))
		for _, count := range []int{0, -1, -size, math.MinInt} {
			checkNone(t, "too many, one of them wrong", inTurn(countsWith(size, 1, size-1, count)...))
			checkNone(t, "too many, all of them wrong", inTurn(equal(size, count)...))
		}
	}
	for _, count := range []int{1 << 57, 1 << 58, 1 << 60} {
		// So many of them together are 0 if they wrap around.
		checkNone(t, "wraps around to 0", inTurn(equal(int(1<<63/uint(count))*2, count)...))
	}
}

// TestAllSmallRuns has Counts below and above the range, and each Next.
func TestAllSmallRuns(t *testing.T) {
	for size := range 4 {
		counts := []int{-1, 0, 1, 2, 50, 51, 100, 101}
		listsOf(size, 0, len(counts)-1, func(places []int) {
			listsOf(size, -1, 1, func(next []int) {
				l := []impl.Run{}
				for i, place := range places {
					l = append(l, impl.Run{Count: counts[place], Next: next[i]})
				}
				checkWantedRuns(t, "small", l)
			})
		})
	}
	random := rand.New(rand.NewSource(162))
	packed, same, none := 0, 0, 0
	for range 5000 {
		l := []impl.Run{}
		for range random.Intn(30) {
			l = append(l, impl.Run{Count: 1 + random.Intn(10), Next: random.Intn(12) - 1})
		}
		checkWantedRuns(t, "random", l)
		switch {
		case wantPacked(l):
			packed++
		case wantCount(l) >= 0:
			same++
		default:
			none++
		}
	}
	if packed < 100 || same < 100 || none < 100 {
		t.Errorf("%d lists of runs are packed, %d have the same Next, %d stand for nothing", packed, same, none)
	}
}

func TestPackedSize(t *testing.T) {
	x := squareTable()
	next := func(numbers ...int) impl.Table { return impl.Table{Next: numbers} }
	cases := []struct {
		what string
		l    []impl.Table
		want int
	}{
		{"no table", nil, 0}, {"no table of an empty list", []impl.Table{}, 0}, {"the zero table", []impl.Table{{}}, 0}, {"an empty Next", []impl.Table{table(0, nil, []int{})}, 0}, {"empty Nexts", []impl.Table{{}, table(3, nil, nil), {}}, 0}, {"an empty Next with a Dist", []impl.Table{table(0, []int{0, 1, 2}, nil)}, 0},
		{"one number", []impl.Table{next(1)}, 1}, {"one -1", []impl.Table{next(-1)}, 1}, {"one run", []impl.Table{next(4, 4, 4)}, 1}, {"one table", []impl.Table{x}, 5}, {"numbers that come back", []impl.Table{next(1, 2, 1, 2)}, 4}, {"the ends of int", []impl.Table{next(math.MinInt, math.MaxInt, math.MaxInt)}, 2},
		{"many tables", []impl.Table{next(3, 3, 3, -1, 3, 2, 2), next(1), {}}, 5}, {"many tables, an empty one first", []impl.Table{{}, next(1), {}, next(1, 2)}, 3}, {"equal tables", []impl.Table{x, x, x}, 15}, {"equal tables in other memory", []impl.Table{squareTable(), squareTable()}, 10}, {"runs that go on in the next table", []impl.Table{next(7), next(7), next(7, 7)}, 3}, {"a run that goes on behind an empty table", []impl.Table{next(7), {}, next(7)}, 2}, {"the last run is the first one of the next table", []impl.Table{next(1, 2), next(2, 1)}, 4},
		{"a longer Dist", []impl.Table{table(0, []int{0, 1, 2, 3, 4}, []int{-1, 0})}, 2}, {"a shorter Dist", []impl.Table{table(0, []int{0}, []int{-1, 0, 0, 1})}, 3}, {"no Dist", []impl.Table{table(0, nil, []int{-1, 0, 0})}, 2}, {"Dist of other runs", []impl.Table{table(0, []int{1, 1, 1}, []int{1, 2, 3})}, 3}, {"Dist of more runs", []impl.Table{table(0, []int{1, 2, 3}, []int{4, 4, 4})}, 1}, {"Dst does not count", []impl.Table{table(-1, nil, []int{2, 2}), table(math.MaxInt, nil, []int{2, 2}), table(math.MinInt, nil, []int{2, 2})}, 3},
		{"more than 100 runs", []impl.Table{next(upTo(101)...), next(upTo(250)...)}, 351}, {"more than 100 equal numbers", []impl.Table{next(equal(101, 1)...), next(equal(1000, 1)...)}, 2}, {"more than 100 tables", slices.Repeat([]impl.Table{next(1, 1, 2)}, 5000), 10000}, {"more than 100 empty tables", make([]impl.Table, 5000), 0},
	}
	for _, c := range cases {
		checkPackedSize(t, c.what, c.l, c.want)
		reversed := slices.Clone(c.l)
		slices.Reverse(reversed)
		checkPackedSize(t, c.what+", in another order", reversed, c.want)
		checkPackedSize(t, c.what+", twice", slices.Concat(c.l, c.l), 2*c.want)
	}
}

func TestNextIn(t *testing.T) {
	l := runs(3, 3, 1, -1, 1, 3, 2, 2)
	most := runs(60, math.MaxInt, 39, math.MinInt, 1, 0)
	cases := []struct {
		what string
		l    []impl.Run
		node int
		want int
	}{
		{"node 0", l, 0, 3}, {"in the first run", l, 1, 3}, {"at the last number of the first run", l, 2, 3}, {"a Next of -1", l, 3, -1}, {"a run of one number", l, 4, 3}, {"at the first number of the last run", l, 5, 2}, {"at the last number", l, 6, 2},
		{"at the number of all Counts", l, 7, -1}, {"beyond it", l, 8, -1}, {"far beyond it", l, 99, -1}, {"node 100", l, 100, -1}, {"node -1", l, -1, -1}, {"node -2", l, -2, -1}, {"minus the number of all Counts", l, -7, -1}, {"the least int", l, math.MinInt, -1}, {"the least int but one", l, math.MinInt + 1, -1}, {"the greatest int", l, math.MaxInt, -1}, {"the greatest int but one", l, math.MaxInt - 1, -1}, {"beyond 32 bits", l, 1 << 32, -1}, {"below 32 bits", l, -1 << 32, -1}, {"beyond 32 bits by 1", l, 1<<32 + 1, -1},
		{"no run", nil, 0, -1}, {"no run, node -1", nil, -1, -1}, {"no run, node 1", nil, 1, -1}, {"no run, the greatest int", nil, math.MaxInt, -1}, {"no run, the least int", []impl.Run{}, math.MinInt, -1},
		{"of 100 numbers, the first one", most, 0, math.MaxInt}, {"of 100 numbers, the last one of a run", most, 59, math.MaxInt}, {"of 100 numbers, the first one of a run", most, 60, math.MinInt}, {"of 100 numbers, the last one of a middle run", most, 98, math.MinInt}, {"of 100 numbers, the last one", most, 99, 0}, {"of 100 numbers, behind it", most, 100, -1}, {"of 100 numbers, far behind it", most, 101, -1}, {"the last one of 100 equal ones", runs(100, 8), 99, 8}, {"behind 100 equal ones", runs(100, 8), 100, -1},
		{"the same Next", runs(1, 5, 2, 5), 0, 5}, {"the same Next, in the second run", runs(1, 5, 2, 5), 2, 5}, {"the same Next, behind it", runs(1, 5, 2, 5), 3, -1}, {"only -1", runs(2, -1), 1, -1}, {"a Next below -1", runs(2, -7), 1, -7}, {"a Next like no node", runs(1, 9), 0, 9},
		{"101 numbers", runs(101, 8), 0, -1}, {"101 numbers together", runs(60, 8, 41, 1), 0, -1}, {"101 numbers together, in the second run", runs(60, 8, 41, 1), 60, -1}, {"101 runs", inTurn(equal(101, 1)...), 1, -1}, {"a Count of 0 at the end", runs(3, 8, 0, 1), 0, -1}, {"a Count of 0 at the beginning", runs(0, 1, 3, 8), 0, -1}, {"a Count of 0 in the middle", runs(3, 8, 0, 1, 3, 8), 1, -1}, {"a Count below 0 at the end", runs(3, 8, -1, 1), 0, -1}, {"a Count below 0 at the beginning", runs(-1, 8, 3, 8), 1, -1}, {"a Count of the greatest int", runs(math.MaxInt, 8), 5, -1}, {"a Count of the greatest int, the greatest int", runs(math.MaxInt, 8), math.MaxInt, -1}, {"a Count of the least int", runs(1, 8, math.MinInt, 8), 0, -1},
	}
	for _, c := range cases {
		checkNextIn(t, c.what, c.l, c.node, c.want)
		if got := wantNumber(c.l, c.node); got != c.want {
			t.Errorf("%s: the second implementation gives %d, want %d", c.what, got, c.want)
		}
	}
}

// TestPackedTablesChangeNothing has lists that lie in the midst of known memory, and overwrites each result.
func TestPackedTablesChangeNothing(t *testing.T) {
	for _, content := range [][]int{{3, 3, 3, -1, 3, 2, 2}, {1, 2, 3}, {7}, equal(100, 5), equal(101, 5), upTo(101), {}} {
		g := guard(content, 5)
		checkNewMemory(t, "PackNext", impl.Run{Count: 9, Next: 99}, func() []impl.Run { return impl.PackNext(g.slice) })
		tables := []impl.Table{{Dst: 1, Dist: g.slice, Next: g.slice}, {Dst: 2, Next: g.slice}, {Dst: 3, Dist: g.slice}, {Dst: 4, Next: []int{5}}}
		impl.PackedSize(tables[:3])
		for i, x := range tables {
			if x.Dst != i+1 {
				t.Errorf("PackedSize changes the table %d to %+v", i, x)
			}
		}
		if g.changed() || !slices.Equal(tables[0].Next, content) || !slices.Equal(tables[3].Next, []int{5}) {
			t.Errorf("the numbers %v are changed", content)
		}
	}
	for _, content := range [][]impl.Run{runs(3, 3, 1, -1, 1, 3, 2, 2), runs(1, 5, 2, 5), runs(2, 5, 1, 5, 1, 4), runs(100, 5), runs(60, 5, 41, 1), runs(0, 5, -1, 5), inTurn(equal(101, 1)...), {}} {
		g := guard(content, impl.Run{Count: 1, Next: 5})
		checkNewMemory(t, "UnpackNext", 99, func() []int { return impl.UnpackNext(g.slice) })
		impl.IsPacked(g.slice)
		impl.NextIn(g.slice, 0)
		impl.NextIn(g.slice, 4)
		impl.NextIn(g.slice, -1)
		if g.changed() {
			t.Errorf("the runs %v are changed", content)
		}
	}
}

// TestPackedTablesIgnoreSpareCapacity cuts lists off before what would change each result.
func TestPackedTablesIgnoreSpareCapacity(t *testing.T) {
	checkPack(t, "spare capacity", []int{4, 4, 4, 5}[:2], runs(2, 4))
	checkPack(t, "no number", []int{4, 4}[:0], nil)
	checkRuns(t, "spare capacity", runs(2, 4, 1, 5, 1, 5)[:2], []int{4, 4, 5}, true)
	checkRuns(t, "spare capacity of a wrong run", runs(2, 4, 0, 5)[:1], []int{4, 4}, true)
	checkRuns(t, "no run", runs(0, 4, 1, 5)[:0], nil, true)
	checkPackedSize(t, "spare capacity", []impl.Table{{Next: []int{4, 5, 6}[:2]}, {Next: []int{7}}}[:1], 2)
	checkPackedSize(t, "no table", []impl.Table{{Next: []int{7}}}[:0], 0)
}
