package tests

import (
	"bytes"
	"encoding/binary"
	"math"
	"math/rand"
	"slices"
	"testing"

	"loop.example/g00599/impl"
)

// varintSamples are integers on both sides of every change of length, and of both ends of the range.
func varintSamples() []int {
	samples := []int{
		0, 1, 2, 42, 100, 300, 1000, 1000000, 123456789, 987654321012, 549755813887,
		impl.MaxValue - 1, impl.MaxValue, impl.MaxValue + 1, impl.MaxValue + 2, 2 * impl.MaxValue,
		-1, -2, -127, -128, -129, -300, -impl.MaxValue, math.MinInt, math.MinInt + 1, math.MaxInt, math.MaxInt - 1,
	}
	for bit := 6; bit < 63; bit++ {
		samples = append(samples, 1<<bit-1, 1<<bit, 1<<bit+1)
	}
	return samples
}

// wantVarint is the encoding that the document requires of n: nothing outside the range.
func wantVarint(n int) []byte {
	if n < 0 || n > impl.MaxValue {
		return nil
	}
	return binary.AppendUvarint(nil, uint64(n))
}

// wantRead decodes a varint by its definition: it is the only one that its integer is encoded to.
func wantRead(b []byte, offset int) (int, int, bool) {
	if offset < 0 || offset >= len(b) {
		return 0, 0, false
	}
	u, size := binary.Uvarint(b[offset:])
	if size <= 0 || size > 6 || u > impl.MaxValue || !bytes.Equal(binary.AppendUvarint(nil, u), b[offset:offset+size]) {
		return 0, 0, false
	}
	return int(u), offset + size, true
}

func checkRead(t *testing.T, b []byte, offset int) {
	t.Helper()
	want, wantNext, wantOk := wantRead(b, offset)
	if n, next, ok := impl.ReadUvarint(b, offset); n != want || next != wantNext || ok != wantOk {
		t.Errorf("ReadUvarint(%v, %d) = %d, %d, %t, want %d, %d, %t", b, offset, n, next, ok, want, wantNext, wantOk)
	}
}

func TestAppendUvarint(t *testing.T) {
	cases := []struct {
		b    []byte
		n    int
		want []byte
	}{
		{nil, 0, []byte{0}},
		{nil, 1, []byte{1}},
		{nil, 127, []byte{127}},
		{nil, 128, []byte{128, 1}},
		{nil, 300, []byte{172, 2}},
		{nil, 16383, []byte{255, 127}},
		{nil, 16384, []byte{128, 128, 1}},
		{nil, impl.MaxValue - 1, []byte{255, 159, 148, 165, 141, 29}},
		{nil, impl.MaxValue, []byte{128, 160, 148, 165, 141, 29}},
		{[]byte{9, 128}, 300, []byte{9, 128, 172, 2}},
		{[]byte{9}, -1, []byte{9}},
		{[]byte{9}, impl.MaxValue + 1, []byte{9}},
		{[]byte{9}, math.MinInt, []byte{9}},
		{[]byte{9}, math.MaxInt, []byte{9}},
		{nil, -1, nil},
		{[]byte{}, impl.MaxValue + 1, nil},
	}
	for _, c := range cases {
		if got := impl.AppendUvarint(c.b, c.n); !bytes.Equal(got, c.want) {
			t.Errorf("AppendUvarint(%v, %d) = %v, want %v", c.b, c.n, got, c.want)
		}
	}
	for _, n := range varintSamples() {
		want := append([]byte{7, 200}, wantVarint(n)...)
		if got := impl.AppendUvarint([]byte{7, 200}, n); !bytes.Equal(got, want) {
			t.Errorf("AppendUvarint([7 200], %d) = %v, want %v", n, got, want)
		}
	}
}

func TestReadUvarint(t *testing.T) {
	cases := []struct {
		b      []byte
		offset int
		n      int
		next   int
	}{
		{[]byte{0}, 0, 0, 1},
		{[]byte{127}, 0, 127, 1},
		{[]byte{172, 2}, 0, 300, 2},
		{[]byte{172, 2}, 1, 2, 2},
		{[]byte{172, 2, 5}, 0, 300, 2},
		{[]byte{9, 9, 172, 2}, 2, 300, 4},
		{[]byte{128, 1}, 0, 128, 2},
		{[]byte{128, 128, 1}, 0, 16384, 3},
		{[]byte{255, 127, 0}, 2, 0, 3},
		{[]byte{255, 159, 148, 165, 141, 29}, 0, impl.MaxValue - 1, 6},
		{[]byte{128, 160, 148, 165, 141, 29}, 0, impl.MaxValue, 6},
		{[]byte{1, 128, 160, 148, 165, 141, 29, 3}, 1, impl.MaxValue, 7},
		{[]byte{128, 128, 128, 128, 128, 1}, 0, 1 << 35, 6},
	}
	for _, c := range cases {
		if n, next, ok := impl.ReadUvarint(c.b, c.offset); n != c.n || next != c.next || !ok {
			t.Errorf("ReadUvarint(%v, %d) = %d, %d, %t, want %d, %d, true", c.b, c.offset, n, next, ok, c.n, c.next)
		}
	}
}

func TestReadUvarintRejects(t *testing.T) {
	cases := []struct {
		what   string
		b      []byte
		offset int
	}{
		{"no byte", nil, 0},
		{"no byte", []byte{}, 0},
		{"at the end", []byte{1}, 1},
		{"beyond the end", []byte{1}, 2},
		{"far beyond the end", []byte{1}, math.MaxInt},
		{"nearly as far", []byte{1}, math.MaxInt - 5},
		{"below 0", []byte{1}, -1},
		{"far below 0", []byte{1}, math.MinInt},
		{"below 0 and empty", nil, -1},
		{"ends inside", []byte{128}, 0},
		{"ends inside", []byte{172}, 0},
		{"ends inside", []byte{1, 255}, 1},
		{"ends inside", []byte{128, 160, 148, 165, 141}, 0},
		{"six bytes, none final", []byte{128, 160, 148, 165, 141, 157}, 0},
		{"seven bytes", []byte{129, 128, 128, 128, 128, 128, 1}, 0},
		{"seven bytes, none final", []byte{128, 128, 128, 128, 128, 128, 128}, 0},
		{"ten bytes", []byte{129, 128, 128, 128, 128, 128, 128, 128, 128, 1}, 0},
		{"a thousand bytes", bytes.Repeat([]byte{255}, 1000), 0},
		{"last group zero", []byte{128, 0}, 0},
		{"last group zero", []byte{129, 0}, 0},
		{"last group zero", []byte{172, 130, 0}, 0},
		{"last group zero", []byte{255, 255, 255, 0}, 0},
		{"last group zero", []byte{128, 128, 128, 128, 128, 0}, 0},
		{"last group zero", []byte{5, 128, 0, 5}, 1},
		{"seven bytes, last group zero", []byte{128, 160, 148, 165, 141, 157, 0}, 0},
		{"MaxValue and one more", []byte{129, 160, 148, 165, 141, 29}, 0},
		{"the last group one more", []byte{128, 160, 148, 165, 141, 30}, 0},
		{"six full groups", []byte{255, 255, 255, 255, 255, 127}, 0},
	}
	for _, c := range cases {
		if n, next, ok := impl.ReadUvarint(c.b, c.offset); n != 0 || next != 0 || ok {
			t.Errorf("%s: ReadUvarint(%.20v, %d) = %d, %d, %t, want 0, 0, false", c.what, c.b, c.offset, n, next, ok)
		}
	}
}

// TestReadUvarintInvertsAppendUvarint also reads every shorter part of each encoding, and each one made longer by a group of zero.
func TestReadUvarintInvertsAppendUvarint(t *testing.T) {
	check := func(n int) {
		t.Helper()
		b := impl.AppendUvarint([]byte{200}, n)
		inside := n >= 0 && n <= impl.MaxValue
		if got, next, ok := impl.ReadUvarint(b, 1); ok != inside || inside && (got != n || next != len(b)) {
			t.Errorf("ReadUvarint(%v, 1) = %d, %d, %t for %d", b, got, next, ok, n)
		}
		if !inside {
			return
		}
		for end := 0; end < len(b); end++ {
			checkRead(t, b[:end], 1)
		}
		padded := append(slices.Clone(b), 0)
		padded[len(b)-1] |= 128
		if got, next, ok := impl.ReadUvarint(padded, 1); got != 0 || next != 0 || ok {
			t.Errorf("ReadUvarint(%v, 1) = %d, %d, %t, want 0, 0, false", padded, got, next, ok)
		}
	}
	for n := -300; n <= 20000; n++ {
		check(n)
	}
	for _, n := range varintSamples() {
		check(n)
	}
	random := rand.New(rand.NewSource(2))
	for range 20000 {
		check(random.Intn(impl.MaxValue+1) >> random.Intn(40))
	}
}

// TestReadUvarintOfShortInputs compares ReadUvarint with its definition on all inputs of up to seven bytes that matter.
func TestReadUvarintOfShortInputs(t *testing.T) {
	alphabet := []byte{0, 1, 29, 127, 128, 129, 255}
	var extend func(b []byte)
	extend = func(b []byte) {
		checkRead(t, b, 0)
		if len(b) == 3 {
			for offset := -2; offset <= 5; offset++ {
				checkRead(t, b, offset)
			}
		}
		if len(b) < 7 {
			for _, c := range alphabet {
				extend(append(slices.Clone(b), c))
			}
		}
	}
	extend(nil)
}

// TestReadUvarintAroundMaxValue changes each byte of the greatest encoding to every other one.
func TestReadUvarintAroundMaxValue(t *testing.T) {
	greatest := wantVarint(impl.MaxValue)
	for i := range greatest {
		for c := range 256 {
			b := slices.Clone(greatest)
			b[i] = byte(c)
			checkRead(t, b, 0)
			checkRead(t, append(b, 1), 0)
		}
	}
}

func TestAppendBytes(t *testing.T) {
	long := bytes.Repeat([]byte{171}, 300)
	cases := []struct {
		b, data, want []byte
	}{
		{nil, nil, []byte{0}},
		{[]byte{}, []byte{}, []byte{0}},
		{[]byte{1}, []byte{7, 8}, []byte{1, 2, 7, 8}},
		{nil, []byte{0}, []byte{1, 0}},
		{[]byte{1, 2, 3}, nil, []byte{1, 2, 3, 0}},
		{[]byte{128}, []byte{128, 255}, []byte{128, 2, 128, 255}},
		{nil, long[:127], append([]byte{127}, long[:127]...)},
		{nil, long[:128], append([]byte{128, 1}, long[:128]...)},
		{[]byte{5}, long, append([]byte{5, 172, 2}, long...)},
	}
	for _, c := range cases {
		if got := impl.AppendBytes(c.b, c.data); !bytes.Equal(got, c.want) {
			t.Errorf("AppendBytes(%v, %v) = %v, want %v", c.b, c.data, got, c.want)
		}
	}
}

func TestReadBytes(t *testing.T) {
	cases := []struct {
		b      []byte
		offset int
		maxLen int
		want   []byte
		next   int
	}{
		{[]byte{1, 2, 7, 8}, 1, 2, []byte{7, 8}, 4},
		{[]byte{1, 2, 7, 8}, 1, 3, []byte{7, 8}, 4},
		{[]byte{1, 2, 7, 8}, 0, 1, []byte{2}, 2},
		{[]byte{2, 7, 8, 9}, 0, math.MaxInt, []byte{7, 8}, 3},
		{[]byte{0}, 0, 0, nil, 1},
		{[]byte{0, 5}, 0, 0, nil, 1},
		{[]byte{5, 0}, 1, 100, nil, 2},
		{[]byte{1, 200}, 0, 1, []byte{200}, 2},
	}
	for _, c := range cases {
		if got, next, ok := impl.ReadBytes(c.b, c.offset, c.maxLen); !bytes.Equal(got, c.want) || next != c.next || !ok {
			t.Errorf("ReadBytes(%v, %d, %d) = %v, %d, %t, want %v, %d, true", c.b, c.offset, c.maxLen, got, next, ok, c.want, c.next)
		}
	}
}

func TestReadBytesRejects(t *testing.T) {
	cases := []struct {
		what   string
		b      []byte
		offset int
		maxLen int
	}{
		{"no prefix", nil, 0, 10},
		{"no prefix", []byte{1, 5}, 2, 10},
		{"beyond the end", []byte{1, 5}, 3, 10},
		{"far beyond the end", []byte{1, 5}, math.MaxInt, 10},
		{"below 0", []byte{1, 5}, -1, 10},
		{"far below 0", []byte{1, 5}, math.MinInt, 10},
		{"prefix ends inside", []byte{128}, 0, 10},
		{"prefix not minimal", []byte{128, 0}, 0, 10},
		{"prefix not minimal", []byte{129, 0, 5}, 0, 10},
		{"prefix of seven bytes", []byte{129, 128, 128, 128, 128, 128, 1, 5}, 0, 10},
		{"prefix exceeds MaxValue", []byte{129, 160, 148, 165, 141, 29}, 0, math.MaxInt},
		{"longer than maxLen", []byte{1, 2, 7, 8}, 1, 1},
		{"longer than maxLen", []byte{2, 7, 8}, 0, 0},
		{"maxLen below 0", []byte{0}, 0, -1},
		{"maxLen below 0", []byte{0, 1}, 0, math.MinInt},
		{"maxLen below 0", []byte{1, 5}, 0, -1},
		{"too short by one", []byte{2, 7}, 0, 10},
		{"too short by one", []byte{9, 9, 3, 7, 8}, 2, 10},
		{"nothing behind", []byte{1}, 0, 10},
		{"MaxValue bytes", append(wantVarint(impl.MaxValue), 1, 2, 3), 0, math.MaxInt},
		{"longer than maxLen and too short", []byte{9, 1}, 0, 5},
	}
	for _, c := range cases {
		if got, next, ok := impl.ReadBytes(c.b, c.offset, c.maxLen); len(got) != 0 || next != 0 || ok {
			t.Errorf("%s: ReadBytes(%v, %d, %d) = %v, %d, %t, want none, 0, false", c.what, c.b, c.offset, c.maxLen, got, next, ok)
		}
	}
}

// TestReadBytesIgnoresSpareCapacity reads byte strings that go on behind the end of their slice.
func TestReadBytesIgnoresSpareCapacity(t *testing.T) {
	behind := []byte{3, 7, 8, 9, 128, 1}
	for end := 0; end < 4; end++ {
		if got, next, ok := impl.ReadBytes(behind[:end], 0, 10); len(got) != 0 || next != 0 || ok {
			t.Errorf("ReadBytes(%v, 0, 10) = %v, %d, %t, want none, 0, false", behind[:end], got, next, ok)
		}
	}
	if n, next, ok := impl.ReadUvarint(behind[:5], 4); n != 0 || next != 0 || ok {
		t.Errorf("ReadUvarint(%v, 4) = %d, %d, %t, want 0, 0, false", behind[:5], n, next, ok)
	}
}

func TestReadBytesInvertsAppendBytes(t *testing.T) {
	random := rand.New(rand.NewSource(2))
	for size := 0; size <= 400; size++ {
		data := make([]byte, size)
		random.Read(data)
		b := impl.AppendBytes([]byte{200, 1, 2}, data)
		b = impl.AppendBytes(b, data)
		first, next, ok := impl.ReadBytes(b, 3, size)
		second, end, ok2 := impl.ReadBytes(b, next, size)
		if !ok || !ok2 || end != len(b) || !bytes.Equal(first, data) || !bytes.Equal(second, data) {
			t.Errorf("two byte strings of length %d: %t, %t, %d of %d", size, ok, ok2, end, len(b))
		}
		if got, next, ok := impl.ReadBytes(b, 3, size-1); len(got) != 0 || next != 0 || ok {
			t.Errorf("length %d with maxLen %d: %d, %t", size, size-1, next, ok)
		}
		if got, next, ok := impl.ReadBytes(b[:len(b)-1], next, size); len(got) != 0 || next != 0 || ok {
			t.Errorf("length %d without its last byte: %d, %t", size, next, ok)
		}
	}
}

func TestEncodeInts(t *testing.T) {
	cases := []struct {
		values []int
		want   []byte
	}{
		{nil, nil},
		{[]int{}, nil},
		{[]int{5}, []byte{5}},
		{[]int{5, 300}, []byte{5, 172, 2}},
		{[]int{300, 5, 0}, []byte{172, 2, 5, 0}},
		{[]int{-1}, nil},
		{[]int{impl.MaxValue + 1, math.MinInt, math.MaxInt}, nil},
		{[]int{1, -1, 2, impl.MaxValue + 1, 3}, []byte{1, 2, 3}},
		{[]int{impl.MaxValue, 0}, []byte{128, 160, 148, 165, 141, 29, 0}},
	}
	for _, c := range cases {
		if got := impl.EncodeInts(c.values); !bytes.Equal(got, c.want) {
			t.Errorf("EncodeInts(%v) = %v, want %v", c.values, got, c.want)
		}
	}
	var want []byte
	for _, n := range varintSamples() {
		want = append(want, wantVarint(n)...)
	}
	if got := impl.EncodeInts(varintSamples()); !bytes.Equal(got, want) {
		t.Errorf("EncodeInts of the samples = %v, want %v", got, want)
	}
	if got := impl.EncodeInts(make([]int, 100000)); !bytes.Equal(got, make([]byte, 100000)) {
		t.Errorf("EncodeInts of 100000 zeros has %d bytes", len(got))
	}
}

func TestDecodeInts(t *testing.T) {
	many := bytes.Repeat([]byte{3}, 101)
	cases := []struct {
		b      []byte
		offset int
		count  int
		want   []int
		next   int
	}{
		{[]byte{5, 172, 2}, 0, 2, []int{5, 300}, 3},
		{[]byte{5, 172, 2}, 0, 1, []int{5}, 1},
		{[]byte{5, 172, 2}, 1, 1, []int{300}, 3},
		{[]byte{5, 172, 2}, 2, 1, []int{2}, 3},
		{[]byte{5, 172, 2}, 0, 0, nil, 0},
		{[]byte{5, 172, 2}, 2, 0, nil, 2},
		{[]byte{5, 172, 2}, 3, 0, nil, 3},
		{nil, 0, 0, nil, 0},
		{[]byte{128, 0}, 0, 0, nil, 0},
		{[]byte{5, 128, 0}, 0, 1, []int{5}, 1},
		{[]byte{128, 160, 148, 165, 141, 29, 0}, 0, 2, []int{impl.MaxValue, 0}, 7},
		{many, 0, 100, slices.Repeat([]int{3}, 100), 100},
		{many, 1, 100, slices.Repeat([]int{3}, 100), 101},
		{many, 101, 0, nil, 101},
	}
	for _, c := range cases {
		if got, next, ok := impl.DecodeInts(c.b, c.offset, c.count); !slices.Equal(got, c.want) || next != c.next || !ok {
			t.Errorf("DecodeInts(%v, %d, %d) = %v, %d, %t, want %v, %d, true", c.b, c.offset, c.count, got, next, ok, c.want, c.next)
		}
	}
}

func TestDecodeIntsRejects(t *testing.T) {
	many := bytes.Repeat([]byte{3}, 200)
	cases := []struct {
		what   string
		b      []byte
		offset int
		count  int
	}{
		{"count below 0", many, 0, -1},
		{"count below 0", nil, 0, -1},
		{"count far below 0", many, 0, math.MinInt},
		{"count above 100", many, 0, 101},
		{"count far above 100", many, 0, math.MaxInt},
		{"offset below 0", many, -1, 1},
		{"offset below 0, count 0", many, -1, 0},
		{"offset far below 0", many, math.MinInt, 0},
		{"offset beyond the end, count 0", many, 201, 0},
		{"offset beyond the end", many, 201, 1},
		{"offset far beyond the end", many, math.MaxInt, 0},
		{"offset beyond the end of nothing", nil, 1, 0},
		{"at the end", many, 200, 1},
		{"nothing", nil, 0, 1},
		{"one too many", []byte{5, 172, 2}, 0, 3},
		{"99 of 100", many[:99], 0, 100},
		{"the last ends inside", []byte{5, 6, 172}, 0, 3},
		{"the last not minimal", []byte{5, 6, 128, 0}, 0, 3},
		{"the first not minimal", []byte{128, 0, 6}, 0, 2},
		{"one of seven bytes", []byte{5, 129, 128, 128, 128, 128, 128, 1}, 0, 2},
		{"one beyond MaxValue", []byte{5, 129, 160, 148, 165, 141, 29}, 0, 2},
	}
	for _, c := range cases {
		if got, next, ok := impl.DecodeInts(c.b, c.offset, c.count); len(got) != 0 || next != 0 || ok {
			t.Errorf("%s: DecodeInts(%.10v, %d, %d) = %v, %d, %t, want none, 0, false", c.what, c.b, c.offset, c.count, got, next, ok)
		}
	}
}

func TestDecodeIntsInvertsEncodeInts(t *testing.T) {
	random := rand.New(rand.NewSource(2))
	for count := 0; count <= 100; count++ {
		values := make([]int, count)
		for i := range values {
			values[i] = random.Intn(impl.MaxValue+1) >> random.Intn(40)
		}
		b := impl.EncodeInts(values)
		if got, next, ok := impl.DecodeInts(b, 0, count); !slices.Equal(got, values) || next != len(b) || !ok {
			t.Errorf("DecodeInts(EncodeInts(%v)) = %v, %d, %t", values, got, next, ok)
		}
		if got, next, ok := impl.DecodeInts(b, 0, count+1); len(got) != 0 || next != 0 || ok {
			t.Errorf("DecodeInts of %d integers, count %d = %v, %d, %t", count, count+1, got, next, ok)
		}
	}
}

func TestEqualBytes(t *testing.T) {
	cases := []struct {
		a, b []byte
		want bool
	}{
		{nil, nil, true}, {nil, []byte{}, true}, {[]byte{}, nil, true}, {[]byte{}, []byte{}, true},
		{[]byte{0}, []byte{0}, true}, {[]byte{1, 2, 255}, []byte{1, 2, 255}, true},
		{nil, []byte{0}, false}, {[]byte{0}, nil, false},
		{[]byte{1}, []byte{2}, false}, {[]byte{1}, []byte{129}, false},
		{[]byte{1, 2}, []byte{1}, false}, {[]byte{1}, []byte{1, 2}, false}, {[]byte{1}, []byte{1, 0}, false},
		{[]byte{1, 2}, []byte{2, 1}, false}, {[]byte{1, 2, 3}, []byte{1, 2, 4}, false}, {[]byte{0, 2, 3}, []byte{1, 2, 3}, false},
	}
	for _, c := range cases {
		if got := impl.EqualBytes(c.a, c.b); got != c.want {
			t.Errorf("EqualBytes(%v, %v) = %t, want %t", c.a, c.b, got, c.want)
		}
	}
}

// guarded is a slice in the middle of memory of which every element is known.
type guarded[E comparable] struct {
	slice, whole, before []E
}

func guard[E comparable](content []E, mark E) guarded[E] {
	whole := slices.Repeat([]E{mark}, len(content)+200)
	slice := whole[50 : 50+len(content)]
	copy(slice, content)
	return guarded[E]{slice: slice, whole: whole, before: slices.Clone(whole)}
}

func (g guarded[E]) changed() bool {
	return !slices.Equal(g.whole, g.before)
}

// fill overwrites a result with its spare capacity: what shares memory with it is changed.
func fill[E any](result []E, mark E) {
	result = result[:cap(result)]
	for i := range result {
		result[i] = mark
	}
}

// listCall is a call with a list as its argument, and what it returns of a list.
type listCall[E comparable] struct {
	what    string
	content []E
	call    func(l []E) []E
}

type bytesCall = listCall[byte]

func checkBytesCalls(t *testing.T, calls []bytesCall) {
	t.Helper()
	checkListCalls(t, 77, 99, calls)
}

// checkListCalls makes each call twice: neither its argument, which lies in the midst of around, nor the first result may change when over is written into the second one.
func checkListCalls[E comparable](t *testing.T, around E, over E, calls []listCall[E]) {
	t.Helper()
	for _, c := range calls {
		g := guard(c.content, around)
		first := c.call(g.slice)
		kept := slices.Clone(first)
		second := c.call(g.slice)
		if g.changed() {
			t.Errorf("%s changes its argument", c.what)
		}
		if !slices.Equal(first, second) {
			t.Errorf("%s returns %v and then %v", c.what, first, second)
		}
		fill(second, over)
		if g.changed() {
			t.Errorf("%s returns memory of its argument", c.what)
		}
		if !slices.Equal(first, kept) {
			t.Errorf("%s returns the same memory twice", c.what)
		}
	}
}

func TestEncodingChangesNoBytes(t *testing.T) {
	checkBytesCalls(t, []bytesCall{
		{"AppendUvarint of 300", []byte{1, 2}, func(b []byte) []byte { return impl.AppendUvarint(b, 300) }},
		{"AppendUvarint of 0 to nothing", nil, func(b []byte) []byte { return impl.AppendUvarint(b, 0) }},
		{"AppendUvarint of -1", []byte{1, 2}, func(b []byte) []byte { return impl.AppendUvarint(b, -1) }},
		{"AppendUvarint of too much", []byte{1, 2}, func(b []byte) []byte { return impl.AppendUvarint(b, impl.MaxValue+1) }},
		{"AppendBytes", []byte{1, 2}, func(b []byte) []byte { return impl.AppendBytes(b, []byte{7, 8}) }},
		{"AppendBytes of nothing", []byte{1, 2}, func(b []byte) []byte { return impl.AppendBytes(b, nil) }},
		{"AppendBytes of itself", []byte{1, 2}, func(b []byte) []byte { return impl.AppendBytes(b, b) }},
		{"AppendBytes as data", []byte{1, 2}, func(b []byte) []byte { return impl.AppendBytes([]byte{5}, b) }},
		{"AppendBytes as data to nothing", []byte{1, 2}, func(b []byte) []byte { return impl.AppendBytes(nil, b) }},
		{"ReadUvarint", []byte{172, 2}, func(b []byte) []byte { impl.ReadUvarint(b, 0); return nil }},
		{"ReadBytes", []byte{2, 7, 8, 9}, func(b []byte) []byte { d, _, _ := impl.ReadBytes(b, 0, 2); return d }},
		{"ReadBytes to the end", []byte{2, 7, 8}, func(b []byte) []byte { d, _, _ := impl.ReadBytes(b, 0, 2); return d }},
		{"ReadBytes of nothing", []byte{0, 7, 8}, func(b []byte) []byte { d, _, _ := impl.ReadBytes(b, 0, 2); return d }},
		{"ReadBytes too long", []byte{2, 7, 8}, func(b []byte) []byte { d, _, _ := impl.ReadBytes(b, 0, 1); return d }},
		{"DecodeInts", []byte{5, 172, 2}, func(b []byte) []byte { impl.DecodeInts(b, 0, 2); return nil }},
		{"DecodeInts too many", []byte{5, 172, 2}, func(b []byte) []byte { impl.DecodeInts(b, 0, 3); return nil }},
		{"EqualBytes", []byte{5, 172, 2}, func(b []byte) []byte { impl.EqualBytes(b, b[1:]); return nil }},
	})
}

func TestEncodingChangesNoInts(t *testing.T) {
	g := guard([]int{5, -1, 300}, 77)
	first := impl.EncodeInts(g.slice)
	second := impl.EncodeInts(g.slice)
	fill(second, 99)
	if g.changed() {
		t.Error("EncodeInts changes its argument")
	}
	if !bytes.Equal(first, []byte{5, 172, 2}) {
		t.Error("EncodeInts returns the same memory twice")
	}
	b := []byte{5, 172, 2}
	values, _, _ := impl.DecodeInts(b, 0, 2)
	again, _, _ := impl.DecodeInts(b, 0, 2)
	fill(again, 99)
	if !slices.Equal(values, []int{5, 300}) {
		t.Error("DecodeInts returns the same memory twice")
	}
}
