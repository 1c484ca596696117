package tests

import (
	"bytes"
	"math"
	"math/big"
	"math/rand"
	"slices"
	"testing"

	"loop.example/g00599/impl"
)

// keySamples are keys at both ends of the valid ones, beyond them, and at the ends of int's range.
func keySamples() []int {
	return []int{
		1, 2, 3, 5, 77, 78, 1000003, 2083697918, impl.Modulus - 2, impl.Modulus - 1,
		0, -1, -2, -77, impl.Modulus, impl.Modulus + 1, impl.Modulus + 77, 2 * impl.Modulus, -impl.Modulus, -impl.Modulus - 1,
		impl.MaxValue, impl.MaxValue + 1, math.MinInt, math.MinInt + 1, math.MaxInt, math.MaxInt - 1,
	}
}

// textSamples are byte strings of every length that matters, among them ones with every byte.
func textSamples() [][]byte {
	every := make([]byte, 256)
	for i := range every {
		every[i] = byte(i)
	}
	samples := [][]byte{
		nil, {}, {0}, {255}, {0, 0}, []byte("hello"), {128, 255, 0, 127}, every, append(slices.Clone(every), 0),
		make([]byte, 300), bytes.Repeat([]byte{255}, 1000),
	}
	random := rand.New(rand.NewSource(3))
	for _, size := range []int{1, 2, 3, 7, 255, 256, 257, 511, 512, 513, 70000} {
		text := make([]byte, size)
		random.Read(text)
		samples = append(samples, text)
	}
	return samples
}

// wantHash folds by the document's rule, in integers without an end.
func wantHash(values []int) int {
	modulus := big.NewInt(2147483647)
	sum := big.NewInt(11)
	for _, v := range values {
		rest := new(big.Int).Mod(big.NewInt(int64(v)), modulus)
		sum.Mul(sum, big.NewInt(1000003))
		sum.Add(sum, rest)
		sum.Add(sum, big.NewInt(13))
		sum.Mod(sum, modulus)
	}
	return int(sum.Int64())
}

func wantKeyedHash(key int, values ...int) int {
	return wantHash(slices.Concat([]int{key}, values, []int{key}))
}

// wantShifted adds to each byte the keyed hash of its index, sign times, modulo 256.
func wantShifted(key int, text []byte, sign int) []byte {
	shifted := []byte{}
	for i, c := range text {
		shifted = append(shifted, byte((int(c)+sign*(wantKeyedHash(key, i)%256)+256)%256))
	}
	return shifted
}

func wantInts(b []byte) []int {
	values := make([]int, len(b)+1)
	values[0] = len(b)
	for i := range b {
		values[i+1] = int(b[i])
	}
	return values
}

func TestHash(t *testing.T) {
	cases := []struct {
		values []int
		want   int
	}{
		{nil, 11}, {[]int{}, 11},
		{[]int{0}, 11000046}, {[]int{1}, 11000047}, {[]int{5}, 11000051},
		{[]int{-1}, 11000045}, {[]int{-5}, 11000041},
		{[]int{impl.Modulus - 1}, 11000045}, {[]int{impl.Modulus}, 11000046}, {[]int{impl.Modulus + 1}, 11000047},
		{[]int{impl.Modulus + 5}, 11000051}, {[]int{2 * impl.Modulus}, 11000046},
		{[]int{-impl.Modulus}, 11000046}, {[]int{-impl.Modulus - 1}, 11000045}, {[]int{-impl.Modulus + 1}, 11000047},
		{[]int{math.MinInt}, 11000044}, {[]int{math.MinInt + 1}, 11000045},
		{[]int{math.MaxInt}, 11000047}, {[]int{math.MaxInt - 1}, 11000046},
		{[]int{0, 0}, 667760217}, {[]int{1, 2}, 668760222}, {[]int{2, 1}, 669760224},
		{[]int{-1, -2, -3}, 752141851},
		{[]int{impl.Modulus - 1, impl.Modulus - 1, impl.Modulus - 1}, 753141856},
		{[]int{math.MinInt, math.MaxInt, math.MinInt}, 1476521354},
		{[]int{impl.MaxValue, -impl.MaxValue}, 339527524},
	}
	for _, c := range cases {
		if got := impl.Hash(c.values); got != c.want {
			t.Errorf("Hash(%v) = %d, want %d", c.values, got, c.want)
		}
	}
}

func TestHashOfManyLists(t *testing.T) {
	random := rand.New(rand.NewSource(3))
	check := func(values []int) {
		t.Helper()
		got := impl.Hash(values)
		if got != wantHash(values) || got < 0 || got > impl.Modulus-1 {
			t.Errorf("Hash(%.10v) of %d values = %d, want %d", values, len(values), got, wantHash(values))
		}
	}
	for n := -1000; n <= 1000; n++ {
		check([]int{n})
		check([]int{impl.Modulus + n})
		check([]int{-impl.Modulus - n, n})
	}
	for _, n := range keySamples() {
		check([]int{n})
		check([]int{n, -n, n})
	}
	for range 5000 {
		values := make([]int, random.Intn(20))
		for i := range values {
			values[i] = int(random.Uint64()) >> random.Intn(60)
		}
		check(values)
	}
	check(slices.Repeat([]int{impl.Modulus - 1}, 10000))
	check(slices.Repeat([]int{math.MinInt}, 10000))
}

func TestKeyedHash(t *testing.T) {
	cases := []struct {
		key    int
		values []int
		want   int
	}{
		{0, nil, 667760217}, {0, []int{}, 667760217}, {1, nil, 668760221}, {3, nil, 670760229},
		{3, []int{4}, 20107550}, {77, []int{1}, 322116308}, {5, []int{2, 97, 98}, 1905036959},
		{impl.Modulus - 1, nil, 666760213}, {-1, nil, 666760213},
		{impl.Modulus, nil, 667760217}, {impl.Modulus + 1, nil, 668760221},
		{math.MinInt, nil, 665760209}, {math.MaxInt, nil, 668760221},
		{0, []int{0}, 32762367}, {impl.Modulus, []int{impl.Modulus}, 32762367},
		{impl.Modulus - 1, []int{-1}, 753141856}, {-1, []int{impl.Modulus - 1}, 753141856},
	}
	for _, c := range cases {
		if got := impl.KeyedHash(c.key, c.values); got != c.want {
			t.Errorf("KeyedHash(%d, %v) = %d, want %d", c.key, c.values, got, c.want)
		}
	}
}

func TestKeyedHashIsAHash(t *testing.T) {
	lists := [][]int{nil, {}, {0}, {1}, {-1}, {4, 4}, {7, 0, -7}, {impl.Modulus}, {math.MinInt, math.MaxInt}, make([]int, 300)}
	for _, key := range keySamples() {
		for _, values := range lists {
			got := impl.KeyedHash(key, values)
			if got != wantKeyedHash(key, values...) || got != impl.Hash(slices.Concat([]int{key}, values, []int{key})) {
				t.Errorf("KeyedHash(%d, %.10v) = %d, want %d", key, values, got, wantKeyedHash(key, values...))
			}
		}
	}
}

// TestKeyedHashDependsOnEachValue changes one value at a time: by itself, by an end, and by what leaves its remainder.
func TestKeyedHashDependsOnEachValue(t *testing.T) {
	random := rand.New(rand.NewSource(3))
	for size := 1; size <= 40; size++ {
		values := make([]int, size)
		for i := range values {
			values[i] = random.Intn(2*impl.Modulus) - impl.Modulus
		}
		for _, key := range keySamples() {
			checkEachValue(t, key, values)
		}
	}
}

func checkEachValue(t *testing.T, key int, values []int) {
	t.Helper()
	before := impl.KeyedHash(key, values)
	for i := range values {
		for _, by := range []int{1, -1, 2, 128, 256, 1000003, -1000003, 1 << 30, impl.Modulus - 1, impl.Modulus + 1} {
			changed := slices.Clone(values)
			changed[i] += by
			if impl.KeyedHash(key, changed) == before {
				t.Errorf("KeyedHash(%d, %v) does not depend on value %d: %d more change nothing", key, values, i, by)
			}
		}
		for _, by := range []int{impl.Modulus, -impl.Modulus, 4 * impl.Modulus} {
			same := slices.Clone(values)
			same[i] += by
			if impl.KeyedHash(key, same) != before {
				t.Errorf("KeyedHash(%d, %v): %d more at %d change the hash", key, values, by, i)
			}
		}
	}
}

func TestKeyedHashDependsOnTheKey(t *testing.T) {
	values := []int{9, 8, -7}
	met := map[int]int{}
	for _, key := range []int{0, 1, 2, 3, 77, 78, impl.Modulus - 2, impl.Modulus - 1} {
		got := impl.KeyedHash(key, values)
		if other, ok := met[got]; ok {
			t.Errorf("KeyedHash of %v is %d for the keys %d and %d", values, got, other, key)
		}
		met[got] = key
	}
}

func TestIsValidKey(t *testing.T) {
	cases := []struct {
		key  int
		want bool
	}{
		{1, true}, {2, true}, {77, true}, {1 << 30, true}, {impl.Modulus - 2, true}, {impl.Modulus - 1, true},
		{0, false}, {-1, false}, {-77, false}, {1 - impl.Modulus, false}, {-impl.Modulus, false},
		{impl.Modulus, false}, {impl.Modulus + 1, false}, {impl.Modulus + 77, false}, {1<<32 + 1, false},
		{impl.MaxValue, false}, {math.MinInt, false}, {math.MinInt + 1, false}, {math.MaxInt, false},
	}
	for _, c := range cases {
		if got := impl.IsValidKey(c.key); got != c.want {
			t.Errorf("IsValidKey(%d) = %t, want %t", c.key, got, c.want)
		}
	}
}

func TestBytesToInts(t *testing.T) {
	cases := []struct {
		b    []byte
		want []int
	}{
		{nil, []int{0}}, {[]byte{}, []int{0}}, {[]byte{0}, []int{1, 0}}, {[]byte{9, 8}, []int{2, 9, 8}},
		{[]byte{127, 128, 255}, []int{3, 127, 128, 255}},
	}
	for _, c := range cases {
		if got := impl.BytesToInts(c.b); !slices.Equal(got, c.want) {
			t.Errorf("BytesToInts(%v) = %v, want %v", c.b, got, c.want)
		}
	}
	for _, b := range textSamples() {
		if got := impl.BytesToInts(b); !slices.Equal(got, wantInts(b)) {
			t.Errorf("BytesToInts of %d bytes = %.10v, want %.10v", len(b), got, wantInts(b))
		}
	}
}

func TestEncryptAndDecrypt(t *testing.T) {
	cases := []struct {
		key               int
		plain, ciphertext []byte
	}{
		{77, []byte("hello"), []byte{249, 57, 131, 198, 12}},
		{0, []byte{0, 0, 0, 0}, []byte{255, 66, 133, 200}},
		{1, []byte{0, 0, 0, 0}, []byte{90, 157, 224, 35}},
		{impl.Modulus - 1, []byte{0, 0, 0, 0}, []byte{163, 230, 41, 108}},
		{impl.Modulus, []byte{0, 0, 0, 0}, []byte{255, 66, 133, 200}},
		{-1, []byte{255, 255, 255, 255}, []byte{162, 229, 40, 107}},
		{77, nil, nil}, {77, []byte{}, nil}, {0, nil, nil}, {-1, []byte{}, nil}, {impl.Modulus, nil, nil},
	}
	for _, c := range cases {
		if got := impl.Encrypt(c.key, c.plain); !bytes.Equal(got, c.ciphertext) {
			t.Errorf("Encrypt(%d, %v) = %v, want %v", c.key, c.plain, got, c.ciphertext)
		}
		if got := impl.Decrypt(c.key, c.ciphertext); !bytes.Equal(got, c.plain) {
			t.Errorf("Decrypt(%d, %v) = %v, want %v", c.key, c.ciphertext, got, c.plain)
		}
	}
}

func TestEncryptByTheRule(t *testing.T) {
	for _, key := range keySamples() {
		for _, text := range textSamples() {
			if len(text) > 2000 && key != 77 {
				continue
			}
			if got := impl.Encrypt(key, text); !bytes.Equal(got, wantShifted(key, text, 1)) {
				t.Errorf("Encrypt(%d, %d bytes) = %.10v, want %.10v", key, len(text), got, wantShifted(key, text, 1))
			}
			if got := impl.Decrypt(key, text); !bytes.Equal(got, wantShifted(key, text, -1)) {
				t.Errorf("Decrypt(%d, %d bytes) = %.10v, want %.10v", key, len(text), got, wantShifted(key, text, -1))
			}
		}
	}
}

func TestDecryptInvertsEncrypt(t *testing.T) {
	for _, key := range keySamples() {
		for _, text := range textSamples() {
			if got := impl.Decrypt(key, impl.Encrypt(key, text)); !bytes.Equal(got, text) {
				t.Errorf("Decrypt(%d, Encrypt(%d, %d bytes)) = %.10v, want %.10v", key, key, len(text), got, text)
			}
			if got := impl.Encrypt(key, impl.Decrypt(key, text)); !bytes.Equal(got, text) {
				t.Errorf("Encrypt(%d, Decrypt(%d, %d bytes)) = %.10v, want %.10v", key, key, len(text), got, text)
			}
		}
	}
}

func TestDecryptNeedsItsKey(t *testing.T) {
	text := []byte("hello")
	for _, key := range []int{1, 2, 77, impl.Modulus - 2} {
		c := impl.Encrypt(key, text)
		if bytes.Equal(c, text) || bytes.Equal(impl.Decrypt(key+1, c), text) {
			t.Errorf("Encrypt(%d, %q) = %v hides nothing", key, text, c)
		}
	}
}

func TestDeriveFromString(t *testing.T) {
	cases := []struct {
		key   int
		label string
		want  int
	}{
		{0, "", 32762367}, {1, "", 1458866522}, {5, "", 720832201}, {impl.Modulus - 1, "", 754141859},
		{impl.Modulus, "", 32762367}, {-1, "", 754141859}, {math.MinInt, "", 1475521351}, {math.MaxInt, "", 1458866522},
		{0, "ab", 324653615}, {1, "ab", 1929220472}, {5, "ab", 1905036959}, {impl.Modulus - 1, "ab", 867570405},
		{impl.Modulus, "ab", 324653615}, {-1, "ab", 867570405}, {math.MinInt, "ab", 1410487195}, {math.MaxInt, "ab", 1929220472},
		{0, "\xff\x80\x00", 2071227000}, {1, "\xff\x80\x00", 1877176580}, {5, "\xff\x80\x00", 1100974900},
		{impl.Modulus - 1, "\xff\x80\x00", 117793773}, {math.MinInt, "\xff\x80\x00", 311844193},
	}
	for _, c := range cases {
		if got := impl.DeriveFromString(c.key, c.label); got != c.want {
			t.Errorf("DeriveFromString(%d, %q) = %d, want %d", c.key, c.label, got, c.want)
		}
	}
}

// TestDeriveFromStringIsNeverZero has for each label the keys with which the keyed hash is 0, 1, 2 and the greatest one.
func TestDeriveFromStringIsNeverZero(t *testing.T) {
	cases := []struct {
		key   int
		label string
		hash  int
	}{
		{1310415589, "", 0}, {185075670, "", 1}, {1207219398, "", 2}, {288271861, "", impl.Modulus - 1},
		{916074962, "ab", 0}, {1778320862, "ab", 1}, {493083115, "ab", 2}, {53829062, "ab", impl.Modulus - 1},
		{268309058, "\xff\x80\x00", 0}, {591472532, "\xff\x80\x00", 1}, {914636006, "\xff\x80\x00", 2}, {2092629231, "\xff\x80\x00", impl.Modulus - 1},
		{1310415589 - impl.Modulus, "", 0}, {916074962 + impl.Modulus, "ab", 0},
	}
	for _, c := range cases {
		if got := impl.KeyedHash(c.key, impl.BytesToInts([]byte(c.label))); got != c.hash {
			t.Errorf("KeyedHash(%d, ints of %q) = %d, want %d", c.key, c.label, got, c.hash)
		}
		want := c.hash
		if want == 0 {
			want = 1
		}
		if got := impl.DeriveFromString(c.key, c.label); got != want {
			t.Errorf("DeriveFromString(%d, %q) = %d, want %d", c.key, c.label, got, want)
		}
	}
}

func TestDeriveFromStringOfManyLabels(t *testing.T) {
	labels := []string{"", "a", "ab", "ba", "a\x00", "\x00", "\x80", "\xff", "\u00e9", "\u20ac", "\U0001f680", "\xc3", "\xe2\x82", "a\xffb"}
	for _, text := range textSamples() {
		labels = append(labels, string(text))
	}
	for _, label := range labels {
		for _, key := range keySamples() {
			if len(label) > 2000 && key != 77 {
				continue
			}
			want := wantKeyedHash(key, wantInts([]byte(label))...)
			if want == 0 {
				want = 1
			}
			got := impl.DeriveFromString(key, label)
			if got != want || !impl.IsValidKey(got) {
				t.Errorf("DeriveFromString(%d, %.10q) = %d, want %d", key, label, got, want)
			}
		}
	}
}

func TestCryptoChangesNoBytes(t *testing.T) {
	checkBytesCalls(t, []bytesCall{
		{"Encrypt", []byte{1, 2, 200}, func(b []byte) []byte { return impl.Encrypt(77, b) }},
		{"Encrypt of nothing", nil, func(b []byte) []byte { return impl.Encrypt(77, b) }},
		{"Encrypt with no key", []byte{1, 2, 200}, func(b []byte) []byte { return impl.Encrypt(0, b) }},
		{"Encrypt with a key below 0", []byte{1, 2, 200}, func(b []byte) []byte { return impl.Encrypt(-1, b) }},
		{"Encrypt of 300 bytes", make([]byte, 300), func(b []byte) []byte { return impl.Encrypt(77, b) }},
		{"Decrypt", []byte{1, 2, 200}, func(b []byte) []byte { return impl.Decrypt(77, b) }},
		{"Decrypt of nothing", nil, func(b []byte) []byte { return impl.Decrypt(77, b) }},
		{"Decrypt with the key Modulus", []byte{1, 2, 200}, func(b []byte) []byte { return impl.Decrypt(impl.Modulus, b) }},
		{"Decrypt of 300 bytes", make([]byte, 300), func(b []byte) []byte { return impl.Decrypt(77, b) }},
	})
}

func TestBytesToIntsChangesNothing(t *testing.T) {
	for _, content := range [][]byte{nil, {9, 8}, make([]byte, 300)} {
		g := guard(content, 77)
		first := impl.BytesToInts(g.slice)
		fill(impl.BytesToInts(g.slice), 99)
		if g.changed() {
			t.Error("BytesToInts changes its argument")
		}
		if !slices.Equal(first, wantInts(content)) {
			t.Error("BytesToInts returns the same memory twice")
		}
	}
}

func TestHashesChangeNothing(t *testing.T) {
	for _, content := range [][]int{nil, {5}, {5, -1, impl.Modulus, math.MinInt}, make([]int, 300)} {
		g := guard(content, 77)
		if impl.Hash(g.slice) != wantHash(content) || impl.Hash(g.slice) != wantHash(content) {
			t.Errorf("Hash(%.10v) = %d, want %d", content, impl.Hash(g.slice), wantHash(content))
		}
		if impl.KeyedHash(3, g.slice) != wantKeyedHash(3, content...) || impl.KeyedHash(3, g.slice) != wantKeyedHash(3, content...) {
			t.Errorf("KeyedHash(3, %.10v) = %d, want %d", content, impl.KeyedHash(3, g.slice), wantKeyedHash(3, content...))
		}
		if g.changed() {
			t.Errorf("a hash of %.10v changes its argument", content)
		}
	}
}

// TestCiphersKeepNothing has calls with other keys and lengths in between.
func TestCiphersKeepNothing(t *testing.T) {
	text := bytes.Repeat([]byte{5, 250}, 200)
	for i, key := range keySamples() {
		c := impl.Encrypt(key, text)
		impl.Encrypt(key+1, text[:i])
		impl.Decrypt(key, text[i:])
		if again := impl.Encrypt(key, text); !bytes.Equal(c, again) {
			t.Errorf("Encrypt(%d, 400 bytes) returns %.10v and then %.10v", key, c, again)
		}
		if short := impl.Encrypt(key, text[:i]); !bytes.Equal(short, c[:i]) {
			t.Errorf("Encrypt(%d, %d bytes) = %.10v, want %.10v", key, i, short, c[:i])
		}
	}
}

func TestEqualInts(t *testing.T) {
	cases := []struct {
		a, b []int
		want bool
	}{
		{nil, nil, true}, {nil, []int{}, true}, {[]int{}, nil, true}, {[]int{}, []int{}, true},
		{[]int{0}, []int{0}, true}, {[]int{5, -300, 7}, []int{5, -300, 7}, true},
		{[]int{math.MinInt, math.MaxInt}, []int{math.MinInt, math.MaxInt}, true},
		{nil, []int{0}, false}, {[]int{0}, nil, false},
		{[]int{1}, []int{-1}, false}, {[]int{1}, []int{257}, false}, {[]int{0}, []int{math.MinInt}, false},
		{[]int{1, 2}, []int{1}, false}, {[]int{1}, []int{1, 2}, false}, {[]int{1}, []int{1, 0}, false},
		{[]int{1, 2}, []int{2, 1}, false}, {[]int{1, 2, 3}, []int{1, 2, 4}, false}, {[]int{0, 2, 3}, []int{1, 2, 3}, false},
	}
	for _, c := range cases {
		if got := impl.EqualInts(c.a, c.b); got != c.want {
			t.Errorf("EqualInts(%v, %v) = %t, want %t", c.a, c.b, got, c.want)
		}
	}
}

func TestEqualIntsChangesNothing(t *testing.T) {
	g := guard([]int{5, -1, 300}, 77)
	if impl.EqualInts(g.slice, g.slice[1:]) || !impl.EqualInts(g.slice, g.slice) {
		t.Error("EqualInts of parts of one list")
	}
	if g.changed() {
		t.Error("EqualInts changes its argument")
	}
}
