package tests

import (
	"math"
	"strconv"
	"strings"
	"testing"

	"loop.example/g00599/impl"
)

func TestFormatInt(t *testing.T) {
	cases := []struct {
		n    int
		want string
	}{
		{0, "0"}, {7, "7"}, {-3, "-3"}, {10, "10"}, {-100, "-100"},
		{impl.MaxValue, "1000000000000"},
		{-impl.MaxValue - 1, "-1000000000001"},
		{math.MaxInt, "9223372036854775807"},
		{math.MinInt, "-9223372036854775808"},
	}
	for _, c := range cases {
		if got := impl.FormatInt(c.n); got != c.want {
			t.Errorf("FormatInt(%d) = %q, want %q", c.n, got, c.want)
		}
	}
}

func TestParseIntOfNumerals(t *testing.T) {
	cases := []struct {
		s    string
		want int
	}{
		{"0", 0}, {"1", 1}, {"9", 9}, {"10", 10}, {"17", 17}, {"100", 100},
		{"1001", 1001}, {"1234567890", 1234567890}, {"111111111111", 111111111111},
		{"999999999999", impl.MaxValue - 1},
		{"1000000000000", impl.MaxValue},
	}
	for _, c := range cases {
		if got, ok := impl.ParseInt(c.s); got != c.want || !ok {
			t.Errorf("ParseInt(%q) = %d, %t, want %d, true", c.s, got, ok, c.want)
		}
	}
}

func TestParseIntRejects(t *testing.T) {
	cases := []string{
		"",
		"00", "01", "017", "000", "0000000000000", "01000000000000", "00000000000000000001",
		"-", "+", "-0", "+0", "-1", "+1", "-17", "--1", "1-", "1+",
		"1000000000001", "1000000000010", "2000000000000", "9999999999999", "10000000000000",
		"9223372036854775807", "9223372036854775808", "18446744073709551617",
		strings.Repeat("9", 1000), strings.Repeat("0", 1000), strings.Repeat("1", 100000),
		" ", " 1", "1 ", "1 1", "\t1", "1\n", "\x001", "1\x00",
		"x", "1x", "x1", "0x10", "1e3", "1_000", "1,000", "1.0", ".1", "1.",
		"/", ":", "1/", "1:", "/1", ":1",
		"a", "\xff", "1\xff", "\xb1", "\u0661", "\uff11",
	}
	for _, s := range cases {
		if n, ok := impl.ParseInt(s); n != 0 || ok {
			t.Errorf("ParseInt(%.40q) = %d, %t, want 0, false", s, n, ok)
		}
	}
}

func TestParseIntRejectsEveryOtherByte(t *testing.T) {
	for b := 0; b < 256; b++ {
		c := string([]byte{byte(b)})
		digit := b >= '0' && b <= '9'
		if n, ok := impl.ParseInt(c); ok != digit || digit && n != b-'0' || !digit && n != 0 {
			t.Errorf("ParseInt(%q) = %d, %t", c, n, ok)
		}
		if n, ok := impl.ParseInt("1" + c + "1"); ok != digit || digit && n != 101+10*(b-'0') || !digit && n != 0 {
			t.Errorf("ParseInt(%q) = %d, %t", "1"+c+"1", n, ok)
		}
	}
}

// TestParseIntInvertsFormatInt holds ParseInt against its definition on both sides of every change of length.
func TestParseIntInvertsFormatInt(t *testing.T) {
	check := func(n int) {
		t.Helper()
		want := 0
		inside := n >= 0 && n <= impl.MaxValue
		if inside {
			want = n
		}
		if got, ok := impl.ParseInt(impl.FormatInt(n)); got != want || ok != inside {
			t.Errorf("ParseInt(FormatInt(%d)) = %d, %t, want %d, %t", n, got, ok, want, inside)
		}
		if got, ok := impl.ParseInt("0" + impl.FormatInt(n)); got != 0 || ok {
			t.Errorf("ParseInt(%q) = %d, %t, want 0, false", "0"+impl.FormatInt(n), got, ok)
		}
	}
	for n := -1000; n <= 11000; n++ {
		check(n)
	}
	for power := 10; power <= 1000000000000000000 && power > 0; power *= 10 {
		for _, n := range []int{power - 2, power - 1, power, power + 1, 2 * power, 9 * power} {
			check(n)
			check(-n)
		}
	}
	check(math.MaxInt)
	check(math.MinInt)
}

// TestParseIntOfShortTexts compares ParseInt with its definition on all short texts over bytes that matter.
func TestParseIntOfShortTexts(t *testing.T) {
	known := map[string]int{}
	for n := 0; n < 10000; n++ {
		known[strconv.Itoa(n)] = n
	}
	alphabet := "01289-+ /:."
	texts := []string{""}
	for length := 0; length <= 4; length++ {
		var longer []string
		for _, s := range texts {
			want, wantOk := known[s]
			if got, ok := impl.ParseInt(s); got != want || ok != wantOk {
				t.Errorf("ParseInt(%q) = %d, %t, want %d, %t", s, got, ok, want, wantOk)
			}
			for i := range alphabet {
				longer = append(longer, s+alphabet[i:i+1])
			}
		}
		texts = longer
	}
}

func TestMinAndMax(t *testing.T) {
	cases := []struct {
		a, b, least, greatest int
	}{
		{2, -1, -1, 2}, {-1, 2, -1, 2}, {0, 0, 0, 0}, {5, 5, 5, 5}, {-7, -3, -7, -3}, {3, 7, 3, 7},
		{0, 1, 0, 1}, {0, -1, -1, 0},
		{math.MinInt, math.MaxInt, math.MinInt, math.MaxInt},
		{math.MaxInt, math.MinInt, math.MinInt, math.MaxInt},
		{math.MaxInt, -1, -1, math.MaxInt},
	}
	for _, c := range cases {
		if got := impl.Min(c.a, c.b); got != c.least {
			t.Errorf("Min(%d, %d) = %d, want %d", c.a, c.b, got, c.least)
		}
		if got := impl.Max(c.a, c.b); got != c.greatest {
			t.Errorf("Max(%d, %d) = %d, want %d", c.a, c.b, got, c.greatest)
		}
	}
}

func TestCeilDiv(t *testing.T) {
	const top = impl.MaxValue
	cases := []struct {
		a, b, want int
	}{
		{7, 3, 3}, {6, 3, 2}, {0, 1, 0}, {0, 5, 0}, {1, 1, 1}, {1, 5, 1}, {5, 5, 1}, {6, 5, 2}, {9, 1, 9},
		{0, top, 0}, {1, top, 1}, {top, 1, top}, {top, top, 1}, {top - 1, top, 1}, {top, top - 1, 2}, {top, 3, 333333333334},
		{1, 0, 0}, {0, 0, 0}, {7, -3, 0}, {-1, 2, 0}, {-7, 3, 0}, {-7, -3, 0}, {-1, 0, 0},
		{top + 1, 1, 0}, {1, top + 1, 0}, {top + 1, top + 1, 0},
		{math.MinInt, -1, 0}, {math.MinInt, 1, 0}, {math.MaxInt, 1, 0}, {math.MaxInt, math.MaxInt, 0},
		{1, math.MaxInt, 0}, {1, math.MinInt, 0},
	}
	for _, c := range cases {
		if got := impl.CeilDiv(c.a, c.b); got != c.want {
			t.Errorf("CeilDiv(%d, %d) = %d, want %d", c.a, c.b, got, c.want)
		}
	}
	for a := 0; a <= 60; a++ {
		for b := 1; b <= 60; b++ {
			if got := impl.CeilDiv(a, b); got*b < a || (got-1)*b >= a {
				t.Errorf("CeilDiv(%d, %d) = %d", a, b, got)
			}
		}
	}
}

func TestMod(t *testing.T) {
	const top = impl.MaxValue
	cases := []struct {
		p, q, want int
	}{
		{-1, 7, 6}, {15, 7, 1}, {0, 7, 0}, {7, 7, 0}, {-7, 7, 0}, {-8, 7, 6}, {-14, 7, 0}, {6, 7, 6},
		{5, 1, 0}, {-5, 1, 0},
		{top, top, 0}, {top + 1, top, 1}, {-1, top, top - 1}, {-top, top, 0}, {-top - 1, top, top - 1},
		{math.MaxInt, top, 36854775807}, {math.MinInt, top, 963145224192}, {math.MinInt, 2, 0}, {math.MaxInt, 2, 1},
		{3, 0, 0}, {-3, 0, 0}, {3, -1, 0}, {3, -7, 0}, {-3, -7, 0},
		{5, top + 1, 0}, {-5, top + 1, 0}, {5, math.MaxInt, 0}, {5, math.MinInt, 0}, {math.MinInt, -1, 0},
	}
	for _, c := range cases {
		if got := impl.Mod(c.p, c.q); got != c.want {
			t.Errorf("Mod(%d, %d) = %d, want %d", c.p, c.q, got, c.want)
		}
	}
	for p := -60; p <= 60; p++ {
		for q := 1; q <= 20; q++ {
			if got := impl.Mod(p, q); got < 0 || got >= q || (p-got)%q != 0 {
				t.Errorf("Mod(%d, %d) = %d", p, q, got)
			}
		}
	}
}

func TestInRange(t *testing.T) {
	cases := []struct {
		n, low, high int
		want         bool
	}{
		{2, 2, 3, true}, {3, 2, 3, true}, {4, 2, 3, false}, {1, 2, 3, false}, {2, 2, 2, true},
		{2, 3, 1, false}, {3, 3, 1, false}, {1, 3, 1, false}, {0, -1, 1, true}, {-2, -1, 1, false},
		{math.MinInt, math.MinInt, math.MaxInt, true}, {math.MaxInt, math.MinInt, math.MaxInt, true},
		{0, math.MinInt, math.MaxInt, true}, {math.MinInt, 0, math.MaxInt, false}, {math.MaxInt, math.MinInt, 0, false},
		{0, math.MaxInt, math.MinInt, false},
	}
	for _, c := range cases {
		if got := impl.InRange(c.n, c.low, c.high); got != c.want {
			t.Errorf("InRange(%d, %d, %d) = %t, want %t", c.n, c.low, c.high, got, c.want)
		}
	}
}
