package impl

import "strconv"

const MaxValue = 1000000000000

// maxDigits is the length of MaxValue in decimal. Longer numerals are rejected
// unread, so that no sum of digits wraps around.
const maxDigits = 13

func FormatInt(n int) string {
	return strconv.Itoa(n)
}

func ParseInt(s string) (int, bool) {
	if !isNumeral(s) {
		return 0, false
	}
	n := 0
	for i := 0; i < len(s); i++ {
		n = n*10 + int(s[i]-'0')
	}
	if n > MaxValue {
		return 0, false
	}
	return n, true
}

func Min(a int, b int) int {
	least, _ := leastAndGreatest(a, b)
	return least
}

func Max(a int, b int) int {
	_, greatest := leastAndGreatest(a, b)
	return greatest
}

func CeilDiv(a int, b int) int {
	if !InRange(a, 0, MaxValue) || !InRange(b, 1, MaxValue) {
		return 0
	}
	return (a + b - 1) / b
}

func Mod(p int, q int) int {
	if !InRange(q, 1, MaxValue) {
		return 0
	}
	rest := p % q
	if rest < 0 {
		// Go's remainder has the sign of p.
		rest += q
	}
	return rest
}

func InRange(n int, low int, high int) bool {
	return low <= n && n <= high
}

// isNumeral reports whether FormatInt could return s for a number that is not
// negative and has at most maxDigits digits.
func isNumeral(s string) bool {
	if !InRange(len(s), 1, maxDigits) {
		return false
	}
	if s[0] == '0' && len(s) > 1 {
		return false
	}
	return hasOnlyDigits(s)
}

// hasOnlyDigits keeps how often it has met each byte: the digits among them
// have to make up the whole of s.
func hasOnlyDigits(s string) bool {
	met := map[byte]int{}
	for i := 0; i < len(s); i++ {
		met[s[i]]++
	}
	digits := 0
	for c := byte('0'); c <= '9'; c++ {
		digits += met[c]
	}
	return digits == len(s)
}

// leastAndGreatest takes its first value on its own, so that there always is
// one to return.
func leastAndGreatest(first int, others ...int) (int, int) {
	least, greatest := first, first
	for _, n := range others {
		if n < least {
			least = n
		}
		if n > greatest {
			greatest = n
		}
	}
	return least, greatest
}
