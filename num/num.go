// Package num is layer 1: bounded integers, and how they are written: see shared/doc/01-num.md.
package num

// limit is the end of the range: its numbers are -limit to limit.
const limit = 1_000_000_000_000

// limitDigits is how many digits limit has: no longer text can be a number of the range.
const limitDigits = 13

// longest is how many bytes the longest text of an int64 has: a sign and 19 digits.
const longest = 20

// Digits returns the decimal digits of n, with a minus sign before them if n is negative.
func Digits(n int64) string {
	// The last digit is known first, so the text grows from the array's end.
	var text [longest]byte
	start := len(text)
	for rest := magnitude(n); rest > 0 || start == len(text); rest /= 10 {
		start--
		text[start] = byte('0' + rest%10)
	}
	if n < 0 {
		start--
		text[start] = '-'
	}
	return string(text[start:])
}

// magnitude is unsigned because the smallest int64 has no positive counterpart.
func magnitude(n int64) uint64 {
	if n < 0 {
		return -uint64(n)
	}
	return uint64(n)
}

// Read returns the number from 0 to 10^12 that s is the text of, as Digits writes it.
func Read(s string) (int64, bool) {
	// The length is tested first, so that the sum below cannot overflow.
	if len(s) == 0 || len(s) > limitDigits || len(s) > 1 && s[0] == '0' {
		return 0, false
	}
	var n int64
	for i := range len(s) {
		if s[i] < '0' || s[i] > '9' {
			return 0, false
		}
		n = n*10 + int64(s[i]-'0')
	}
	if n > limit {
		return 0, false
	}
	return n, true
}

// Add returns the sum of a and b, each of the three clamped to the range.
func Add(a, b int64) int64 {
	return clamp(clamp(a) + clamp(b))
}

// Sub returns the difference of a and b, each of the three clamped to the range.
func Sub(a, b int64) int64 {
	return clamp(clamp(a) - clamp(b))
}

func clamp(n int64) int64 {
	return max(-limit, min(n, limit))
}

// Narrow returns n, clamped to the range low to high; it returns low if high is less than low.
func Narrow(n int64, low, high int) int {
	// low is applied last, so that it wins where the two ends are crossed.
	return int(max(int64(low), min(n, int64(high))))
}
