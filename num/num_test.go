package num

import (
	"math"
	"math/big"
	"strconv"
	"strings"
	"testing"
)

// samples are numbers around every place where a rule of the chapter changes: zero, the powers of ten, the ends of the range, and the ends of int64.
func samples() []int64 {
	l := []int64{0, math.MaxInt64, math.MaxInt64 - 1, math.MinInt64, math.MinInt64 + 1, math.MaxInt32, math.MinInt32, 5e11, -5e11, 123456789012, -987654321098}
	power := int64(1)
	for range 19 {
		for _, n := range []int64{power - 1, power, power + 1} {
			l = append(l, n, -n)
		}
		if power <= math.MaxInt64/10 {
			power *= 10
		}
	}
	return l
}

// P101: calls end without a panic for all arguments, false goes with 0, and a call's result depends on nothing but its arguments.
func TestCallsArePure(t *testing.T) {
	var first []string
	for round := range 2 {
		var told []string
		for _, a := range samples() {
			n, ok := Read(Digits(a))
			told = append(told, Digits(a), strconv.FormatInt(n, 10), strconv.FormatBool(ok))
			for _, b := range samples() {
				told = append(told, Digits(Add(a, b)), Digits(Sub(a, b)), strconv.Itoa(Narrow(a, int(b), 7)), strconv.Itoa(Narrow(a, -7, int(b))))
			}
		}
		if round == 0 {
			first = told
			continue
		}
		for i := range told {
			if told[i] != first[i] {
				t.Fatalf("result %d was %s and is now %s", i, first[i], told[i])
			}
		}
	}
}

// P102: Digits of small numbers, of both signs, and of the ends of int64.
func TestDigits(t *testing.T) {
	for _, c := range []struct {
		n    int64
		want string
	}{
		{0, "0"},
		{1, "1"},
		{9, "9"},
		{10, "10"},
		{42, "42"},
		{100, "100"},
		{1000000000000, "1000000000000"},
		{1000000000001, "1000000000001"},
		{-1, "-1"},
		{-10, "-10"},
		{-907, "-907"},
		{-1000000000000, "-1000000000000"},
		{math.MaxInt64, "9223372036854775807"},
		{math.MinInt64 + 1, "-9223372036854775807"},
		{math.MinInt64, "-9223372036854775808"},
	} {
		if got := Digits(c.n); got != c.want {
			t.Errorf("Digits(%d) = %q, want %q", c.n, got, c.want)
		}
	}
}

// P102: Digits agrees with the library beyond the range too.
func TestDigitsAgreesWithLibrary(t *testing.T) {
	for _, n := range samples() {
		if got, want := Digits(n), strconv.FormatInt(n, 10); got != want {
			t.Errorf("Digits(%d) = %q", n, got)
		}
	}
}

// P102: what Read accepts.
func TestReadAccepts(t *testing.T) {
	for s, want := range map[string]int64{
		"0":             0,
		"1":             1,
		"9":             9,
		"10":            10,
		"100":           100,
		"1234567890":    1234567890,
		"100000000000":  100000000000,
		"999999999999":  999999999999,
		"1000000000000": 1000000000000,
	} {
		if got, ok := Read(s); got != want || !ok {
			t.Errorf("Read(%q) = %d, %v, want %d, true", s, got, ok, want)
		}
	}
}

// P101, P102: what Read refuses, always together with 0.
func TestReadRefuses(t *testing.T) {
	for _, s := range []string{
		"",
		// Unnecessary leading zeros, of 2, 13 and 14 digits.
		"00", "01", "007", "0000000000000", "0000000000001", "0999999999999", "00000000000000", "00000000000001", "01000000000000",
		// 13 digits above the range, and 14 digits.
		"1000000000001", "1000000000010", "2000000000000", "9999999999999", "10000000000000", "99999999999999",
		// Longer than an int64: some of these are small numbers, modulo 2^64.
		"9223372036854775807", "9223372036854775808", "18446744073709551616", "18446744073709551617", "340282366920938463463374607431768211457",
		strings.Repeat("9", 100000), strings.Repeat("0", 100000),
		// Signs, blanks, and other notations.
		"-", "+", "-0", "-1", "+1", "--1", "-1000000000000", " ", " 1", "1 ", "1 2", "1\n", "\t1", "1.0", "1.", ".1", "1e3", "0x1", "0b1", "1_000", "1,000", "a", "1a", "a1", "NaN",
		// The bytes that stand next to the digits, and bytes that are no text.
		"/", ":", "1/", "1:", "/1", ":1", "\x00", "1\x00", "\x001", "\xff", "1\xff", "\xb1",
		// Digits of other scripts.
		"\u0661", "\uff11", "1\u0662", "1\uff12", "\u00b2", "1\u00b2",
	} {
		if got, ok := Read(s); got != 0 || ok {
			t.Errorf("Read(%.40q) = %d, %v, want 0, false", s, got, ok)
		}
	}
}

// P102: Read refuses a text with any byte but a digit, wherever it stands.
func TestReadRefusesOtherBytes(t *testing.T) {
	for at := range 13 {
		for b := range 256 {
			text := []byte("1000000000000")
			text[at] = byte(b)
			_, ok := Read(string(text))
			isDigit := b >= '0' && b <= '9'
			inRange := b == '0' && at > 0 || b == '1' && at == 0
			if ok != (isDigit && inRange) {
				t.Errorf("Read(%q): %v", text, ok)
			}
		}
	}
}

// P103: Add and Sub inside the range, at its ends, and far outside it.
func TestAddAndSub(t *testing.T) {
	const end = 1000000000000
	for _, c := range []struct{ a, b, sum, difference int64 }{
		{0, 0, 0, 0},
		{3, 5, 8, -2},
		{-3, 5, 2, -8},
		{-3, -5, -8, 2},
		{end, 0, end, end},
		{end, 1, end, end - 1},
		{end, -1, end - 1, end},
		{end - 1, 1, end, end - 2},
		{end - 1, 2, end, end - 3},
		{-end, 1, -end + 1, -end},
		{-end, -1, -end, -end + 1},
		{end, end, end, 0},
		{end, -end, 0, end},
		{-end, -end, -end, 0},
		{-end, end, 0, -end},
		// Both arguments are clamped before they are added.
		{end + 1, -1, end - 1, end},
		{end + 5, -end, 0, end},
		{-end - 5, end, 0, -end},
		{0, end + 1, end, -end},
		{0, -end - 1, -end, end},
		{math.MaxInt64, math.MaxInt64, end, 0},
		{math.MaxInt64, math.MinInt64, 0, end},
		{math.MinInt64, math.MaxInt64, 0, -end},
		{math.MinInt64, math.MinInt64, -end, 0},
		{math.MaxInt64, 1, end, end - 1},
		{math.MinInt64, 1, -end + 1, -end},
		{1, math.MinInt64, -end + 1, end},
		{math.MinInt64, 5, -end + 5, -end},
	} {
		if got := Add(c.a, c.b); got != c.sum {
			t.Errorf("Add(%d, %d) = %d, want %d", c.a, c.b, got, c.sum)
		}
		if got := Sub(c.a, c.b); got != c.difference {
			t.Errorf("Sub(%d, %d) = %d, want %d", c.a, c.b, got, c.difference)
		}
	}
}

// P103: Add and Sub agree with exact arithmetic that is clamped as the chapter says.
func TestAddAndSubAgreeWithExactNumbers(t *testing.T) {
	for _, a := range samples() {
		for _, b := range samples() {
			x, y := clampBig(big.NewInt(a)), clampBig(big.NewInt(b))
			if got, want := Add(a, b), clampBig(new(big.Int).Add(x, y)).Int64(); got != want {
				t.Errorf("Add(%d, %d) = %d, want %d", a, b, got, want)
			}
			if got, want := Sub(a, b), clampBig(new(big.Int).Sub(x, y)).Int64(); got != want {
				t.Errorf("Sub(%d, %d) = %d, want %d", a, b, got, want)
			}
		}
	}
}

func clampBig(n *big.Int) *big.Int {
	end := big.NewInt(1000000000000)
	if n.CmpAbs(end) <= 0 {
		return n
	}
	if n.Sign() < 0 {
		return new(big.Int).Neg(end)
	}
	return end
}

// P103: Narrow below, inside and above its range, at the ends of int64, and with low above high.
func TestNarrow(t *testing.T) {
	for _, c := range []struct {
		n         int64
		low, high int
		want      int
	}{
		{0, -3, 3, 0},
		{-4, -3, 3, -3},
		{-3, -3, 3, -3},
		{-2, -3, 3, -2},
		{2, -3, 3, 2},
		{3, -3, 3, 3},
		{4, -3, 3, 3},
		{5, 7, 7, 7},
		{9, 7, 7, 7},
		{math.MinInt64, -3, 3, -3},
		{math.MaxInt64, -3, 3, 3},
		{math.MinInt64, math.MinInt, math.MaxInt, math.MinInt},
		{math.MaxInt64, math.MinInt, math.MaxInt, math.MaxInt},
		{math.MinInt64, math.MinInt, math.MinInt, math.MinInt},
		{math.MaxInt64, math.MinInt, math.MinInt, math.MinInt},
		{math.MinInt64, math.MaxInt, math.MaxInt, math.MaxInt},
		// Narrow has a range of its own: that of Add and Sub does not bound it.
		{2000000000000, 0, 3000000000000, 2000000000000},
		{1 << 40, 0, 1 << 50, 1 << 40},
		{-1 << 40, -1 << 50, 0, -1 << 40},
		// Low above high: low, wherever n is.
		{3, 5, 4, 5},
		{4, 5, 4, 5},
		{5, 5, 4, 5},
		{7, 5, 4, 5},
		{0, 5, -5, 5},
		{-7, -1, -2, -1},
		{0, math.MaxInt, math.MinInt, math.MaxInt},
		{math.MinInt64, math.MaxInt, math.MinInt, math.MaxInt},
		{math.MaxInt64, math.MaxInt, math.MinInt, math.MaxInt},
		{math.MaxInt64, 0, math.MinInt, 0},
	} {
		if got := Narrow(c.n, c.low, c.high); got != c.want {
			t.Errorf("Narrow(%d, %d, %d) = %d, want %d", c.n, c.low, c.high, got, c.want)
		}
	}
}

// P104: Read inverts Digits for the numbers of the range that are not negative, and refuses the others.
func TestReadInvertsDigits(t *testing.T) {
	for _, n := range samples() {
		want, inRange := int64(0), n >= 0 && n <= 1000000000000
		if inRange {
			want = n
		}
		if got, ok := Read(Digits(n)); got != want || ok != inRange {
			t.Errorf("Read(Digits(%d)) = %d, %v", n, got, ok)
		}
	}
	for n := range int64(20000) {
		if got, ok := Read(Digits(n)); got != n || !ok {
			t.Errorf("Read(Digits(%d)) = %d, %v", n, got, ok)
		}
	}
}

// P104: Digits inverts Read: each text that Read accepts is the only one of its number.
func TestDigitsInvertsRead(t *testing.T) {
	const letters = "0189-+ "
	texts := []string{""}
	for start := 0; len(texts[start]) < 5; start++ {
		for _, c := range letters {
			texts = append(texts, texts[start]+string(c))
		}
	}
	texts = append(texts, "1000000000000", "1000000000001", "0000000000001", "999999999999")
	accepted := 0
	for _, s := range texts {
		n, ok := Read(s)
		if !ok {
			continue
		}
		accepted++
		if got := Digits(n); got != s {
			t.Errorf("Digits(Read(%q)) = %q", s, got)
		}
	}
	// Of the four digits above, 3 can stand first in a number of 1 to 5 digits; then there are 0, 10^12 and 10^12 - 1.
	if want := 3*(1+4+16+64+256) + 3; accepted != want {
		t.Errorf("Read accepts %d texts, want %d", accepted, want)
	}
}

// P104: Add is commutative, and Sub of a number and itself is 0.
func TestAddAndSubLaws(t *testing.T) {
	for _, a := range samples() {
		if got := Sub(a, a); got != 0 {
			t.Errorf("Sub(%d, %d) = %d", a, a, got)
		}
		for _, b := range samples() {
			if Add(a, b) != Add(b, a) {
				t.Errorf("Add(%d, %d) = %d, and exchanged %d", a, b, Add(a, b), Add(b, a))
			}
		}
	}
}
