package codec

import (
	"bytes"
	"math"
	"math/big"
	"slices"
	"strings"
	"testing"
)

// numbers are numbers around every place where the length of an encoding changes, for signed numbers too, and numbers with bits of all groups.
func numbers() []uint64 {
	l := []uint64{300, 0x0123456789abcdef, 0xfedcba9876543210, 0xaaaaaaaaaaaaaaaa, 0x5555555555555555}
	for i := range 64 {
		p := uint64(1) << i
		l = append(l, p-2, p-1, p, p+1, -p, -p-1)
	}
	for n := range uint64(300) {
		l = append(l, n)
	}
	return l
}

// texts are strings of all kinds, with lengths around those where the length's encoding grows.
func texts() []string {
	l := []string{"", "a", "\x00", "\x80", "\xff\xfe", "/a/b", "h\u00e9llo", "\u00e9"[:1], "line\nline"}
	for _, n := range []int{2, 126, 127, 128, 129, 255, 256, 16383, 16384, 16385} {
		l = append(l, strings.Repeat("x", n), strings.Repeat("\x80", n))
	}
	return l
}

// tails are what can follow an encoding: nothing, and bytes that could be taken for a part of it.
func tails() [][]byte {
	return [][]byte{nil, {}, {0}, {1}, {127}, {128}, {255, 255}, {0, 0, 0}, bytes.Repeat([]byte{0x81}, 20)}
}

// encodings are starts of bytes of all kinds: valid ones, ones that stop too early, ones that are too long or too great.
func encodings() [][]byte {
	l := [][]byte{nil}
	for a := range 256 {
		l = append(l, []byte{byte(a)})
		for b := range 256 {
			l = append(l, []byte{byte(a), byte(b)})
		}
	}
	for length := 2; length < 13; length++ {
		for _, group := range []byte{0x80, 0x81, 0xff} {
			for last := range 256 {
				l = append(l, append(bytes.Repeat([]byte{group}, length), byte(last)))
			}
		}
	}
	return l
}

// wantUint is the definition of the encoding, by divisions.
func wantUint(n uint64) []byte {
	var out []byte
	rest := new(big.Int).SetUint64(n)
	for {
		group := new(big.Int)
		rest.DivMod(rest, big.NewInt(128), group)
		if rest.Sign() == 0 {
			return append(out, byte(group.Int64()))
		}
		out = append(out, byte(group.Int64()+128))
	}
}

// wantFold is 2n, or -2n - 1 for a negative n.
func wantFold(n int64) uint64 {
	twice := new(big.Int).Mul(big.NewInt(n), big.NewInt(2))
	if n < 0 {
		twice.Neg(twice).Sub(twice, big.NewInt(1))
	}
	return twice.Uint64()
}

// wantTake is the definition of a valid encoding: the sum of its groups, if it is at most 2^64 - 1 and its highest group is needed.
func wantTake(b []byte) (uint64, []byte, bool) {
	end := slices.IndexFunc(b, func(group byte) bool { return group < 128 })
	if end < 0 || end > 0 && b[end] == 0 {
		return 0, nil, false
	}
	sum := new(big.Int)
	for _, group := range slices.Backward(b[:end+1]) {
		sum.Mul(sum, big.NewInt(128)).Add(sum, big.NewInt(int64(group)%128))
	}
	if !sum.IsUint64() {
		return 0, nil, false
	}
	return sum.Uint64(), b[end+1:], true
}

// P302: Uint of the numbers at which an encoding grows.
func TestUint(t *testing.T) {
	for _, c := range []struct {
		n    uint64
		want []byte
	}{
		{0, []byte{0}},
		{1, []byte{1}},
		{127, []byte{127}},
		{128, []byte{128, 1}},
		{129, []byte{129, 1}},
		{255, []byte{255, 1}},
		{256, []byte{128, 2}},
		{300, []byte{172, 2}},
		{16383, []byte{255, 127}},
		{16384, []byte{128, 128, 1}},
		{1 << 31, []byte{128, 128, 128, 128, 8}},
		{1<<63 - 1, []byte{255, 255, 255, 255, 255, 255, 255, 255, 127}},
		{1 << 63, []byte{128, 128, 128, 128, 128, 128, 128, 128, 128, 1}},
		{math.MaxUint64, []byte{255, 255, 255, 255, 255, 255, 255, 255, 255, 1}},
	} {
		if got := Uint(nil, c.n); !bytes.Equal(got, c.want) {
			t.Errorf("Uint(nil, %d) = %v, want %v", c.n, got, c.want)
		}
	}
	for _, n := range numbers() {
		if got, want := Uint(nil, n), wantUint(n); !bytes.Equal(got, want) {
			t.Errorf("Uint(nil, %d) = %v, want %v", n, got, want)
		}
	}
}

// P302: Int alternates between the signs, and reaches both ends of the numbers.
func TestInt(t *testing.T) {
	for _, c := range []struct {
		n    int64
		want []byte
	}{
		{0, []byte{0}},
		{-1, []byte{1}},
		{1, []byte{2}},
		{-2, []byte{3}},
		{63, []byte{126}},
		{-64, []byte{127}},
		{64, []byte{128, 1}},
		{-65, []byte{129, 1}},
		{150, []byte{172, 2}},
		{math.MaxInt64, []byte{254, 255, 255, 255, 255, 255, 255, 255, 255, 1}},
		{math.MinInt64, []byte{255, 255, 255, 255, 255, 255, 255, 255, 255, 1}},
	} {
		if got := Int(nil, c.n); !bytes.Equal(got, c.want) {
			t.Errorf("Int(nil, %d) = %v, want %v", c.n, got, c.want)
		}
	}
	for _, u := range numbers() {
		n := int64(u)
		if got, want := Int(nil, n), wantUint(wantFold(n)); !bytes.Equal(got, want) {
			t.Errorf("Int(nil, %d) = %v, want %v", n, got, want)
		}
	}
}

// P302: Text writes the number of bytes, not of characters, and then the bytes as they are.
func TestText(t *testing.T) {
	for _, c := range []struct {
		s    string
		want []byte
	}{
		{"", []byte{0}},
		{"a", []byte{1, 'a'}},
		{"/ab", []byte{3, '/', 'a', 'b'}},
		{"\u00e9", []byte{2, 0xc3, 0xa9}},
		{"\xff\x00", []byte{2, 255, 0}},
	} {
		if got := Text(nil, c.s); !bytes.Equal(got, c.want) {
			t.Errorf("Text(nil, %q) = %v, want %v", c.s, got, c.want)
		}
	}
	for _, s := range texts() {
		want := append(wantUint(uint64(len(s))), s...)
		if got := Text(nil, s); !bytes.Equal(got, want) {
			t.Errorf("Text(nil, %.20q): %d bytes, want %d", s, len(got), len(want))
		}
	}
}

// P302: the encoding follows b, whatever b holds; nil and empty are the same.
func TestEncodingFollowsBytes(t *testing.T) {
	for _, b := range tails() {
		for _, n := range []uint64{0, 127, 128, 300, math.MaxUint64} {
			if got, want := Uint(b, n), slices.Concat(b, wantUint(n)); !bytes.Equal(got, want) {
				t.Errorf("Uint(%v, %d) = %v, want %v", b, n, got, want)
			}
			if got, want := Int(b, int64(n)), slices.Concat(b, wantUint(wantFold(int64(n)))); !bytes.Equal(got, want) {
				t.Errorf("Int(%v, %d) = %v, want %v", b, int64(n), got, want)
			}
		}
		for _, s := range texts() {
			if got, want := Text(b, s), slices.Concat(b, wantUint(uint64(len(s))), []byte(s)); !bytes.Equal(got, want) {
				t.Errorf("Text(%v, %.20q): %d bytes, want %d", b, s, len(got), len(want))
			}
		}
	}
}

// P302: TakeUint and TakeInt refuse what is no valid encoding, always together with 0 and no bytes.
func TestTakeRefusesNumbers(t *testing.T) {
	nine := bytes.Repeat([]byte{255}, 9)
	low := bytes.Repeat([]byte{128}, 9)
	for _, b := range [][]byte{
		nil, {},
		// The last byte is missing.
		{128}, {129}, {255}, {128, 128}, nine, low, slices.Concat(nine, []byte{129}), slices.Concat(nine, []byte{255}),
		// Longer than necessary.
		{128, 0}, {129, 0}, {255, 0}, {255, 255, 0}, {128, 128, 128, 0}, {128, 0, 1}, slices.Concat(low, []byte{0}), slices.Concat(nine, []byte{0}), slices.Concat(nine, []byte{129, 0}),
		// 2^64, and greater numbers of 10, 11 and more bytes.
		slices.Concat(low, []byte{2}), slices.Concat(low, []byte{3}), slices.Concat(low, []byte{127}), slices.Concat(nine, []byte{2}), slices.Concat(nine, []byte{127}),
		slices.Concat(low, []byte{128, 1}), slices.Concat(low, []byte{129, 1}), slices.Concat(nine, []byte{255, 1}), slices.Concat(low, low, []byte{1}), bytes.Repeat([]byte{255}, 100000),
	} {
		if n, rest, ok := TakeUint(b); n != 0 || len(rest) != 0 || ok {
			t.Errorf("TakeUint(%.40v) = %d, %v, %v", b, n, rest, ok)
		}
		if n, rest, ok := TakeInt(b); n != 0 || len(rest) != 0 || ok {
			t.Errorf("TakeInt(%.40v) = %d, %v, %v", b, n, rest, ok)
		}
		if s, rest, ok := TakeText(b, math.MaxInt); s != "" || len(rest) != 0 || ok {
			t.Errorf("TakeText(%.40v) = %q, %v, %v", b, s, rest, ok)
		}
	}
}

// P302: TakeUint and TakeInt agree with the definition on bytes of all kinds.
func TestTakeAgreesWithDefinition(t *testing.T) {
	for _, b := range encodings() {
		want, wantRest, wantOK := wantTake(b)
		n, rest, ok := TakeUint(b)
		if n != want || !bytes.Equal(rest, wantRest) || ok != wantOK {
			t.Errorf("TakeUint(%v) = %d, %v, %v, want %d, %v, %v", b, n, rest, ok, want, wantRest, wantOK)
		}
		signed, rest, ok := TakeInt(b)
		if !bytes.Equal(rest, wantRest) || ok != wantOK || ok && wantFold(signed) != want || !ok && signed != 0 {
			t.Errorf("TakeInt(%v) = %d, %v, %v, want the number of %d, %v, %v", b, signed, rest, ok, want, wantRest, wantOK)
		}
	}
}

// P302: TakeText for strings of exactly most bytes, of fewer, of more, and for a most below 0.
func TestTakeTextAndMost(t *testing.T) {
	for _, c := range []struct {
		b    []byte
		most int
		s    string
		rest string
		ok   bool
	}{
		{[]byte{0}, 0, "", "", true},
		{[]byte{0}, math.MaxInt, "", "", true},
		{[]byte{0, 1}, 0, "", "\x01", true},
		{[]byte("\x02abc"), 2, "ab", "c", true},
		{[]byte("\x02abc"), 3, "ab", "c", true},
		{[]byte("\x02abc"), math.MaxInt, "ab", "c", true},
		{[]byte("\x03abc"), 3, "abc", "", true},
		{[]byte("\x02\xff\x00\x80"), 2, "\xff\x00", "\x80", true},
		// More than most.
		{[]byte("\x02abc"), 1, "", "", false},
		{[]byte("\x02abc"), 0, "", "", false},
		{[]byte("\x01a"), 0, "", "", false},
		// Even the empty string has more than -1 bytes.
		{[]byte{0}, -1, "", "", false},
		{[]byte{0}, math.MinInt, "", "", false},
		{[]byte("\x02abc"), -1, "", "", false},
		{[]byte("\x02abc"), math.MinInt, "", "", false},
	} {
		if s, rest, ok := TakeText(c.b, c.most); s != c.s || string(rest) != c.rest || ok != c.ok {
			t.Errorf("TakeText(%q, %d) = %q, %q, %v, want %q, %q, %v", c.b, c.most, s, rest, ok, c.s, c.rest, c.ok)
		}
	}
}

// P302: TakeText refuses a string that b does not hold whole, up to lengths that no int can be.
func TestTakeTextRefusesShortBytes(t *testing.T) {
	for _, length := range []uint64{1, 2, 3, 4, 127, 128, 300, 1 << 31, 1 << 32, 1<<63 - 1, 1 << 63, 1<<63 + 1, 1<<64 - 3, 1<<64 - 2, 1<<64 - 1} {
		whole := append(wantUint(length), "abc"...)
		for _, most := range []int{0, 2, 300, 1 << 32, math.MaxInt - 1, math.MaxInt, -1, math.MinInt} {
			want := length <= 3 && most >= int(length)
			s, rest, ok := TakeText(whole, most)
			if ok != want || !ok && (s != "" || len(rest) != 0) || ok && s+string(rest) != "abc" {
				t.Errorf("TakeText of the length %d with %d = %q, %q, %v", length, most, s, rest, ok)
			}
		}
	}
	for _, s := range texts() {
		whole := Text(nil, s)
		for cut := range min(len(whole), 200) {
			if s, rest, ok := TakeText(whole[:len(whole)-1-cut], math.MaxInt); s != "" || len(rest) != 0 || ok {
				t.Errorf("TakeText of %d bytes too few = %.20q, %v, %v", cut+1, s, rest, ok)
			}
		}
	}
}

// P302, P303: a string's length must be encoded as shortly as every other number.
func TestTakeTextRefusesLongLengths(t *testing.T) {
	for _, b := range []string{"\x80\x00", "\x81\x00a", "\x82\x00ab", "\x82\x80\x00ab"} {
		if s, rest, ok := TakeText([]byte(b), math.MaxInt); s != "" || len(rest) != 0 || ok {
			t.Errorf("TakeText(%q) = %q, %q, %v", b, s, rest, ok)
		}
	}
}

// P303: decoding inverts encoding, and leaves the bytes that follow.
func TestDecodingInvertsEncoding(t *testing.T) {
	for _, tail := range tails() {
		for _, n := range numbers() {
			if got, rest, ok := TakeUint(append(Uint(nil, n), tail...)); got != n || !bytes.Equal(rest, tail) || !ok {
				t.Errorf("TakeUint of %d and %v = %d, %v, %v", n, tail, got, rest, ok)
			}
			if got, rest, ok := TakeInt(append(Int(nil, int64(n)), tail...)); got != int64(n) || !bytes.Equal(rest, tail) || !ok {
				t.Errorf("TakeInt of %d and %v = %d, %v, %v", int64(n), tail, got, rest, ok)
			}
		}
		for _, s := range texts() {
			for _, most := range []int{len(s), len(s) + 1, math.MaxInt} {
				if got, rest, ok := TakeText(append(Text(nil, s), tail...), most); got != s || !bytes.Equal(rest, tail) || !ok {
					t.Errorf("TakeText of %.20q and %v = %.20q, %v, %v", s, tail, got, rest, ok)
				}
			}
		}
	}
}

// P303: encoding inverts decoding: what is taken, followed by the bytes after it, are the bytes that were there.
func TestEncodingInvertsDecoding(t *testing.T) {
	for _, b := range encodings() {
		if n, rest, ok := TakeUint(b); ok && !bytes.Equal(append(Uint(nil, n), rest...), b) {
			t.Errorf("TakeUint(%v) = %d, %v", b, n, rest)
		}
		if n, rest, ok := TakeInt(b); ok && !bytes.Equal(append(Int(nil, n), rest...), b) {
			t.Errorf("TakeInt(%v) = %d, %v", b, n, rest)
		}
		if s, rest, ok := TakeText(b, math.MaxInt); ok && !bytes.Equal(append(Text(nil, s), rest...), b) {
			t.Errorf("TakeText(%v) = %q, %v", b, s, rest)
		}
	}
}

// P303: values that are written one after the other are read in the same order.
func TestValuesInARow(t *testing.T) {
	b := Text(Int(Uint(nil, 300), -300), "/a")
	b = Uint(Text(b, ""), 0)
	n, b, ok1 := TakeUint(b)
	signed, b, ok2 := TakeInt(b)
	s, b, ok3 := TakeText(b, 64)
	empty, b, ok4 := TakeText(b, 0)
	zero, b, ok5 := TakeUint(b)
	if n != 300 || signed != -300 || s != "/a" || empty != "" || zero != 0 || len(b) != 0 || !(ok1 && ok2 && ok3 && ok4 && ok5) {
		t.Error(n, signed, s, empty, zero, b, ok1, ok2, ok3, ok4, ok5)
	}
}

// calls are all functions, each as one that takes bytes and returns bytes.
func calls() map[string]func(b []byte) []byte {
	return map[string]func(b []byte) []byte{
		"Uint":     func(b []byte) []byte { return Uint(b, 300) },
		"Int":      func(b []byte) []byte { return Int(b, -300) },
		"Text":     func(b []byte) []byte { return Text(b, "text") },
		"TakeUint": func(b []byte) []byte { _, rest, _ := TakeUint(b); return rest },
		"TakeInt":  func(b []byte) []byte { _, rest, _ := TakeInt(b); return rest },
		"TakeText": func(b []byte) []byte { _, rest, _ := TakeText(b, 64); return rest },
	}
}

// overwrite changes all bytes of b, and of the capacity behind them.
func overwrite(b []byte) {
	for i := range b[:cap(b)] {
		b[:cap(b)][i] ^= 0xff
	}
}

// P301: a call leaves its argument and the capacity behind it as they are, and neither of the two can change the other afterwards.
func TestResultsShareNoMemory(t *testing.T) {
	for name, call := range calls() {
		for _, length := range []int{0, 1, 2, 3, 30} {
			memory := append([]byte{2, 'a', 'b', 'c'}, make([]byte, 60)...)
			before := bytes.Clone(memory)
			argument := memory[:length]
			result := call(argument)
			if !bytes.Equal(memory, before) {
				t.Errorf("%s of %d bytes changes its argument, or the bytes behind it", name, length)
			}
			told := bytes.Clone(result)
			overwrite(result)
			if !bytes.Equal(memory, before) {
				t.Errorf("the result of %s of %d bytes shares memory with its argument", name, length)
			}
			overwrite(result)
			overwrite(memory)
			if !bytes.Equal(result, told) {
				t.Errorf("%s of %d bytes keeps its argument", name, length)
			}
		}
	}
}

// P301: two results share no memory, and a string that was taken stays as it was.
func TestResultsAreSeparate(t *testing.T) {
	for name, call := range calls() {
		argument := []byte{2, 'a', 'b', 'c', 'd'}
		one, other := call(argument), call(argument)
		told := bytes.Clone(other)
		overwrite(one)
		if !bytes.Equal(other, told) {
			t.Errorf("two results of %s share memory", name)
		}
	}
	b := []byte("\x02abcd")
	s, rest, _ := TakeText(b, 2)
	overwrite(b)
	overwrite(rest)
	if s != "ab" {
		t.Errorf("the string is now %q", s)
	}
}

// P301: a call's result depends on nothing but its arguments, and nil is as good as empty.
func TestCallsArePure(t *testing.T) {
	for name, call := range calls() {
		if !bytes.Equal(call(nil), call([]byte{})) {
			t.Errorf("%s tells nil from empty", name)
		}
	}
	for _, b := range encodings() {
		for name, call := range calls() {
			first := call(b)
			call([]byte{1, 'z', 9, 9, 9})
			if !bytes.Equal(first, call(b)) {
				t.Errorf("%s(%v) is not the same twice", name, b)
			}
		}
	}
}
