package choice

import (
	"math"
	"math/big"
	"slices"
	"strings"
	"testing"
)

// 32 writes that all have the value 3, that are all kept, and that are all torn.
const (
	everyBit = uint64(math.MaxUint64)
	allKept  = uint64(0x5555555555555555)
	allTorn  = allKept << 1
)

// numbers are numbers of all kinds: choices of few and of many writes, and numbers that are no choice of any.
func numbers() []uint64 {
	l := []uint64{everyBit, allKept, allTorn, 0x0123456789abcdef, 0xfedcba9876543210, 0x9249249249249249, 1853020188851840, 1853020188851841}
	for i := range 64 {
		l = append(l, 1<<i, 1<<i-1, everyBit<<i, allKept>>i, allTorn>>i)
	}
	for c := range uint64(256) {
		l = append(l, c)
	}
	return l
}

// counts are numbers of writes, or places of writes, inside and outside the range 0 to 32.
func counts() []int {
	l := []int{-64, -33, -32, -31, -2, -1, 33, 34, 63, 64, 65, 1 << 31, 1 << 32, 1<<32 + 1, 1 << 62, math.MaxInt, math.MaxInt - 1, math.MinInt, math.MinInt + 1, math.MinInt + 32}
	for n := range 33 {
		l = append(l, n)
	}
	return l
}

// digits returns the fates of the first n writes, worked out without shifts: digits of c in base 4.
func digits(c uint64, n int) []int {
	var l []int
	for range n {
		l = append(l, int(c%4))
		c /= 4
	}
	return l
}

// number is the number with these digits, the lowest first.
func number(fates []int, base uint64) uint64 {
	var c uint64
	for _, fate := range slices.Backward(fates) {
		c = c*base + uint64(fate)
	}
	return c
}

// isChoice is the definition of a choice for n writes.
func isChoice(c uint64, n int) bool {
	if n < 0 || n > 32 {
		return false
	}
	fates := digits(c, n)
	return !slices.Contains(fates, 3) && number(fates, 4) == c
}

// mustRead is the choice that s shows.
func mustRead(t *testing.T, s string) uint64 {
	t.Helper()
	c, n, ok := Read(s)
	if !ok || n != len(s) {
		t.Fatalf("Read(%q) = %d, %d, %v", s, c, n, ok)
	}
	return c
}

// answers is what one call of every function returns for these arguments.
type answers struct {
	fate             int
	with             uint64
	right            bool
	count, nth, rank uint64
	ranked, allowed  bool
	shown            string
	read             uint64
	length           int
	ok               bool
}

func askAll(c uint64, n int, tear bool) answers {
	var a answers
	a.fate, a.with, a.right = Fate(c, n), With(c, n, int(c%5)-1), Right(c, n)
	a.count, a.nth = Count(n, tear), Nth(c, n, tear)
	a.rank, a.ranked = Rank(c, n, tear)
	a.allowed = Allowed(c, make([]int, max(0, min(n, 40))))
	a.shown = Show(c, n)
	a.read, a.length, a.ok = Read(a.shown)
	return a
}

// P201: calls end without a panic for all arguments, and a call's result depends on nothing but its arguments.
func TestCallsArePure(t *testing.T) {
	var first []answers
	for round := range 2 {
		at := 0
		for _, c := range numbers() {
			for _, n := range counts() {
				for _, tear := range []bool{false, true} {
					a := askAll(c, n, tear)
					if round == 0 {
						first = append(first, a)
					} else if a != first[at] {
						t.Fatalf("for %d, %d, %v the results were %v and are now %v", c, n, tear, first[at], a)
					}
					at++
				}
			}
		}
	}
}

// P201: the epochs are not modified, nor is the capacity behind them.
func TestAllowedLeavesTheEpochs(t *testing.T) {
	all := []int{5, 1, 3, 1, 9, -2, 7}
	before := slices.Clone(all)
	for c := range uint64(256) {
		Allowed(c, all[:4])
	}
	if !slices.Equal(all, before) {
		t.Errorf("the epochs are %v, and were %v", all, before)
	}
}

// P202: Fate of ordinary writes, of the first and the last one, of the value 3, and out of the range.
func TestFate(t *testing.T) {
	for _, c := range []struct {
		c    uint64
		i    int
		want int
	}{
		{0, 0, 0},
		{1, 0, 1},
		{2, 0, 2},
		{3, 0, 3},
		{4, 0, 0},
		{4, 1, 1},
		{8, 1, 2},
		{33, 0, 1},
		{33, 1, 0},
		{33, 2, 2},
		{1 << 62, 31, 1},
		{1 << 63, 31, 2},
		{3 << 62, 31, 3},
		{3 << 62, 30, 0},
		{allKept, 31, 1},
		{allTorn, 16, 2},
	} {
		if got := Fate(c.c, c.i); got != c.want {
			t.Errorf("Fate(%d, %d) = %d, want %d", c.c, c.i, got, c.want)
		}
	}
	for _, c := range numbers() {
		want := digits(c, 32)
		for _, i := range counts() {
			got := Fate(c, i)
			if inside := i >= 0 && i < 32; inside && got != want[i] || !inside && got != 0 {
				t.Errorf("Fate(%d, %d) = %d", c, i, got)
			}
		}
	}
}

// P202: With replaces one fate and leaves the others, and returns c itself for a write or a fate out of the range.
func TestWith(t *testing.T) {
	for _, c := range []struct {
		c       uint64
		i, fate int
		want    uint64
	}{
		{0, 0, 0, 0},
		{0, 0, 1, 1},
		{0, 0, 2, 2},
		{0, 3, 1, 64},
		{33, 0, 0, 32},
		{33, 0, 2, 34},
		{33, 1, 1, 37},
		{33, 2, 1, 17},
		{3, 0, 0, 0},
		{3, 0, 1, 1},
		{3, 0, 2, 2},
		{0, 31, 2, 1 << 63},
		{everyBit, 31, 0, everyBit >> 2},
		{33, 0, 3, 33},
		{33, 0, -1, 33},
		{33, 0, 4, 33},
		{33, 0, math.MaxInt, 33},
		{33, 0, math.MinInt, 33},
		{33, -1, 2, 33},
		{33, 32, 2, 33},
		{33, 64, 2, 33},
		{33, math.MaxInt, 2, 33},
		{33, math.MinInt, 2, 33},
	} {
		if got := With(c.c, c.i, c.fate); got != c.want {
			t.Errorf("With(%d, %d, %d) = %d, want %d", c.c, c.i, c.fate, got, c.want)
		}
	}
	for _, c := range numbers() {
		for _, i := range counts() {
			for fate := -1; fate <= 4; fate++ {
				want := digits(c, 32)
				if i >= 0 && i < 32 && fate >= 0 && fate <= 2 {
					want[i] = fate
				}
				if got := With(c, i, fate); got != number(want, 4) {
					t.Errorf("With(%d, %d, %d) = %d, want %d", c, i, fate, got, number(want, 4))
				}
			}
		}
	}
}

// P202: Right refuses the fate 3, bits behind the last write, and numbers of writes out of the range.
func TestRight(t *testing.T) {
	for _, c := range []struct {
		c    uint64
		n    int
		want bool
	}{
		{0, 0, true},
		{1, 0, false},
		{1 << 63, 0, false},
		{0, 1, true},
		{2, 1, true},
		{3, 1, false},
		{4, 1, false},
		{4, 2, true},
		{12, 2, false},
		{16, 2, false},
		{1 << 63, 31, false},
		{1 << 63, 32, true},
		{1 << 62, 32, true},
		{3 << 62, 32, false},
		{allKept, 32, true},
		{allTorn, 32, true},
		{allTorn, 31, false},
		{allTorn >> 2, 31, true},
		{everyBit, 32, false},
		{0, 32, true},
		{0, 33, false},
		{0, -1, false},
		{0, math.MaxInt, false},
		{0, math.MinInt, false},
	} {
		if got := Right(c.c, c.n); got != c.want {
			t.Errorf("Right(%d, %d) = %v", c.c, c.n, got)
		}
	}
	for _, c := range numbers() {
		for _, n := range counts() {
			if got := Right(c, n); got != isChoice(c, n) {
				t.Errorf("Right(%d, %d) = %v", c, n, got)
			}
		}
	}
}

// P203: Count is a power of 2 or 3 in the range, and 0 outside it.
func TestCount(t *testing.T) {
	for _, c := range []struct {
		n    int
		tear bool
		want uint64
	}{
		{0, false, 1},
		{0, true, 1},
		{1, false, 2},
		{1, true, 3},
		{2, false, 4},
		{2, true, 9},
		{8, false, 256},
		{8, true, 6561},
		{32, false, 4294967296},
		{32, true, 1853020188851841},
		{33, false, 0},
		{33, true, 0},
		{-1, false, 0},
		{-1, true, 0},
	} {
		if got := Count(c.n, c.tear); got != c.want {
			t.Errorf("Count(%d, %v) = %d, want %d", c.n, c.tear, got, c.want)
		}
	}
	for _, n := range counts() {
		for base, tear := range map[int64]bool{2: false, 3: true} {
			want := new(big.Int)
			if n >= 0 && n <= 32 {
				want.Exp(big.NewInt(base), big.NewInt(int64(n)), nil)
			}
			if got := Count(n, tear); new(big.Int).SetUint64(got).Cmp(want) != 0 {
				t.Errorf("Count(%d, %v) = %d, want %v", n, tear, got, want)
			}
		}
	}
}

// P203: the choices in order, for two writes: write 0 is the lowest digit.
func TestNthInOrder(t *testing.T) {
	for _, c := range []struct {
		n    int
		tear bool
		want string
	}{
		{0, false, ""},
		{0, true, ""},
		{1, false, "l k"},
		{1, true, "l k t"},
		{2, false, "ll kl lk kk"},
		{2, true, "ll kl tl lk kk tk lt kt tt"},
		{3, false, "lll kll lkl kkl llk klk lkk kkk"},
	} {
		var got []string
		for k := range Count(c.n, c.tear) {
			got = append(got, Show(Nth(k, c.n, c.tear), c.n))
		}
		if text := strings.Join(got, " "); text != c.want {
			t.Errorf("of %d writes, %v: %q, want %q", c.n, c.tear, text, c.want)
		}
	}
}

// P203: Nth returns 0 from Count on, and for numbers of writes out of the range.
func TestNthPastTheEnd(t *testing.T) {
	for _, n := range counts() {
		for _, tear := range []bool{false, true} {
			count := Count(n, tear)
			for _, k := range []uint64{count, count + 1, count + 2, 2*count + 1, 1 << 62, everyBit} {
				if got := Nth(k, n, tear); got != 0 {
					t.Errorf("Nth(%d, %d, %v) = %d", k, n, tear, got)
				}
			}
			if count > 1 && Nth(count-1, n, tear) == 0 {
				t.Errorf("Nth(%d, %d, %v) = 0", count-1, n, tear)
			}
		}
	}
	if Nth(1<<32-1, 32, false) != allKept || Nth(1853020188851840, 32, true) != allTorn {
		t.Error("the last choice of 32 writes")
	}
}

// P203: Rank of ordinary choices, and what it refuses, always together with 0.
func TestRank(t *testing.T) {
	for _, c := range []struct {
		c    uint64
		n    int
		tear bool
		want uint64
		ok   bool
	}{
		{0, 0, false, 0, true},
		{0, 0, true, 0, true},
		{0, 5, true, 0, true},
		{33, 3, true, 19, true},
		{6, 2, true, 5, true},
		{9, 2, true, 7, true},
		{5, 2, false, 3, true},
		{16, 3, false, 4, true},
		{allKept, 32, false, 4294967295, true},
		{allTorn, 32, true, 1853020188851840, true},
		// A torn write where none can be torn, in the first, in a middle and in the last place.
		{2, 3, false, 0, false},
		{9, 3, false, 0, false},
		{33, 3, false, 0, false},
		{allTorn, 32, false, 0, false},
		// No choice: the value 3, other bits, and numbers of writes out of the range.
		{3, 1, true, 0, false},
		{48, 3, true, 0, false},
		{4, 1, true, 0, false},
		{1, 0, true, 0, false},
		{everyBit, 32, true, 0, false},
		{0, -1, true, 0, false},
		{0, 33, true, 0, false},
		{0, 33, false, 0, false},
		{0, math.MaxInt, true, 0, false},
	} {
		if got, ok := Rank(c.c, c.n, c.tear); got != c.want || ok != c.ok {
			t.Errorf("Rank(%d, %d, %v) = %d, %v, want %d, %v", c.c, c.n, c.tear, got, ok, c.want, c.ok)
		}
	}
	for _, c := range numbers() {
		for _, n := range counts() {
			for base, tear := range map[uint64]bool{2: false, 3: true} {
				var want uint64
				right := isChoice(c, n)
				if right {
					fates := digits(c, n)
					if right = tear || !slices.Contains(fates, 2); right {
						want = number(fates, base)
					}
				}
				if got, ok := Rank(c, n, tear); got != want || ok != right {
					t.Errorf("Rank(%d, %d, %v) = %d, %v, want %d, %v", c, n, tear, got, ok, want, right)
				}
			}
		}
	}
}

// P204: Allowed of choices that differ in one write, and for epochs in no order.
func TestAllowed(t *testing.T) {
	for _, c := range []struct {
		fates  string
		epochs []int
		want   bool
	}{
		{"", nil, true},
		{"", []int{}, true},
		{"t", []int{7}, true},
		// Of one epoch, every choice is allowed.
		{"lk", []int{0, 0}, true},
		{"ltk", []int{4, 4, 4}, true},
		// What is kept or torn needs the earlier epochs whole.
		{"kk", []int{0, 1}, true},
		{"kt", []int{0, 1}, true},
		{"kl", []int{0, 1}, true},
		{"tl", []int{0, 1}, true},
		{"ll", []int{0, 1}, true},
		{"lk", []int{0, 1}, false},
		{"lt", []int{0, 1}, false},
		{"tk", []int{0, 1}, false},
		{"tt", []int{0, 1}, false},
		// An epoch between the two, and one that has no write at all.
		{"kkk", []int{0, 1, 2}, true},
		{"klk", []int{0, 1, 2}, false},
		{"ktk", []int{0, 1, 2}, false},
		{"klk", []int{0, 9, 9}, true},
		{"lkk", []int{0, 9, 9}, false},
		// The later epoch stands first, or in the middle.
		{"kl", []int{1, 0}, false},
		{"kk", []int{1, 0}, true},
		{"tk", []int{1, 0}, true},
		{"lk", []int{1, 0}, true},
		{"lkl", []int{0, 5, 0}, false},
		{"kkl", []int{0, 5, 5}, true},
		{"klk", []int{3, 5, 0}, true},
		{"lkk", []int{3, 5, 0}, false},
		// Epochs below 0, and at the ends of the numbers.
		{"lk", []int{-2, -1}, false},
		{"kk", []int{-2, -1}, true},
		{"lk", []int{-1, -2}, true},
		{"lk", []int{-1, 0}, false},
		{"lk", []int{math.MinInt, math.MaxInt}, false},
		{"kl", []int{math.MinInt, math.MaxInt}, true},
		{"lk", []int{math.MaxInt, math.MinInt}, true},
		{"tk", []int{math.MinInt, math.MinInt}, true},
	} {
		if got := Allowed(mustRead(t, c.fates), c.epochs); got != c.want {
			t.Errorf("Allowed(%s, %v) = %v", c.fates, c.epochs, got)
		}
	}
}

// P204: what is no choice for as many writes as there are epochs is not allowed.
func TestAllowedRefusesOtherNumbers(t *testing.T) {
	for _, c := range []struct {
		c uint64
		n int
	}{
		{1, 0}, {4, 1}, {1 << 63, 1}, {3, 1}, {12, 2}, {everyBit, 32}, {3 << 62, 32}, {allKept, 31},
		// More than 32 epochs.
		{0, 33}, {1, 33}, {allKept, 33}, {0, 64}, {0, 100000}, {allKept, 100000},
	} {
		if Allowed(c.c, make([]int, c.n)) {
			t.Errorf("Allowed(%d, %d epochs)", c.c, c.n)
		}
	}
	if !Allowed(allTorn, make([]int, 32)) {
		t.Error("32 epochs are refused")
	}
}

// P204: Allowed is the sentence of the chapter, for all numbers of four writes and all orders of epochs.
func TestAllowedAgreesWithDefinition(t *testing.T) {
	for k := range 81 {
		epochs := []int{k % 3, k / 3 % 3, k / 9 % 3, k / 27}
		for c := range uint64(256) {
			if got := Allowed(c, epochs); got != isAllowed(c, epochs) {
				t.Errorf("Allowed(%s, %v) = %v", Show(c, 4), epochs, got)
			}
		}
	}
}

func isAllowed(c uint64, epochs []int) bool {
	if !isChoice(c, len(epochs)) {
		return false
	}
	fates := digits(c, len(epochs))
	for i := range epochs {
		for j := range epochs {
			if fates[i] != 0 && epochs[j] < epochs[i] && fates[j] != 1 {
				return false
			}
		}
	}
	return true
}

// P204: Show of every value, and for numbers of writes out of the range.
func TestShow(t *testing.T) {
	for _, c := range []struct {
		c    uint64
		n    int
		want string
	}{
		{6, 2, "tk"},
		{0, 0, ""},
		{everyBit, 0, ""},
		{0, 3, "lll"},
		{33, 3, "klt"},
		{33, 2, "kl"},
		{33, 5, "kltll"},
		{3, 1, "?"},
		{0xe4, 4, "lkt?"},
		{1 << 63, 32, strings.Repeat("l", 31) + "t"},
		{allKept, 32, strings.Repeat("k", 32)},
		{allKept, 33, strings.Repeat("k", 32)},
		{everyBit, math.MaxInt, strings.Repeat("?", 32)},
		{6, -1, ""},
		{6, math.MinInt, ""},
	} {
		if got := Show(c.c, c.n); got != c.want {
			t.Errorf("Show(%d, %d) = %q, want %q", c.c, c.n, got, c.want)
		}
	}
}

// P204: what Read accepts.
func TestReadAccepts(t *testing.T) {
	for s, want := range map[string]uint64{
		"":                              0,
		"l":                             0,
		"k":                             1,
		"t":                             2,
		"lll":                           0,
		"tk":                            6,
		"kt":                            9,
		"klt":                           33,
		"lk" + strings.Repeat("l", 30):  4,
		strings.Repeat("k", 32):         allKept,
		strings.Repeat("t", 32):         allTorn,
		strings.Repeat("l", 31) + "t":   1 << 63,
		strings.Repeat("lk", 15) + "lk": 0x4444444444444444,
	} {
		if c, n, ok := Read(s); c != want || n != len(s) || !ok {
			t.Errorf("Read(%q) = %d, %d, %v, want %d, %d, true", s, c, n, ok, want, len(s))
		}
	}
}

// P201, P204: what Read refuses, always together with 0 and 0.
func TestReadRefuses(t *testing.T) {
	refused := []string{
		"?", "kl?", "?kl", "k?t", strings.Repeat("?", 32),
		strings.Repeat("l", 33), strings.Repeat("k", 33), strings.Repeat("t", 34), strings.Repeat("k", 100000), strings.Repeat("l", 32) + "?",
		"K", "L", "T", "klT", " ", "k ", " k", "k l", "kl\n", "0", "1", "2", "kl0",
		"\x00", "k\x00", "\xff", "k\xff", "kl\u0442", "\u212a", "\u217c", strings.Repeat("k", 31) + "\u0142",
	}
	for b := range 256 {
		if letter := string([]byte{byte(b)}); !strings.Contains("lkt", letter) {
			refused = append(refused, letter, "kl"+letter, letter+"t", strings.Repeat("k", 31)+letter)
		}
	}
	for _, s := range refused {
		if c, n, ok := Read(s); c != 0 || n != 0 || ok {
			t.Errorf("Read(%.40q) = %d, %d, %v, want 0, 0, false", s, c, n, ok)
		}
	}
}

// P205: Rank inverts Nth, Nth inverts Rank, and no two numbers have the same choice.
func TestNthAndRankAreInverse(t *testing.T) {
	for n := range 9 {
		for _, tear := range []bool{false, true} {
			seen := map[uint64]bool{}
			for k := range Count(n, tear) {
				c := Nth(k, n, tear)
				if got, ok := Rank(c, n, tear); got != k || !ok || seen[c] {
					t.Errorf("Rank(Nth(%d, %d, %v)) = %d, %v", k, n, tear, got, ok)
				}
				seen[c] = true
			}
		}
	}
	for _, c := range numbers() {
		for _, n := range counts() {
			for _, tear := range []bool{false, true} {
				if k, ok := Rank(c, n, tear); ok && Nth(k, n, tear) != c {
					t.Errorf("Nth(Rank(%d, %d, %v)) = %d", c, n, tear, Nth(k, n, tear))
				}
			}
		}
	}
}

// P205: Nth and Rank are inverse to each other up to 32 writes, at both ends and between.
func TestNthAndRankOfManyWrites(t *testing.T) {
	for n := 9; n <= 32; n++ {
		for _, tear := range []bool{false, true} {
			count := Count(n, tear)
			for _, k := range []uint64{0, 1, 2, 3, count / 7, count / 3, count/2 - 1, count / 2, count - 2, count - 1} {
				if got, ok := Rank(Nth(k, n, tear), n, tear); got != k || !ok {
					t.Errorf("Rank(Nth(%d, %d, %v)) = %d, %v", k, n, tear, got, ok)
				}
			}
		}
	}
}

// P205: Read inverts Show for every choice, and Show inverts Read for every text that Read accepts.
func TestReadInvertsShow(t *testing.T) {
	for _, c := range numbers() {
		for n := range 33 {
			got, length, ok := Read(Show(c, n))
			if isChoice(c, n) && (got != c || length != n || !ok) {
				t.Errorf("Read(Show(%d, %d)) = %d, %d, %v", c, n, got, length, ok)
			}
		}
	}
	texts := []string{""}
	for start := 0; len(texts[start]) < 5; start++ {
		for _, letter := range []string{"l", "k", "t", "?"} {
			texts = append(texts, texts[start]+letter)
		}
	}
	for _, s := range texts {
		c, n, ok := Read(s)
		if ok == strings.Contains(s, "?") || ok && Show(c, n) != s {
			t.Errorf("Read(%q) = %d, %d, %v", s, c, n, ok)
		}
	}
}

// P205: the choices in which all writes are lost, and in which all are kept, are allowed, whatever the epochs are.
func TestAllLostAndAllKeptAreAllowed(t *testing.T) {
	for n := range 33 {
		for step := -3; step <= 3; step++ {
			epochs := make([]int, n)
			for i := range epochs {
				epochs[i] = step * i % 5
			}
			if !Allowed(0, epochs) || !Allowed(mustRead(t, strings.Repeat("k", n)), epochs) {
				t.Errorf("for the epochs %v", epochs)
			}
		}
	}
}
