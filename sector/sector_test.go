package sector

import (
	"bytes"
	"math"
	"slices"
	"testing"

	"flotsam/api"
)

// numbers are places and lengths of all kinds: all those that a sector has, those next to them, and the ends of int.
func numbers() []int {
	l := []int{-64, -33, -32, -31, 63, 64, 65, 1 << 31, 1 << 32, 1<<32 + 1, -1 << 32, 1 << 62, 1<<62 + 32, math.MaxInt, math.MaxInt - 1, math.MaxInt - 31, math.MaxInt - 32, math.MinInt, math.MinInt + 1, math.MinInt + 32}
	for n := -3; n <= 36; n++ {
		l = append(l, n)
	}
	return l
}

// row is n bytes of which no two neighbours are the same, nor two that are 16 or 32 apart, and none is 0.
func row(n int) []byte {
	b := make([]byte, n)
	for i := range b {
		b[i] = byte(i%251 + 1)
	}
	return b
}

// full is a sector with the same byte everywhere.
func full(b byte) api.Sector {
	var s api.Sector
	for i := range s {
		s[i] = b
	}
	return s
}

// ordinary is a sector in which every byte is another one.
func ordinary() api.Sector {
	return api.Sector(row(32))
}

// samples are sectors of all kinds: those with one byte that is not 0 among them, wherever it stands.
func samples() []api.Sector {
	l := []api.Sector{{}, full(1), full(2), full(128), full(255), ordinary()}
	for i := range 32 {
		var one api.Sector
		one[i] = byte(255 - i)
		l = append(l, one)
	}
	return l
}

// P402: Of pads with 0, and refuses more than 32 bytes.
func TestOf(t *testing.T) {
	for n := range 100 {
		s, ok := Of(row(n))
		var want api.Sector
		if n <= 32 {
			for i, b := range row(n) {
				want[i] = b
			}
		}
		if s != want || ok != (n <= 32) {
			t.Errorf("Of %d bytes = %v, %v", n, s, ok)
		}
	}
	if s, ok := Of(row(100000)); s != (api.Sector{}) || ok {
		t.Errorf("Of 100000 bytes = %v, %v", s, ok)
	}
}

// P402: the bytes behind the slice are no part of the sector.
func TestOfPadsWithZeroWhateverStandsBehind(t *testing.T) {
	if s, ok := Of(row(40)[:3]); s != (api.Sector{1, 2, 3}) || !ok {
		t.Errorf("Of 3 of 40 bytes = %v, %v", s, ok)
	}
}

// P402: Put at the beginning, inside, up to the end, and one byte past it.
func TestPut(t *testing.T) {
	for _, c := range []struct {
		at   int
		b    string
		want string
		ok   bool
	}{
		{0, "a", "a-------------------------------", true},
		{0, "ab", "ab------------------------------", true},
		{5, "abc", "-----abc------------------------", true},
		{14, "abcd", "--------------abcd--------------", true},
		{30, "ab", "------------------------------ab", true},
		{31, "a", "-------------------------------a", true},
		{0, "0123456789abcdef0123456789ABCDEF", "0123456789abcdef0123456789ABCDEF", true},
		{4, "\x00\xff", "----\x00\xff--------------------------", true},
		// No bytes fit everywhere, at the end too.
		{0, "", "--------------------------------", true},
		{31, "", "--------------------------------", true},
		{32, "", "--------------------------------", true},
		// They do not fit.
		{33, "", "--------------------------------", false},
		{32, "a", "--------------------------------", false},
		{31, "ab", "--------------------------------", false},
		{1, "0123456789abcdef0123456789ABCDEF", "--------------------------------", false},
		{0, "0123456789abcdef0123456789ABCDEFG", "--------------------------------", false},
		{-1, "", "--------------------------------", false},
		{-1, "a", "--------------------------------", false},
		{-1, "ab", "--------------------------------", false},
		{-32, "0123456789abcdef0123456789ABCDEF", "--------------------------------", false},
	} {
		got, ok := Put(full('-'), c.at, []byte(c.b))
		if string(got[:]) != c.want || ok != c.ok {
			t.Errorf("Put(-, %d, %q) = %q, %v", c.at, c.b, got[:], ok)
		}
	}
}

// P401, P402: Put agrees with its definition for places and lengths of all kinds.
func TestPutAgreesWithDefinition(t *testing.T) {
	for _, at := range numbers() {
		for n := range 70 {
			for _, s := range []api.Sector{{}, ordinary(), full(200)} {
				b := row(n + 100)[100:]
				want, fits := s, at >= 0 && at <= 32 && at+n <= 32
				for i := range b {
					if fits {
						want[at+i] = b[i]
					}
				}
				if got, ok := Put(s, at, b); got != want || ok != fits {
					t.Errorf("Put(%v, %d, %d bytes) = %v, %v", s, at, n, got, ok)
				}
			}
		}
	}
}

// P402: Cut at the beginning, inside, up to the end, and one byte past it.
func TestCut(t *testing.T) {
	s := api.Sector([]byte("0123456789abcdefghijklmnopqrstuv"))
	for _, c := range []struct {
		at, n int
		want  string
	}{
		{0, 1, "0"},
		{0, 3, "012"},
		{10, 4, "abcd"},
		{14, 4, "efgh"},
		{30, 2, "uv"},
		{31, 1, "v"},
		{0, 32, "0123456789abcdefghijklmnopqrstuv"},
		{0, 0, ""},
		{5, 0, ""},
		{32, 0, ""},
		// Past the end, or negative.
		{33, 0, ""},
		{32, 1, ""},
		{31, 2, ""},
		{30, 3, ""},
		{0, 33, ""},
		{1, 32, ""},
		{-1, 1, ""},
		{-1, 2, ""},
		{-1, 33, ""},
		{1, -1, ""},
		{33, -1, ""},
		{64, -32, ""},
	} {
		if got := Cut(s, c.at, c.n); string(got) != c.want {
			t.Errorf("Cut(s, %d, %d) = %q, want %q", c.at, c.n, got, c.want)
		}
	}
}

// P401, P402: Cut agrees with its definition for places and lengths of all kinds, those among them whose sum no int can be.
func TestCutAgreesWithDefinition(t *testing.T) {
	for _, at := range numbers() {
		for _, n := range numbers() {
			var want []byte
			if at >= 0 && n >= 0 && at <= 32 && n <= 32 && at+n <= 32 {
				for i := range n {
					want = append(want, row(32)[at+i])
				}
			}
			if got := Cut(ordinary(), at, n); !bytes.Equal(got, want) {
				t.Errorf("Cut(s, %d, %d) = %v, want %v", at, n, got, want)
			}
		}
	}
}

// P403: Torn takes bytes 0 to 15 of the new sector, and bytes 16 to 31 of the old one.
func TestTorn(t *testing.T) {
	got := Torn(full('o'), full('f'))
	if string(got[:]) != "ffffffffffffffffoooooooooooooooo" {
		t.Errorf("Torn(o, f) = %q", got[:])
	}
	for _, old := range samples() {
		for _, fresh := range samples() {
			got := Torn(old, fresh)
			for i := range got {
				if i < 16 && got[i] != fresh[i] || i >= 16 && got[i] != old[i] {
					t.Errorf("Torn(%v, %v) has %d at %d", old, fresh, got[i], i)
				}
			}
		}
	}
}

// P403: Zero is false for every byte that is not 0, wherever it stands.
func TestZero(t *testing.T) {
	if !Zero(api.Sector{}) || Zero(full(1)) || Zero(full(255)) || Zero(ordinary()) {
		t.Error("Zero of a sector of the same bytes, or of different ones")
	}
	for i := range 32 {
		for b := range 256 {
			var s api.Sector
			s[i] = byte(b)
			if Zero(s) != (b == 0) {
				t.Errorf("Zero with %d at %d", b, i)
			}
		}
	}
}

// P403: Spread makes no more sectors than it needs, each of them with the next 32 bytes.
func TestSpread(t *testing.T) {
	for n, count := range map[int]int{0: 0, 1: 1, 16: 1, 31: 1, 32: 1, 33: 2, 40: 2, 63: 2, 64: 2, 65: 3, 96: 3, 97: 4, 128: 4, 129: 5, 1000: 32, 100000: 3125} {
		b := row(n)
		l := Spread(b)
		if len(l) != count {
			t.Errorf("Spread of %d bytes has %d sectors, want %d", n, len(l), count)
			continue
		}
		for i := range 32 * count {
			want := byte(0)
			if i < n {
				want = b[i]
			}
			if got := l[i/32][i%32]; got != want {
				t.Errorf("Spread of %d bytes has %d at %d, want %d", n, got, i, want)
			}
		}
	}
}

// P403: the bytes behind the slice are no part of the last sector, and sectors of 0 are sectors too.
func TestSpreadPadsWithZeroWhateverStandsBehind(t *testing.T) {
	if l := Spread(row(100)[:33]); len(l) != 2 || l[1] != (api.Sector{33}) {
		t.Errorf("Spread of 33 of 100 bytes = %v", l)
	}
	if l := Spread(make([]byte, 33)); len(l) != 2 || !Zero(l[0]) || !Zero(l[1]) {
		t.Errorf("Spread of 33 bytes 0 = %v", l)
	}
}

// P401, P403: Gather for all numbers of bytes that the sectors have, and for those that they do not have.
func TestGather(t *testing.T) {
	for count := range 4 {
		all := row(32 * count)
		l := make([]api.Sector, count)
		for i, b := range all {
			l[i/32][i%32] = b
		}
		lengths := numbers()
		for n := range 140 {
			lengths = append(lengths, n)
		}
		for _, n := range lengths {
			got, ok := Gather(l, n)
			if n < 0 || n > 32*count {
				if len(got) != 0 || ok {
					t.Errorf("Gather(%d sectors, %d) = %v, %v", count, n, got, ok)
				}
				continue
			}
			if !bytes.Equal(got, all[:n]) || !ok {
				t.Errorf("Gather(%d sectors, %d) = %v, %v", count, n, got, ok)
			}
		}
	}
}

// P403: Gather and Unlike do not see the sectors behind a slice.
func TestSectorsBehindTheSlice(t *testing.T) {
	l := Spread(row(96))
	if b, ok := Gather(l[:1], 33); len(b) != 0 || ok {
		t.Errorf("Gather of 33 bytes of 1 of 3 sectors = %v, %v", b, ok)
	}
	if got := Unlike(l[:2], l[:1]); !slices.Equal(got, []int{1}) {
		t.Errorf("Unlike of 2 and 1 of 3 sectors = %v", got)
	}
}

// P403: Unlike for slices of the same and of different lengths, whichever of them is the longer one.
func TestUnlike(t *testing.T) {
	a, b, zero := full(1), full(2), api.Sector{}
	for _, c := range []struct {
		a, b []api.Sector
		want []int
	}{
		{nil, nil, nil},
		{nil, []api.Sector{}, nil},
		{[]api.Sector{a}, []api.Sector{a}, nil},
		{[]api.Sector{a}, []api.Sector{b}, []int{0}},
		{[]api.Sector{a, b, a}, []api.Sector{a, b, a}, nil},
		{[]api.Sector{a, b, a}, []api.Sector{b, b, b}, []int{0, 2}},
		{[]api.Sector{a, b, a}, []api.Sector{b, a, b}, []int{0, 1, 2}},
		{[]api.Sector{a, b, a}, []api.Sector{a, a, a}, []int{1}},
		{[]api.Sector{a, b}, []api.Sector{b, a}, []int{0, 1}},
		// A sector that only one of them has is always different, a sector of 0 too.
		{[]api.Sector{a}, nil, []int{0}},
		{[]api.Sector{zero}, nil, []int{0}},
		{[]api.Sector{a, zero}, []api.Sector{a}, []int{1}},
		{[]api.Sector{a, b, b}, []api.Sector{a}, []int{1, 2}},
		{[]api.Sector{a, b, b}, []api.Sector{b}, []int{0, 1, 2}},
		{[]api.Sector{b, a}, []api.Sector{a, a, zero, b}, []int{0, 2, 3}},
	} {
		if got := Unlike(c.a, c.b); !slices.Equal(got, c.want) {
			t.Errorf("Unlike(%v, %v) = %v, want %v", c.a, c.b, got, c.want)
		}
		if got := Unlike(c.b, c.a); !slices.Equal(got, c.want) {
			t.Errorf("Unlike(%v, %v) = %v, want %v", c.b, c.a, got, c.want)
		}
	}
}

// P403: one byte is enough for a difference, wherever it stands.
func TestUnlikeSeesEveryByte(t *testing.T) {
	for at := range 3 * 32 {
		a, b := Spread(row(96)), Spread(row(96))
		b[at/32][at%32] ^= 1
		if got := Unlike(a, b); !slices.Equal(got, []int{at / 32}) {
			t.Errorf("Unlike with another byte at %d = %v", at, got)
		}
	}
}

// P404: Gather inverts Spread, for bytes that end with 0 too.
func TestGatherInvertsSpread(t *testing.T) {
	for n := range 300 {
		for _, b := range [][]byte{row(n), make([]byte, n), append(row(n), 0, 0, 0)} {
			if got, ok := Gather(Spread(b), len(b)); !bytes.Equal(got, b) || !ok {
				t.Errorf("Gather(Spread(%v)) = %v, %v", b, got, ok)
			}
		}
	}
}

// P404: tearing twice equals tearing once; and a sector that is torn over itself stays as it is.
func TestTearingTwice(t *testing.T) {
	for _, old := range samples() {
		if got := Torn(old, old); got != old {
			t.Errorf("Torn of %v and itself = %v", old, got)
		}
		for _, fresh := range samples() {
			once := Torn(old, fresh)
			if twice := Torn(once, fresh); twice != once {
				t.Errorf("%v torn over %v once = %v, twice = %v", fresh, old, once, twice)
			}
		}
	}
}

// P404: equal slices have no differing index.
func TestEqualSlicesAreNotUnlike(t *testing.T) {
	for n := range samples() {
		a := samples()[:n]
		if got := Unlike(a, slices.Clone(a)); len(got) != 0 {
			t.Errorf("Unlike of %d equal sectors = %v", n, got)
		}
		if got := Unlike(a, a); len(got) != 0 {
			t.Errorf("Unlike of %d sectors and themselves = %v", n, got)
		}
	}
}

// P402: Cut returns what Put has put, and Put of what Cut returns changes nothing.
func TestPutAndCut(t *testing.T) {
	for at := range 33 {
		for n := range 33 - at {
			put, _ := Put(ordinary(), at, bytes.Repeat([]byte{99}, n))
			if got := Cut(put, at, n); !bytes.Equal(got, bytes.Repeat([]byte{99}, n)) {
				t.Errorf("Cut(Put(s, %d, %d bytes)) = %v", at, n, got)
			}
			if got, ok := Put(ordinary(), at, Cut(ordinary(), at, n)); got != ordinary() || !ok {
				t.Errorf("Put(s, %d, Cut(s, %d, %d)) = %v, %v", at, at, n, got, ok)
			}
		}
	}
}

// overwrite changes all items of l, and of the capacity behind them.
func overwrite[T any](l []T, change func(T) T) {
	for i, item := range l[:cap(l)] {
		l[:cap(l)][i] = change(item)
	}
}

func otherByte(b byte) byte { return ^b }

func otherInt(n int) int { return ^n }

func otherSector(s api.Sector) api.Sector {
	overwrite(s[:], otherByte)
	return s
}

// P401: a call leaves the bytes that it is given and the capacity behind them as they are, and does not keep them.
func TestBytesAreNotShared(t *testing.T) {
	for _, n := range []int{0, 1, 31, 32, 33, 64, 70} {
		memory := row(100)
		b := memory[:n]
		s, _ := Of(b)
		put, _ := Put(full(77), 0, b)
		l := Spread(b)
		if !bytes.Equal(memory, row(100)) {
			t.Errorf("a call changes %d bytes, or the bytes behind them", n)
		}
		told, toldPut, toldList := s, put, slices.Clone(l)
		overwrite(memory, otherByte)
		if s != told || put != toldPut || !slices.Equal(l, toldList) {
			t.Errorf("a result changes with %d bytes", n)
		}
		overwrite(memory, otherByte)
		overwrite(l, otherSector)
		if !bytes.Equal(memory, row(100)) {
			t.Errorf("%d bytes change with Spread of them", n)
		}
	}
}

// P401: a call leaves the sectors that it is given and the capacity behind them as they are, and does not keep them.
func TestSectorsAreNotShared(t *testing.T) {
	for count := range 4 {
		memory, other := samples(), samples()[1:]
		b, _ := Gather(memory[:count], 32*count)
		unlike := Unlike(memory[:count], other[:3-count])
		if !slices.Equal(memory, samples()) || !slices.Equal(other, samples()[1:]) {
			t.Errorf("a call changes %d sectors, or those behind them", count)
		}
		told, toldUnlike := bytes.Clone(b), slices.Clone(unlike)
		overwrite(memory, otherSector)
		overwrite(other, otherSector)
		if !bytes.Equal(b, told) || !slices.Equal(unlike, toldUnlike) {
			t.Errorf("a result changes with %d sectors", count)
		}
		overwrite(memory, otherSector)
		overwrite(b, otherByte)
		if !slices.Equal(memory, samples()) {
			t.Errorf("%d sectors change with Gather of them", count)
		}
	}
}

// P401: two results of the same call share no memory.
func TestResultsAreSeparate(t *testing.T) {
	s, l, b := ordinary(), Spread(row(70)), row(70)
	for range 2 {
		overwrite(Cut(s, 3, 20), otherByte)
		gathered, _ := Gather(l, 40)
		overwrite(gathered, otherByte)
		overwrite(Spread(b), otherSector)
		overwrite(Unlike(l, l[:1]), otherInt)
	}
	gathered, ok := Gather(l, 40)
	if !bytes.Equal(Cut(s, 3, 20), row(32)[3:23]) || !bytes.Equal(gathered, row(40)) || !ok {
		t.Error("Cut or Gather returns what a result was changed to")
	}
	if !slices.Equal(Spread(b), l) || !slices.Equal(Unlike(l, l[:1]), []int{1, 2}) {
		t.Error("Spread or Unlike returns what a result was changed to")
	}
}

// P401: nil is as good as empty.
func TestNilAndEmpty(t *testing.T) {
	for _, b := range [][]byte{nil, {}} {
		s, ok := Of(b)
		put, okPut := Put(ordinary(), 7, b)
		if s != (api.Sector{}) || !ok || put != ordinary() || !okPut || len(Spread(b)) != 0 {
			t.Errorf("of no bytes: %v, %v, %v, %v, %v", s, ok, put, okPut, Spread(b))
		}
	}
	for _, l := range [][]api.Sector{nil, {}} {
		b, ok := Gather(l, 0)
		if len(b) != 0 || !ok || len(Unlike(l, nil)) != 0 || len(Unlike(l, []api.Sector{})) != 0 {
			t.Errorf("of no sectors: %v, %v", b, ok)
		}
		if b, ok := Gather(l, 1); len(b) != 0 || ok {
			t.Errorf("a byte of no sectors: %v, %v", b, ok)
		}
	}
}
