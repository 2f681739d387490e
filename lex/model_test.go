package lex_test

import (
	"encoding/hex"
	"regexp"
	"slices"
	"strconv"
	"strings"
	"testing"

	"flotsam/api"
	"flotsam/lex"
)

// The words describe a source in another way: what is skipped, then a keyword or name, a number, a text, a symbol.
var (
	skipped = regexp.MustCompile(`^([ \t\n]|#[^\n]*(\n|$))+`)
	kinds   = regexp.MustCompile(`^(?:([a-z][a-z0-9_]*)|([0-9]+)|("[^"]*")|(==|[{}();,:+\-<=]))`)
	decimal = regexp.MustCompile(`^(0|[1-9][0-9]{0,11}|10{12})$`)
	quoted  = regexp.MustCompile(`^"([ !#-\[\]-~]|\\([01][0-9a-f]|22|5c|7f|[89a-f][0-9a-f]))*"$`)
	hidden  = regexp.MustCompile(`\\..`)
)

// letters is the model's word of letters, digits and _.
func letters(s string) (api.Word, api.Errno) {
	switch {
	case slices.Contains(strings.Fields(keywords), s):
		return key(s), api.OK
	case len(s) > 8:
		return api.Word{}, api.ErrLimit
	}
	return name(s), api.OK
}

// digits is the model's number.
func digits(s string) (api.Word, api.Errno) {
	if !decimal.MatchString(s) {
		return api.Word{}, api.ErrSyntax
	}
	n, _ := strconv.ParseInt(s, 10, 64)
	return count(n), api.OK
}

// unquoted is the model's text.
func unquoted(s string) (api.Word, api.Errno) {
	if !quoted.MatchString(s) {
		return api.Word{}, api.ErrSyntax
	}
	s = hidden.ReplaceAllStringFunc(s[1:len(s)-1], func(x string) string {
		b, _ := hex.DecodeString(x[1:])
		return string(b)
	})
	if len(s) > 64 {
		return api.Word{}, api.ErrLimit
	}
	return text(s), api.OK
}

// model has the words, or the fault, that P1503 requires.
func model(s string) ([]api.Word, api.Fault) {
	var l []api.Word
	for place := 0; ; {
		place += len(skipped.FindString(s[place:]))
		if place == len(s) {
			return append(l, end(place)), api.Fault{}
		}
		m := kinds.FindStringSubmatch(s[place:])
		var w api.Word
		e := api.ErrSyntax
		switch {
		case m == nil:
		case m[1] != "":
			w, e = letters(m[1])
		case m[2] != "":
			w, e = digits(m[2])
		case m[3] != "":
			w, e = unquoted(m[3])
		default:
			w, e = sign(m[4]), api.OK
		}
		if e != api.OK {
			return nil, api.Fault{E: e, At: place}
		}
		l = append(l, at(place, w))
		place += len(m[0])
	}
}

// agrees compares Words with the model, and reports whether the source has no fault.
func agrees(t *testing.T, s string) bool {
	t.Helper()
	want, fault := model(s)
	l, f := lex.Words(s)
	if !slices.Equal(l, want) || f != fault {
		t.Errorf("Words(%q) = %v, %v, want %v, %v", s, l, f, want, fault)
	}
	return f == api.Fault{}
}

// P1503: all short sources of the bytes that matter.
func TestShortSources(t *testing.T) {
	const alphabet = "a_01 \n#\"\\={A"
	good := 0
	last := []string{""}
	for range 5 {
		var longer []string
		for _, s := range last {
			for i := range len(alphabet) {
				longer = append(longer, s+alphabet[i:i+1])
			}
		}
		for _, s := range longer {
			if agrees(t, s) {
				good++
			}
		}
		last = longer
		if t.Failed() {
			return
		}
	}
	if good < 1000 {
		t.Errorf("only %d sources have no fault", good)
	}
}

// story is a source of numbers from 0 to n - 1, the same ones for the same seed.
func story(seed uint64) func(n int) int {
	return func(n int) int {
		seed = seed*6364136223846793005 + 1442695040888963407
		return int(seed>>33) % n
	}
}

// piece is a part of a random source: mostly one that is valid.
func piece(next func(int) int) string {
	pieces := append(strings.Fields(keywords), strings.Fields(symbols)...)
	pieces = append(pieces, " ", "\t", "\n", "# x\n", "#", "a", "abcdefgh", "_", "x9", "0", "7", "1000000000000", `""`, `"a"`, `"\00"`, `"#\22"`)
	if next(16) > 0 {
		return pieces[next(len(pieces))]
	}
	odd := []string{`"`, "abcdefghi", "01", "9999999999999", "A", ".", "\r", "\x00", "\xff", "é", `"\41"`, "\\", `"` + strings.Repeat("x", 30+next(70)) + `"`}
	return odd[next(len(odd))]
}

// P1503: long sources of all kinds of words, with faults anywhere.
func TestRandomSources(t *testing.T) {
	next := story(15)
	good, bad := 0, 0
	for range 20000 {
		var b strings.Builder
		for range next(30) {
			b.WriteString(piece(next))
			if next(2) == 0 {
				b.WriteByte(' ')
			}
		}
		if agrees(t, b.String()) {
			good++
		} else {
			bad++
		}
	}
	if good < 2000 || bad < 2000 {
		t.Errorf("%d sources without a fault, %d with one", good, bad)
	}
}

// someWord is a word of any kind that occurs in sources.
func someWord(next func(int) int) api.Word {
	switch next(5) {
	case 0:
		all := strings.Fields(keywords)
		return key(all[next(len(all))])
	case 1:
		all := strings.Fields(symbols)
		return sign(all[next(len(all))])
	case 2:
		n := int64(1)
		for range next(13) {
			n *= int64(1 + next(10))
		}
		return count(n - int64(next(2)))
	case 3:
		b := make([]byte, next(65))
		for i := range b {
			b[i] = byte(next(256))
		}
		return text(string(b))
	}
	b := []byte{byte('a' + next(26))}
	for range next(8) {
		b = append(b, "abcxyz0189_"[next(11)])
	}
	if lex.Key(string(b)) {
		return name("k")
	}
	return name(string(b))
}

// someGap is white space and comments, at least one blank.
func someGap(next func(int) int) string {
	all := []string{" ", "\t", "\n", "  ", " # a \"\n", "\n\n", "#\n", "\t#if\n#x\n "}
	return all[next(len(all))]
}

// P1505: the notations of words, separated by blanks or by more, are scanned as these words.
func TestRoundTrip(t *testing.T) {
	next := story(1505)
	for range 5000 {
		var blanks, gaps strings.Builder
		var l, moved []api.Word
		gaps.WriteString(someGap(next))
		for range next(20) {
			w := someWord(next)
			s, ok := lex.Show(w)
			if !ok {
				t.Fatalf("Show(%v) = %q, %v", w, s, ok)
			}
			l = append(l, at(blanks.Len(), w))
			moved = append(moved, at(gaps.Len(), w))
			blanks.WriteString(s + " ")
			gaps.WriteString(s + someGap(next))
		}
		has(t, blanks.String(), l...)
		has(t, gaps.String(), moved...)
	}
}

// P1505: showing the words of a source gives a source with the same words.
func TestShowOfSources(t *testing.T) {
	next, good := story(51), 0
	for range 5000 {
		var b strings.Builder
		for range next(12) {
			b.WriteString(piece(next) + someGap(next))
		}
		l, f := lex.Words(b.String())
		if f != (api.Fault{}) {
			continue
		}
		good++
		var all []string
		var want []api.Word
		place := 0
		for _, w := range l[:len(l)-1] {
			s, ok := lex.Show(w)
			if !ok {
				t.Errorf("Show(%v) = %q, %v", w, s, ok)
			}
			all = append(all, s)
			want = append(want, at(place, w))
			place += len(s) + 1
		}
		has(t, strings.Join(all, " "), want...)
	}
	if good < 1000 {
		t.Errorf("only %d sources have no fault", good)
	}
}
