package lex_test

import (
	"math"
	"slices"
	"strings"
	"testing"
	"unsafe"

	"flotsam/api"
	"flotsam/lex"
	"flotsam/num"
	"flotsam/view"
)

// The keywords and the symbols of the chapter, written out.
const (
	keywords = "proc main recover oracle create mkdir write append truncate rename unlink fsync fdatasync syncdir barrier let if else repeat call txn commit replay assert exists size read not and or true false"
	symbols  = "{ } ( ) ; , : + - < = =="
)

// Words of each kind, without a position.
func key(s string) api.Word   { return api.Word{Kind: 4, S: s} }
func name(s string) api.Word  { return api.Word{Kind: 1, S: s} }
func text(s string) api.Word  { return api.Word{Kind: 3, S: s} }
func sign(s string) api.Word  { return api.Word{Kind: 5, S: s} }
func count(n int64) api.Word  { return api.Word{Kind: 2, N: n} }
func end(source int) api.Word { return api.Word{Kind: 0, At: source} }

// at is a word at a position.
func at(n int, w api.Word) api.Word {
	w.At = n
	return w
}

// has checks that a source has these words and then the end.
func has(t *testing.T, s string, want ...api.Word) {
	t.Helper()
	want = append(slices.Clone(want), end(len(s)))
	if l, f := lex.Words(s); f != (api.Fault{}) || !slices.Equal(l, want) {
		t.Errorf("Words(%q) = %v, %v, want %v", s, l, f, want)
	}
}

// lacks checks that a source has this fault and no words.
func lacks(t *testing.T, s string, e api.Errno, place int) {
	t.Helper()
	if l, f := lex.Words(s); len(l) != 0 || f != (api.Fault{E: e, At: place}) {
		t.Errorf("Words(%.80q) = %v, %v, want the fault %d at %d", s, l, f, e, place)
	}
}

// The example of the chapter.
func TestExample(t *testing.T) {
	has(t, "let a=1;", at(0, key("let")), at(4, name("a")), at(5, sign("=")), at(6, count(1)), at(7, sign(";")))
}

// P1502: the keywords, and what differs from them by little.
func TestKey(t *testing.T) {
	all := strings.Fields(keywords)
	if len(all) != 32 {
		t.Fatalf("%d keywords", len(all))
	}
	for _, s := range all {
		if !lex.Key(s) || lex.Name(s) {
			t.Errorf("%s: Key = %v, Name = %v", s, lex.Key(s), lex.Name(s))
		}
		for _, other := range []string{s + " ", " " + s, s + "\x00", s + "x", "x" + s, s[1:], s[:len(s)-1], s + s, strings.ToUpper(s), strings.ToUpper(s[:1]) + s[1:], s + "\n", s + "1", s + "_"} {
			if lex.Key(other) {
				t.Errorf("Key(%q)", other)
			}
		}
	}
	for _, s := range []string{"", "fdata", "sync", "procs", "=", "==", "{", "proc main", keywords, "\xff", "for", "while", "int", "text", "bool", "end", "1", strings.Repeat("if", 1<<20)} {
		if lex.Key(s) {
			t.Errorf("Key(%.80q)", s)
		}
	}
}

// P1502: names, and what is none.
func TestName(t *testing.T) {
	for _, s := range []string{"a", "z", "x9", "a_", "a0", "abcdefgh", "a1234567", "a_______", "a__9", "iff", "lets", "i", "tru", "truee", "fsyncc", "notx", "not_", "or1", "fdatasyn"} {
		if !lex.Name(s) || lex.Key(s) {
			t.Errorf("%s: Name = %v, Key = %v", s, lex.Name(s), lex.Key(s))
		}
	}
	for _, s := range []string{"", "_", "_a", "0", "9a", "A", "aB", "a b", "a ", " a", "a\n", "a.", "a/b", "a-b", "abcdefghi", "é", "aé", "a\x00", "a\xff", "\xffa", "`a", "{a", "a`", "a{", "a/", "a:", "fdatasync", "abcdefghijklmnop", strings.Repeat("a", 1<<20)} {
		if lex.Name(s) {
			t.Errorf("Name(%.80q)", s)
		}
	}
}

// P1502: every byte, as the only one of a name, within one, and at its end.
func TestBytesOfNames(t *testing.T) {
	const letters, more = "abcdefghijklmnopqrstuvwxyz", "0123456789_"
	for c := range 256 {
		b := string([]byte{byte(c)})
		first := strings.Contains(letters, b)
		later := first || strings.Contains(more, b)
		for s, want := range map[string]bool{b: first, b + "qq": first, "q" + b + "q": later, "q" + b: later, "qqqqqqq" + b: later, "qqqqqqqq" + b: false} {
			if got := lex.Name(s); got != want {
				t.Errorf("Name(%q) = %v", s, got)
			}
		}
	}
}

// P1503: every keyword and every symbol is a word, alone and beside others.
func TestKeywordsAndSymbols(t *testing.T) {
	for _, s := range strings.Fields(keywords) {
		has(t, s, key(s))
		has(t, "\t"+s+"{"+s, at(1, key(s)), at(len(s)+1, sign("{")), at(len(s)+2, key(s)))
		if longer := s + "x"; len(longer) <= 8 {
			has(t, longer, name(longer))
		} else {
			lacks(t, longer, api.ErrLimit, 0)
		}
	}
	for _, s := range strings.Fields(symbols) {
		has(t, s, sign(s))
		has(t, "a"+s+"1", name("a"), at(1, sign(s)), at(1+len(s), count(1)))
	}
	has(t, "{}();,:+-<", sign("{"), at(1, sign("}")), at(2, sign("(")), at(3, sign(")")), at(4, sign(";")), at(5, sign(",")), at(6, sign(":")), at(7, sign("+")), at(8, sign("-")), at(9, sign("<")))
}

// P1503: two adjacent = form one symbol, from the first on.
func TestEqualSigns(t *testing.T) {
	has(t, "===", sign("=="), at(2, sign("=")))
	has(t, "====", sign("=="), at(2, sign("==")))
	has(t, "= =", sign("="), at(2, sign("=")))
	has(t, "=#\n=", sign("="), at(3, sign("=")))
	has(t, "<==", sign("<"), at(1, sign("==")))
	has(t, "=<=", sign("="), at(1, sign("<")), at(2, sign("=")))
	has(t, "a==b", name("a"), at(1, sign("==")), at(3, name("b")))
}

// P1503: letters, digits and _ that follow a letter form one word, of at most 8 bytes if it is a name.
func TestNamesInSources(t *testing.T) {
	has(t, "if_", name("if_"))
	has(t, "if1", name("if1"))
	has(t, "if if2 2if", key("if"), at(3, name("if2")), at(7, count(2)), at(8, key("if")))
	has(t, "abcdefgh", name("abcdefgh"))
	has(t, "a_______ z9", name("a_______"), at(9, name("z9")))
	has(t, "fdatasync", key("fdatasync"))
	has(t, "a-b", name("a"), at(1, sign("-")), at(2, name("b")))
	lacks(t, "abcdefghi", api.ErrLimit, 0)
	lacks(t, "a abcdefghi", api.ErrLimit, 2)
	lacks(t, "a________", api.ErrLimit, 0)
	lacks(t, "fdatasync1", api.ErrLimit, 0)
	lacks(t, "fdatasyn_", api.ErrLimit, 0)
	lacks(t, "; "+strings.Repeat("a", 4094), api.ErrLimit, 2)
	lacks(t, "_", api.ErrSyntax, 0)
	lacks(t, "a _a", api.ErrSyntax, 2)
	lacks(t, "1_", api.ErrSyntax, 1)
}

// P1503: digits form a number, without unnecessary zeros and of at most 10^12.
func TestNumbersInSources(t *testing.T) {
	has(t, "0", count(0))
	has(t, "7 10", count(7), at(2, count(10)))
	has(t, "1000000000000", count(1000000000000))
	has(t, "999999999999", count(999999999999))
	has(t, "-1", sign("-"), at(1, count(1)))
	has(t, "1a", count(1), at(1, name("a")))
	has(t, "1\"\"2", count(1), at(1, text("")), at(3, count(2)))
	for _, s := range []string{"01", "00", "1000000000001", "9999999999999", "10000000000000", "0000000000000", "18446744073709551617", strings.Repeat("9", 4090), strings.Repeat("0", 4090)} {
		lacks(t, s, api.ErrSyntax, 0)
		lacks(t, " ;"+s+";", api.ErrSyntax, 2)
	}
	lacks(t, "1.5", api.ErrSyntax, 1)
}

// P1503: a text reaches to the next quotation mark, and is one only if it is a quoted string.
func TestTextsInSources(t *testing.T) {
	has(t, `""`, text(""))
	has(t, `"a b"`, text("a b"))
	has(t, `"a""b"`, text("a"), at(3, text("b")))
	has(t, `"/a\07"`, text("/a\x07"))
	has(t, `"\22\5c\00\ff\0a"`, text("\"\\\x00\xff\n"))
	has(t, `"#"#"`, text("#"))
	has(t, `"if"if`, text("if"), at(4, key("if")))
	has(t, `"=="=="1"1`, text("=="), at(4, sign("==")), at(6, text("1")), at(9, count(1)))
	for _, s := range []string{`"`, `"a`, `"a;b#`, `"\22`, `"\"`, `"\41"`, `"\0A"`, `"\0"`, `"\"`, `"\g0"`, "\"\n\"", "\"\t\"", "\"\x00\"", "\"\x7f\"", "\"\xff\"", `"é"`, "\"a\nb\"", `"\n"`, "\"\r\""} {
		lacks(t, s, api.ErrSyntax, 0)
		lacks(t, "a "+s, api.ErrSyntax, 2)
	}
	lacks(t, `"a"b"`, api.ErrSyntax, 4)
	lacks(t, `"\""`, api.ErrSyntax, 0)
}

// P1503: a text has at most 64 bytes, counted without its notation.
func TestLongTexts(t *testing.T) {
	for _, c := range []string{"x", " ", "#", "\n", "\xff", "\"", "\\"} {
		full := strings.Repeat(c, 64)
		has(t, view.Quote(full), text(full))
		lacks(t, view.Quote(full+c), api.ErrLimit, 0)
		lacks(t, "a;"+view.Quote(strings.Repeat(c, 1300)), api.ErrLimit, 2)
	}
	long := strings.Repeat("x", 65)
	lacks(t, `"`+long, api.ErrSyntax, 0)
	lacks(t, `"`+long+`\41"`, api.ErrSyntax, 0)
	lacks(t, `"`+long+"\n\"", api.ErrSyntax, 0)
}

// P1503: white space and comments are skipped, wherever they are.
func TestSkipped(t *testing.T) {
	for _, s := range []string{"", " ", "\t", "\n", " \t\n\n\t ", "#", "##", "# a", "#\n", "# \"\n", "#a\n#b", "\n#\n #\n\t# x", "#\r\x00\xff\u00e9\n", "#" + strings.Repeat("a", 100)} {
		has(t, s)
		n := len(s) + 1
		has(t, s+"\na", at(n, name("a")))
		has(t, s+"\n1"+s, at(n, count(1)))
		has(t, s+"\n\"\""+s+"\n-", at(n, text("")), at(2*n+2, sign("-")))
		lacks(t, s+"\n\"", api.ErrSyntax, n)
		lacks(t, s+"\nA"+s, api.ErrSyntax, n)
	}
	has(t, "a#b\nc", name("a"), at(4, name("c")))
	has(t, "a#b", name("a"))
	has(t, "1#\"\n2", count(1), at(4, count(2)))
	has(t, "a\tb\nc d", name("a"), at(2, name("b")), at(4, name("c")), at(6, name("d")))
}

// P1503: every byte at the beginning of a word.
func TestEachByte(t *testing.T) {
	for c := range 256 {
		s := string([]byte{byte(c)})
		switch {
		case strings.Contains(" \t\n#", s):
			has(t, s)
		case s >= "a" && s <= "z":
			has(t, s, name(s))
		case s >= "0" && s <= "9":
			has(t, s, count(int64(c-'0')))
		case strings.Contains("{}();,:+-<=", s):
			has(t, s, sign(s))
			has(t, "a"+s+"\nb", name("a"), at(1, sign(s)), at(3, name("b")))
		default:
			lacks(t, s, api.ErrSyntax, 0)
			lacks(t, ";;"+s, api.ErrSyntax, 2)
			lacks(t, s+"a\n"+s, api.ErrSyntax, 0)
		}
	}
}

// P1503: of several faults the first one in the source is returned.
func TestFirstFault(t *testing.T) {
	lacks(t, "abcdefghi 01", api.ErrLimit, 0)
	lacks(t, "01 abcdefghi", api.ErrSyntax, 0)
	lacks(t, "a ! abcdefghi \"", api.ErrSyntax, 2)
	lacks(t, "\"a ! abcdefghi", api.ErrSyntax, 0)
	lacks(t, view.Quote(strings.Repeat("x", 65))+"!", api.ErrLimit, 0)
}

// P1503: a source has at most 4096 bytes, whatever they are.
func TestLongSources(t *testing.T) {
	for _, s := range []string{" ", "\n", "#", "\t"} {
		has(t, strings.Repeat(s, 4096))
		lacks(t, strings.Repeat(s, 4097), api.ErrLimit, 0)
	}
	var want []api.Word
	for i := range 4096 {
		want = append(want, at(i, sign(";")))
	}
	has(t, strings.Repeat(";", 4096), want...)
	lacks(t, strings.Repeat(";", 4097), api.ErrLimit, 0)
	has(t, strings.Repeat(" ", 4095)+"a", at(4095, name("a")))
	lacks(t, strings.Repeat(" ", 4096)+"a", api.ErrLimit, 0)
	has(t, strings.Repeat("#\n", 2048))
	lacks(t, strings.Repeat(" ", 4095)+"!", api.ErrSyntax, 4095)
	lacks(t, "!"+strings.Repeat(" ", 4096), api.ErrLimit, 0)
	lacks(t, strings.Repeat("\"", 1<<22), api.ErrLimit, 0)
}

// shows checks that a word has this notation, whatever its position, and that its notation is read as that word.
func shows(t *testing.T, w api.Word, want string) {
	t.Helper()
	for _, place := range []int{0, 9, -1, math.MaxInt, math.MinInt} {
		if s, ok := lex.Show(at(place, w)); s != want || !ok {
			t.Errorf("Show(%v) = %q, %v, want %q", at(place, w), s, ok, want)
		}
	}
	has(t, want, w)
}

// hides checks that a word has no notation.
func hides(t *testing.T, w api.Word) {
	t.Helper()
	if s, ok := lex.Show(w); s != "" || ok {
		t.Errorf("Show(%v) = %q, %v", w, s, ok)
	}
}

// P1504: the notations of words that occur in sources.
func TestShow(t *testing.T) {
	for _, s := range strings.Fields(keywords) {
		shows(t, key(s), s)
	}
	for _, s := range strings.Fields(symbols) {
		shows(t, sign(s), s)
	}
	for _, s := range []string{"a", "x9", "abcdefgh", "a_", "iff"} {
		shows(t, name(s), s)
	}
	for n, want := range map[int64]string{0: "0", 7: "7", 10: "10", 1000000000000: "1000000000000", 999999999999: "999999999999"} {
		shows(t, count(n), want)
	}
	for s, want := range map[string]string{"": `""`, "a": `"a"`, "\x07": `"\07"`, "\"\\": `"\22\5c"`, "if": `"if"`, strings.Repeat("\n", 64): `"` + strings.Repeat(`\0a`, 64) + `"`} {
		shows(t, text(s), want)
	}
}

// P1504: words that occur in no source, and the end.
func TestShowOfOthers(t *testing.T) {
	for _, w := range []api.Word{
		{}, {At: 5}, {S: "a"}, {S: "if"}, {N: 1}, {S: "1", N: 1},
		{Kind: -1, S: "a"}, {Kind: 6, S: "a"}, {Kind: 6}, {Kind: math.MaxInt, S: "if"}, {Kind: math.MinInt, N: 1},
		name(""), name("if"), name("A"), name("abcdefghi"), name("a b"), name(" a"), name("a "), name("a#"), name("1"), name("9a"), name("_a"), name(`"a"`), name("="), name("é"),
		key(""), key("a"), key("fdata"), key("IF"), key(" if"), key("if "), key("if if"), key("1"), key("="), key(`""`),
		sign(""), sign("==="), sign("!"), sign(">"), sign("*"), sign("= "), sign("{}"), sign("a"), sign("if"), sign("1"), sign(`"`), sign(`""`), sign("#"), sign(" "), sign("\n"), sign("!="), sign("<="), sign("\xff"),
		count(-1), count(1000000000001), count(math.MaxInt64), count(math.MinInt64), count(-1000000000000),
		text(strings.Repeat("x", 65)), text(strings.Repeat("\n", 65)), text(strings.Repeat("x", 1<<22)),
		name(strings.Repeat("a", 1<<22)), key(strings.Repeat("a", 1<<22)), sign(strings.Repeat("=", 1<<22)),
	} {
		hides(t, w)
		hides(t, at(3, w))
	}
}

// P1504: S and N are empty where no word has them.
func TestShowOfOtherFields(t *testing.T) {
	for _, w := range []api.Word{name("a"), key("if"), sign("=="), text(""), text("a"), text("1")} {
		for _, n := range []int64{1, -1, math.MaxInt64, math.MinInt64} {
			w.N = n
			hides(t, w)
		}
	}
	for _, s := range []string{"1", "0", "a", " ", "\x00", "+", strings.Repeat("x", 65)} {
		for _, n := range []int64{0, 1, 12} {
			w := count(n)
			w.S = s
			hides(t, w)
		}
	}
}

// P1504: Show agrees with the calls that it returns the results of.
func TestShowIsWhatOthersWrite(t *testing.T) {
	for c := range 256 {
		s := strings.Repeat(string([]byte{byte(c)}), 3)
		shows(t, text(s), view.Quote(s))
		shows(t, count(int64(c)*3906250000), num.Digits(int64(c)*3906250000))
	}
}

// strs are the texts of words.
func strs(l []api.Word) []string {
	var all []string
	for _, w := range l {
		all = append(all, w.S)
	}
	return all
}

// apart checks that no two texts share memory.
func apart(t *testing.T, l []string) {
	t.Helper()
	for i, a := range l {
		for k, b := range l[:i] {
			start, other := uintptr(unsafe.Pointer(unsafe.StringData(a))), uintptr(unsafe.Pointer(unsafe.StringData(b)))
			if start < other+uintptr(len(b)) && other < start+uintptr(len(a)) {
				t.Errorf("texts %d and %d share memory: %q, %q", k, i, b, a)
			}
		}
	}
}

// P1501: results share no memory, neither with the source nor with each other.
func TestNewMemory(t *testing.T) {
	source := strings.Clone("if name==10{write \"/a/b\",\"/a/b\";}if name")
	first, _ := lex.Words(source)
	second, _ := lex.Words(source)
	apart(t, append(append(strs(first), strs(second)...), source))
	var shown []string
	for _, w := range slices.Concat(first[:len(first)-1], second[:len(second)-1]) {
		s, _ := lex.Show(w)
		shown = append(shown, s)
	}
	apart(t, append(append(shown, strs(first)...), strs(second)...))
	all := first[:cap(first)]
	for i := range all {
		all[i] = name("changed")
	}
	if third, _ := lex.Words(source); !slices.Equal(second, third) {
		t.Errorf("Words shares its memory: %v, %v", second, third)
	}
}

// P1501: a result depends only on the arguments.
func TestPure(t *testing.T) {
	sources := []string{"a=1;", "", "!", "a abcdefghi", "\"x\"", strings.Repeat(" ", 4097), "barrier;"}
	for _, s := range sources {
		l, f := lex.Words(s)
		for _, between := range sources {
			lex.Words(between)
			if again, other := lex.Words(s); !slices.Equal(again, l) || other != f {
				t.Errorf("Words(%.80q) = %v, %v, and then %v, %v", s, l, f, again, other)
			}
		}
	}
}
