package view_test

import (
	"encoding/hex"
	"regexp"
	"slices"
	"strings"
	"testing"

	"flotsam/api"
	"flotsam/view"
)

// every is the string of all bytes, from 0 to 255.
func every() string {
	var b []byte
	for c := range 256 {
		b = append(b, byte(c))
	}
	return string(b)
}

// bare are the bytes that represent themselves, written out.
const bare = " !#$%&'()*+,-./0123456789:;<=>?@ABCDEFGHIJKLMNOPQRSTUVWXYZ[]^_`abcdefghijklmnopqrstuvwxyz{|}~"

// P1403: the quoted string, byte by byte.
func TestQuote(t *testing.T) {
	for s, want := range map[string]string{
		"":             `""`,
		"a":            `"a"`,
		bare:           `"` + bare + `"`,
		"\"":           `"\22"`,
		"\\":           `"\5c"`,
		"\n":           `"\0a"`,
		"\x00":         `"\00"`,
		"\x1f \x7f~":   `"\1f \7f~"`,
		"\x80\xff\xa9": `"\80\ff\a9"`,
		"é":            `"\c3\a9"`,
		`\0a`:          `"\5c0a"`,
		"q\"\n":        `"q\22\0a"`,
		`""`:           `"\22\22"`,
		"a b/c":        `"a b/c"`,
	} {
		if got := view.Quote(s); got != want {
			t.Errorf("Quote(%q) = %q, want %q", s, got, want)
		}
		if got, ok := view.Unquote(want); got != s || !ok {
			t.Errorf("Unquote(%q) = %q, %v, want %q", want, got, ok, s)
		}
	}
}

// P1403: each byte has exactly one notation.
func TestQuoteOfEachByte(t *testing.T) {
	for i := range 256 {
		s := string([]byte{byte(i)})
		escaped := `"\` + hex.EncodeToString([]byte(s)) + `"`
		plain := strings.Contains(bare, s)
		want, wrong := escaped, `"`+s+`"`
		if plain {
			want, wrong = wrong, want
		}
		if got := view.Quote(s); got != want {
			t.Errorf("Quote(%q) = %q, want %q", s, got, want)
		}
		if got, ok := view.Unquote(want); got != s || !ok {
			t.Errorf("Unquote(%q) = %q, %v", want, got, ok)
		}
		if got, ok := view.Unquote(wrong); got != "" || ok {
			t.Errorf("Unquote(%q) = %q, %v", wrong, got, ok)
		}
	}
	s := strings.Repeat(every(), 5)
	if got, ok := view.Unquote(view.Quote(s)); got != s || !ok {
		t.Errorf("Unquote of all bytes = %q, %v", got, ok)
	}
}

// P1403: what is not a quoted string.
func TestUnquoteOfOthers(t *testing.T) {
	for _, s := range []string{
		"", `"`, `a`, `a"`, `"a`, `'a'`, ` "a"`, `"a" `, `"a"b`, "\"a\"\n", `"""`, `"a"b"`, `""""`, `"\"`, `"\\"`, `"\""`, `"\n"`, `"\0"`, `"\0g"`, `"\g0"`, `"\0A"`, `"\A0"`, `"\FF"`,
		`"\41"`, `"\20"`, `"\7e"`, `"\5C"`, `"\x0a"`, `"\0a`, `\0a"`, `"\0`, `"\`, `\`, `"\ 0"`, `"\+1"`, `"\-1"`, `"\0x"`, `"\000"x`, "\"\n\"", "\"\x00\"", "\"\t\"", "\"\x7f\"", `"é"`, "\"\x80\"", `"\c3©"`,
		`"\2` + `"`, `"\5` + `"`, `"\2"2"`, `"\"22"`, `"a\"`, `"a\2"`, "\"\\0\xff\"", "\"\\\x000\"",
	} {
		if got, ok := view.Unquote(s); got != "" || ok {
			t.Errorf("Unquote(%q) = %q, %v", s, got, ok)
		}
	}
}

// quoted describes the notation in another way, and hidden the bytes in it that do not represent themselves.
var (
	quoted = regexp.MustCompile(`^"([ !#-\[\]-~]|\\([01][0-9a-f]|22|5c|7f|[89a-f][0-9a-f]))*"$`)
	hidden = regexp.MustCompile(`\\..`)
)

// unquoted is the string that has this Quote.
func unquoted(s string) (string, bool) {
	if !quoted.MatchString(s) {
		return "", false
	}
	return hidden.ReplaceAllStringFunc(s[1:len(s)-1], func(x string) string {
		b, _ := hex.DecodeString(x[1:])
		return string(b)
	}), true
}

// allStrings are the strings over an alphabet, up to a length.
func allStrings(alphabet string, most int) []string {
	l, last := []string{""}, []string{""}
	for range most {
		var longer []string
		for _, s := range last {
			for i := range len(alphabet) {
				longer = append(longer, s+alphabet[i:i+1])
			}
		}
		l = append(l, longer...)
		last = longer
	}
	return l
}

// P1403: Unquote accepts exactly the quoted strings, among all short strings of the bytes that matter.
func TestUnquoteOfShortStrings(t *testing.T) {
	accepted := 0
	for _, s := range allStrings("\"\\25ca\n", 6) {
		want, right := unquoted(s)
		got, ok := view.Unquote(s)
		if got != want || ok != right {
			t.Fatalf("Unquote(%q) = %q, %v, want %q, %v", s, got, ok, want, right)
		}
		if ok {
			accepted++
			if again := view.Quote(got); again != s {
				t.Errorf("Quote(%q) = %q, want %q", got, again, s)
			}
		}
	}
	if accepted < 100 {
		t.Errorf("only %d strings were accepted", accepted)
	}
}

// P1403: strings of any length are quoted, longer ones than a node or a text has, too.
func TestQuoteOfLongStrings(t *testing.T) {
	for _, n := range []int{64, 65, 128, 129, 4096, 1 << 20} {
		for _, s := range []string{strings.Repeat("a", n), strings.Repeat("\"", n), strings.Repeat("\xff", n)} {
			q := view.Quote(s)
			if got, ok := view.Unquote(q); got != s || !ok {
				t.Errorf("Unquote of %d bytes is another string, %v", n, ok)
			}
			if got, ok := view.Unquote(q[:len(q)-1]); got != "" || ok {
				t.Errorf("Unquote accepts %d bytes without an end", n)
			}
		}
	}
}

// shows checks that a list has a text, and a text that list.
func shows(t *testing.T, text string, l ...api.Node) {
	t.Helper()
	given := slices.Clone(l)
	if s, ok := view.Show(given); s != text || !ok {
		t.Errorf("Show(%v) = %q, %v, want %q", l, s, ok, text)
	}
	if !slices.Equal(given, l) {
		t.Errorf("Show has changed %v to %v", l, given)
	}
	if got, ok := view.Read(text); !slices.Equal(got, l) || !ok {
		t.Errorf("Read(%q) = %v, %v, want %v", text, got, ok, l)
	}
}

// P1403: the lines of nodes, which need not be those of a tree.
func TestShowAndRead(t *testing.T) {
	shows(t, "")
	shows(t, "/a \"\\07\"\n/b/\n", leaf("/a", "\x07"), dir("/b"))
	shows(t, "/a/b/c/d \"\"\n", leaf("/a/b/c/d", ""))
	shows(t, "/a/b/c/d/\n", dir("/a/b/c/d"))
	shows(t, "/abcdefgh/... \"a b\"\n", leaf("/abcdefgh/...", "a b"))
	shows(t, "/b/\n/a/\n/a/\n/a \"\"\n", dir("/b"), dir("/a"), dir("/a"), leaf("/a", ""))
	shows(t, "/a \"/b/\"\n/a \" \"\n/a \"/\"\n", leaf("/a", "/b/"), leaf("/a", " "), leaf("/a", "/"))
	shows(t, "/_ \"\\22\\0a\\5c\"\n", leaf("/_", "\"\n\\"))
	full := strings.Repeat("\n", 128)
	shows(t, "/a \""+strings.Repeat("\\0a", 128)+"\"\n", leaf("/a", full))
	shows(t, "/a \""+strings.Repeat("x", 128)+"\"\n", leaf("/a", strings.Repeat("x", 128)))
	shows(t, strings.Repeat("/a/\n", 1000), slices.Repeat([]api.Node{dir("/a")}, 1000)...)
	if s, ok := view.Show([]api.Node{}); s != "" || !ok {
		t.Errorf("Show of an empty list = %q, %v", s, ok)
	}
}

// wrong are nodes that are not valid.
func wrong() []api.Node {
	l := []api.Node{{}, {Data: "x"}, leaf("/a", strings.Repeat("x", 129)), leaf("/a", strings.Repeat("\n", 1<<16)), {Path: "/a", Dir: true, Data: "x"}, {Path: "/a", Dir: true, Data: "\x00"}}
	for _, path := range []string{"", "/", "a", "//", "/a/", "/a//b", "a/b", "/A", "/.", "/..", "/a/..", "/abcdefghi", "/a/b/c/d/e", "/a b", "/a \"\"", "/a\n", "/\n", "\n", " /a", "/é", "/a\x00", "/a\"", strings.Repeat("/a", 1<<16)} {
		l = append(l, leaf(path, ""), dir(path))
	}
	return l
}

// P1403: a node that is not valid has no line, and no other one has then, wherever it is in the list.
func TestShowOfOthers(t *testing.T) {
	for _, x := range wrong() {
		for _, l := range [][]api.Node{{x}, {x, dir("/a")}, {dir("/a"), x}, {leaf("/a", "b"), x, dir("/c")}} {
			if s, ok := view.Show(l); s != "" || ok {
				t.Errorf("Show(%.60v) = %.60q, %v", l, s, ok)
			}
		}
	}
}

// P1403: what has the form of a line, but of a node that is not valid, is not read.
func TestReadOfWrongNodes(t *testing.T) {
	for _, x := range wrong() {
		text := x.Path + " " + view.Quote(x.Data) + "\n"
		if x.Dir {
			if x.Data != "" {
				continue
			}
			text = x.Path + "/\n"
		}
		for _, s := range []string{text, "/a/\n" + text, text + "/a/\n"} {
			if l, ok := view.Read(s); len(l) != 0 || ok {
				t.Errorf("Read(%.60q) = %v, %v", s, l, ok)
			}
		}
	}
}

// P1403: texts with lines that no node has.
func TestReadOfOthers(t *testing.T) {
	for _, s := range []string{
		"\n", " ", " \n", "/\n", "//\n", "/a", "/a\n", "/a/", "/a ", "/a \n", "/a \"\"", "/a \"\n", "/a \"\"\r\n", "/a/\r\n", "/a \"\" \n", "/a  \"\"\n", "/a\t\"\"\n", " /a \"\"\n", "/a\"\"\n", "/a \"\"\"\n", "/a \"\"/\n", "/a \"x\"/\n",
		"/a/ \"\"\n", "/a/ \n", "/a/b/c/d/e/\n", "/a//\n", "/a \"\\41\"\n", "/a \"\\0A\"\n", "/a \"\\0\"\n", "/a \"\\\"\n", "/a \"x\ny\"\n", "/a \"é\"\n", "/a '\"'\n", "/a x\n", "/a x\"\n", "/a \"x\n", "\"\"\n", " \"\"\n", "x",
		"/a \"" + strings.Repeat("x", 129) + "\"\n", "/a \"" + strings.Repeat("\\00", 129) + "\"\n",
	} {
		for _, text := range []string{s, "/a/\n" + s, "/b \"c\"\n" + s, "/a/\n/b/\n" + s} {
			if l, ok := view.Read(text); len(l) != 0 || ok {
				t.Errorf("Read(%.60q) = %v, %v", text, l, ok)
			}
		}
	}
	for _, text := range []string{"/a/\n\n/b/\n", "\n/a/\n", "/a/\r\n/b/\n", "/a \"\n\"\n", "/a/ /b/\n", "/a//b/\n", "/a \"\" /b \"\"\n", "/a \"\"\"\"\n"} {
		if l, ok := view.Read(text); len(l) != 0 || ok {
			t.Errorf("Read(%q) = %v, %v", text, l, ok)
		}
	}
}

// someNodes are valid nodes, in any order.
func someNodes(next func(int) int) []api.Node {
	paths := []string{"/a", "/b", "/a/b", "/a/b/c/d", "/...", "/_/0.z", "/abcdefgh/abcdefgh/abcdefgh/abcdefgh"}
	var l []api.Node
	for range next(6) {
		path := paths[next(len(paths))]
		if next(2) == 0 {
			l = append(l, dir(path))
			continue
		}
		b := make([]byte, next(129)*next(2))
		for i := range b {
			b[i] = byte(next(256))
		}
		l = append(l, leaf(path, string(b)))
	}
	return l
}

// P1404: Read inverts Show, and accepts nothing else: a text with a changed byte is that of other nodes, or of none.
func TestReadInvertsShow(t *testing.T) {
	next := story(1403)
	accepted, refused := 0, 0
	for range 2000 {
		l := someNodes(next)
		s, ok := view.Show(l)
		if got, right := view.Read(s); !ok || !right || !slices.Equal(got, l) {
			t.Fatalf("Read(%q) = %v, %v, want %v", s, got, right, l)
		}
		if s == "" {
			continue
		}
		at := next(len(s))
		small := "/ \"\\\na0f."
		text := s[:at] + small[next(len(small)):][:1] + s[at+next(2):]
		got, right := view.Read(text)
		again, ok := view.Show(got)
		if right && (!ok || again != text) || !right && len(got) != 0 {
			t.Fatalf("Read(%q) = %v, %v, and Show of it is %q", text, got, right, again)
		}
		if right {
			accepted++
		} else {
			refused++
		}
	}
	if accepted < 100 || refused < 100 {
		t.Errorf("%d changed texts were accepted, %d refused", accepted, refused)
	}
}

// P1403: Read accepts exactly the texts of valid nodes, among all short texts of the bytes that matter.
func TestReadOfShortTexts(t *testing.T) {
	right := regexp.MustCompile(`^(((/a+){1,4})(/| "[a/ ]*")\n)*$`)
	accepted := 0
	for _, s := range allStrings("/a\" \n", 8) {
		want := right.MatchString(s)
		l, ok := view.Read(s)
		again, shown := view.Show(l)
		if ok != want || ok && (!shown || again != s) || !ok && len(l) != 0 {
			t.Fatalf("Read(%q) = %v, %v, want %v", s, l, ok, want)
		}
		if ok {
			accepted++
		}
	}
	if accepted < 10 {
		t.Errorf("only %d texts were accepted", accepted)
	}
}

// P1401: results share no memory with the argument, with each other, or with another result.
func TestTextsAreNewMemory(t *testing.T) {
	s := view.Quote("abc\n")
	a, _ := view.Unquote(s)
	b, _ := view.Unquote(s)
	plain := `"abc"`
	c, _ := view.Unquote(plain)
	apart(t, []string{s, a, b, plain, c, view.Quote(a), view.Quote(a)})
	text := "/a/b \"abc\"\n/a/\n/a/b \"abc\"\n"
	first, _ := view.Read(text)
	second, _ := view.Read(text)
	shown, _ := view.Show(first)
	again, _ := view.Show(first)
	one, _ := view.Show([]api.Node{dir("/a")})
	apart(t, slices.Concat([]string{text, shown, again, one}, texts(first), texts(second)))
	all := first[:cap(first)]
	for i := range all {
		all[i] = leaf("/changed", "changed")
	}
	third, _ := view.Read(text)
	if want := []api.Node{leaf("/a/b", "abc"), dir("/a"), leaf("/a/b", "abc")}; !slices.Equal(second, want) || !slices.Equal(third, want) {
		t.Errorf("Read shares its memory: %v, %v", second, third)
	}
}
