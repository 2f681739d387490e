package path

import (
	"slices"
	"strings"
	"testing"
	"unsafe"

	"flotsam/api"
)

// rightPaths are paths of every depth, among them names that other ones begin with.
func rightPaths() []string {
	return []string{
		"/",
		"/a", "/b", "/ab", "/a.b", "/_", "/...", "/.a", "/0", "/abcdefgh", "/abcdefg",
		"/a/b", "/a/a", "/b/a", "/ab/b", "/a/bc", "/a.b/b", "/abcdefgh/abcdefgh",
		"/a/b/c", "/a/a/a", "/b/b/c", "/a/b/cc", "/a/bc/c",
		"/a/b/c/d", "/a/b/c/c", "/a/a/a/a", "/x/b/c/d", "/a/b.1/c_/d", "/..a/a../.../09", "/abcdefgh/ijklmnop/qrstuvwx/yz0129._",
	}
}

// wrongPaths are texts that break one rule each.
func wrongPaths() []string {
	return []string{
		// No / at the beginning.
		"", "a", "a/", "a/b", " /a", "\x00/a", "./a", "../a", ".", "..",
		// A name without characters.
		"//", "///", "////", "/////", "//////", "//a", "/a/", "/a//", "/a//b", "/a/b/", "/a/b/c/", "/a/b/c/d/", "///a", "//a/b/c", "/a/b//d",
		// More names than a path has.
		"/a/b/c/d/e", "/a/a/a/a/a", "/a/b/c/d/e/f", "/a/b/c/d/.", "/a/b/c/d/E", strings.Repeat("/a", 100000),
		// Names that are none.
		"/.", "/..", "/./a", "/../a", "/a/.", "/a/..", "/a/./b", "/a/../b", "/a/b/c/.", "/a/b/c/..",
		"/abcdefghi", "/a/abcdefghi", "/abcdefghi/a", "/a/b/c/abcdefghi", "/" + strings.Repeat("a", 100000), "/a/" + strings.Repeat("a", 100000) + "/b",
		"/A", "/aB", "/a/B", "/a b", "/a ", "/ a", "/ ", "/a-b", "/a\\b", "\\a", "/a\n", "/\x00", "/a\x00", "/a/\x00", "/\xff", "/ä", "/a/ä", "/ａ", "／a", "/*", "/~",
		strings.Repeat("/", 100000),
	}
}

// splitByHand reads a path as the chapter defines it, byte by byte.
func splitByHand(path string) ([]string, bool) {
	if path == "/" {
		return nil, true
	}
	if path == "" || path[0] != '/' {
		return nil, false
	}
	var names []string
	end := len(path)
	for i := len(path) - 1; i >= 0; i-- {
		if path[i] == '/' {
			names = slices.Insert(names, 0, path[i+1:end])
			end = i
		}
		if len(names) > 4 {
			return nil, false
		}
	}
	for _, name := range names {
		if name == "" || len(name) > 8 || name == "." || name == ".." || strings.Trim(name, "abcdefghijklmnopqrstuvwxyz0123456789._") != "" {
			return nil, false
		}
	}
	return names, true
}

// checkSplit compares Split with what the chapter defines, and Parent with it.
func checkSplit(t *testing.T, path string) {
	t.Helper()
	want, right := splitByHand(path)
	names, e := Split(path)
	folder, name, parentE := Parent(path)
	if !right {
		if len(names) != 0 || e != api.ErrName {
			t.Errorf("Split(%.60q) = %.60q, %d, but it is not a path", path, names, e)
		}
		if folder != "" || name != "" || parentE != api.ErrName {
			t.Errorf("Parent(%.60q) = %.60q, %.60q, %d, but it is not a path", path, folder, name, parentE)
		}
		return
	}
	if !slices.Equal(names, want) || e != api.OK {
		t.Errorf("Split(%q) = %q, %d, want %q", path, names, e, want)
	}
	var wantFolder, wantName string
	wantE := api.ErrArg
	if len(want) > 0 {
		wantName = want[len(want)-1]
		wantFolder = strings.TrimSuffix(path, "/"+wantName)
		if len(want) == 1 {
			wantFolder = "/"
		}
		wantE = api.OK
	}
	if folder != wantFolder || name != wantName || parentE != wantE {
		t.Errorf("Parent(%q) = %q, %q, %d, want %q, %q, %d", path, folder, name, parentE, wantFolder, wantName, wantE)
	}
}

// P802: the names of a path, none for the root.
func TestSplit(t *testing.T) {
	for _, c := range []struct {
		path string
		want []string
	}{
		{"/", nil},
		{"/a", []string{"a"}},
		{"/a/b", []string{"a", "b"}},
		{"/a/a", []string{"a", "a"}},
		{"/b/a", []string{"b", "a"}},
		{"/...", []string{"..."}},
		{"/a/b/c", []string{"a", "b", "c"}},
		{"/a/b.1/c_/d", []string{"a", "b.1", "c_", "d"}},
		{"/abcdefgh/ijklmnop/qrstuvwx/yz0129._", []string{"abcdefgh", "ijklmnop", "qrstuvwx", "yz0129._"}},
	} {
		if names, e := Split(c.path); !slices.Equal(names, c.want) || e != api.OK {
			t.Errorf("Split(%q) = %q, %d", c.path, names, e)
		}
	}
	for _, path := range rightPaths() {
		if _, e := Split(path); e != api.OK {
			t.Errorf("%q is not a path: %d", path, e)
		}
		checkSplit(t, path)
	}
}

// P801, P802: texts that are not paths, for Split, Parent and Under, with results that are zero.
func TestWrongPaths(t *testing.T) {
	for _, path := range wrongPaths() {
		if names, e := Split(path); len(names) != 0 || e != api.ErrName {
			t.Errorf("Split(%.60q) = %.60q, %d", path, names, e)
		}
		if folder, name, e := Parent(path); folder != "" || name != "" || e != api.ErrName {
			t.Errorf("Parent(%.60q) = %.60q, %.60q, %d", path, folder, name, e)
		}
		if Under(path, "/") || Under(path, path) || Under("/a/b/c/d", path) || Under("/", path) {
			t.Errorf("%.60q is under something, or something under it", path)
		}
	}
}

// P802: all short texts of the characters at which the rules change.
func TestShortTexts(t *testing.T) {
	texts := []string{""}
	for range 10 {
		var longer []string
		for _, text := range texts {
			checkSplit(t, text)
			longer = append(longer, text+"/", text+"a", text+".")
		}
		texts = longer
	}
}

// P802: with one byte changed, removed or inserted, a path is what its bytes say.
func TestSplitSeesEveryByte(t *testing.T) {
	for _, path := range rightPaths() {
		for at := range len(path) {
			checkSplit(t, path[:at]+path[at+1:])
			for b := range 256 {
				one := string([]byte{byte(b)})
				checkSplit(t, path[:at]+one+path[at+1:])
				checkSplit(t, path[:at]+one+path[at:])
			}
		}
	}
}

// P802: how many names a path has, and how long they are.
func TestDepthAndLength(t *testing.T) {
	for depth := range 12 {
		for length := range 12 {
			path := "/" + strings.Repeat("x", length)
			if depth > 0 {
				path = strings.Repeat(path, depth)
			}
			checkSplit(t, path)
			_, e := Split(path)
			right := path == "/" || depth <= 4 && length >= 1 && length <= 8
			if right != (e == api.OK) {
				t.Errorf("Split(%q) returns %d", path, e)
			}
		}
	}
}

// P802: Join precedes each name by a /, whatever it is, and however many there are.
func TestJoin(t *testing.T) {
	for _, c := range []struct {
		names []string
		want  string
	}{
		{nil, "/"},
		{[]string{}, "/"},
		{[]string{"a"}, "/a"},
		{[]string{"a", "b"}, "/a/b"},
		{[]string{"b", "a"}, "/b/a"},
		{[]string{"a", "a", "a"}, "/a/a/a"},
		{[]string{"a", "b.1", "c_", "d"}, "/a/b.1/c_/d"},
		{[]string{"a", "b", "c", "d", "e"}, "/a/b/c/d/e"},
		{[]string{"a", "b", "c", "d", "e", "f"}, "/a/b/c/d/e/f"},
		{[]string{""}, "/"},
		{[]string{"", ""}, "//"},
		{[]string{"a", ""}, "/a/"},
		{[]string{"", "a"}, "//a"},
		{[]string{"/"}, "//"},
		{[]string{"/a"}, "//a"},
		{[]string{"a/b", "c"}, "/a/b/c"},
		{[]string{".", ".."}, "/./.."},
		{[]string{"A B", "\x00\xff", "ä"}, "/A B/\x00\xff/ä"},
		{[]string{"abcdefghi"}, "/abcdefghi"},
	} {
		if got := Join(c.names...); got != c.want {
			t.Errorf("Join of %q = %q, want %q", c.names, got, c.want)
		}
	}
	if Join() != "/" || Join("a", "b") != "/a/b" {
		t.Error("Join of names one by one is not that of a slice")
	}
	long := strings.Repeat("a", 100000)
	if Join(long, long) != "/"+long+"/"+long {
		t.Error("Join of long names")
	}
	if Join(slices.Repeat([]string{"a"}, 100000)...) != strings.Repeat("/a", 100000) {
		t.Error("Join of many names")
	}
}

// P802: Parent; the second path is the chapter's example.
func TestParent(t *testing.T) {
	for _, c := range []struct {
		path, folder, name string
		e                  api.Errno
	}{
		{"/a", "/", "a", api.OK},
		{"/a/b", "/a", "b", api.OK},
		{"/a/a", "/a", "a", api.OK},
		{"/a/b/c", "/a/b", "c", api.OK},
		{"/a/b.1/c_/d", "/a/b.1/c_", "d", api.OK},
		{"/abcdefgh/ijklmnop/qrstuvwx/yz0129._", "/abcdefgh/ijklmnop/qrstuvwx", "yz0129._", api.OK},
		{"/", "", "", api.ErrArg},
		{"", "", "", api.ErrName},
		{"//", "", "", api.ErrName},
		{"/a/", "", "", api.ErrName},
		{"/a/b/c/d/e", "", "", api.ErrName},
		{"/A", "", "", api.ErrName},
		{"a", "", "", api.ErrName},
	} {
		if folder, name, e := Parent(c.path); folder != c.folder || name != c.name || e != c.e {
			t.Errorf("Parent(%q) = %q, %q, %d", c.path, folder, name, e)
		}
	}
}

// P802: names are compared, not characters; a path is under itself and under the root.
func TestUnder(t *testing.T) {
	for _, c := range []struct {
		path, of string
		want     bool
	}{
		{"/", "/", true},
		{"/a", "/", true},
		{"/a/b/c/d", "/", true},
		{"/", "/a", false},
		{"/a", "/a", true},
		{"/a/b", "/a", true},
		{"/a/b/c/d", "/a", true},
		{"/a/b/c/d", "/a/b", true},
		{"/a/b/c/d", "/a/b/c", true},
		{"/a/b/c/d", "/a/b/c/d", true},
		{"/a", "/a/b", false},
		{"/a/b/c", "/a/b/c/d", false},
		{"/ab", "/a", false},
		{"/a", "/ab", false},
		{"/a.b", "/a", false},
		{"/a/bc", "/a/b", false},
		{"/a/b", "/b", false},
		{"/b/a", "/a", false},
		{"/x/b/c/d", "/a", false},
		{"/x/b/c/d", "/a/b/c/d", false},
		{"/a/a/a", "/a/a", true},
		// Not both are paths.
		{"/a/b", "/a/", false},
		{"/a/b", "", false},
		{"/a/b", "a", false},
		{"/a/b", "//", false},
		{"/a/b", "/A", false},
		{"/a/", "/a", false},
		{"/a//b", "/a", false},
		{"/a/b/c/d/e", "/a", false},
		{"/a/B", "/a", false},
		{"/a/..", "/a", false},
		{"", "/", false},
		{"", "", false},
		{"a", "a", false},
		{"/a/", "/a/", false},
		{"//", "/", false},
		{"/a/b/c/d/e", "/a/b/c/d/e", false},
	} {
		if got := Under(c.path, c.of); got != c.want {
			t.Errorf("Under(%q, %q) = %v", c.path, c.of, got)
		}
	}
}

// P802: Under of all pairs of texts, paths or not.
func TestUnderPairs(t *testing.T) {
	texts := append(rightPaths(), wrongPaths()...)
	for _, path := range texts {
		for _, of := range texts {
			_, right := splitByHand(path)
			_, rightOf := splitByHand(of)
			begins := of == "/" || strings.HasPrefix(path+"/", of+"/")
			if got := Under(path, of); got != (right && rightOf && begins) {
				t.Errorf("Under(%.60q, %.60q) = %v", path, of, got)
			}
		}
	}
}

// P803: Join inverts Split.
func TestJoinInvertsSplit(t *testing.T) {
	for _, path := range rightPaths() {
		names, _ := Split(path)
		if got := Join(names...); got != path {
			t.Errorf("Join of the names of %q is %q", path, got)
		}
	}
}

// P803: Split inverts Join for at most 4 names; a fifth one makes it no path.
func TestSplitInvertsJoin(t *testing.T) {
	choices := []string{"a", "b", "...", "_", "0", "abcdefgh", "yz0129._"}
	all := [][]string{nil}
	for depth := range 6 {
		var deeper [][]string
		for _, names := range all {
			got, e := Split(Join(names...))
			if depth <= 4 && (!slices.Equal(got, names) || e != api.OK) || depth > 4 && (len(got) != 0 || e != api.ErrName) {
				t.Errorf("Split of Join of %q = %q, %d", names, got, e)
			}
			for _, name := range choices {
				deeper = append(deeper, append(slices.Clone(names), name))
			}
		}
		all = deeper
	}
}

// P803: a path is under its Parent, which is not under it, and Parent's results make the path again.
func TestPathIsUnderItsParent(t *testing.T) {
	for _, path := range rightPaths()[1:] {
		folder, name, e := Parent(path)
		if e != api.OK || !Under(path, folder) || Under(folder, path) {
			t.Errorf("%q is not under its Parent %q: %d", path, folder, e)
		}
		above, _ := Split(folder)
		if got := Join(append(above, name)...); got != path {
			t.Errorf("Parent of %q is %q, %q", path, folder, name)
		}
	}
}

// P801: Join changes none of its names, nor the capacity behind them, and does not keep them.
func TestJoinChangesNothing(t *testing.T) {
	memory := []string{"a", "b", "c", "d", "e"}
	before := slices.Clone(memory)
	for n := range len(memory) + 1 {
		joined := Join(memory[:n]...)
		if !slices.Equal(memory, before) {
			t.Fatalf("Join of %d names makes them %q", n, memory)
		}
		want := strings.Clone(joined)
		memory[0] = "z"
		if joined != want {
			t.Error("Join keeps the names")
		}
		memory[0] = "a"
	}
}

// P801: the results share no memory with an argument, nor with each other.
func TestResultsAreNewMemory(t *testing.T) {
	for _, path := range rightPaths()[1:] {
		names, _ := Split(path)
		folder, name, _ := Parent(path)
		results := append(slices.Clone(names), folder, name, Join(names...))
		for i, result := range results {
			if overlap(result, path) {
				t.Errorf("a result of %q shares its memory: %q", path, result)
			}
			for k, other := range results[:i] {
				// The / of the root directory is a constant.
				if result != "/" && overlap(result, other) {
					t.Errorf("results %d and %d of %q share memory", k, i, path)
				}
			}
		}
		if joined := Join(path); overlap(joined, path) {
			t.Errorf("Join(%q) shares its memory", path)
		}
	}
}

// overlap reports whether two texts have a byte of memory in common.
func overlap(a, b string) bool {
	start, other := uintptr(unsafe.Pointer(unsafe.StringData(a))), uintptr(unsafe.Pointer(unsafe.StringData(b)))
	return start < other+uintptr(len(b)) && other < start+uintptr(len(a))
}

// P801: a changed result of Split changes no other one, not even behind its end.
func TestSplitIsNewEachTime(t *testing.T) {
	for _, path := range rightPaths() {
		want, _ := splitByHand(path)
		first, _ := Split(path)
		second, _ := Split(path)
		all := first[:cap(first)]
		for i := range all {
			all[i] = "changed"
		}
		third, _ := Split(path)
		if !slices.Equal(second, want) || !slices.Equal(third, want) {
			t.Errorf("Split(%q) shares its memory: %q, %q", path, second, third)
		}
	}
}

// P801: a call's result depends on nothing but its arguments.
func TestCallsArePure(t *testing.T) {
	if !slices.Equal(tellAll(), tellAll()) {
		t.Error("the same calls return other results")
	}
}

// tellAll are the results of many calls, as texts.
func tellAll() []string {
	var told []string
	for _, path := range append(rightPaths(), wrongPaths()...) {
		names, e := Split(path)
		folder, name, parentE := Parent(path)
		told = append(told, Join(names...), string(rune('a'+e)), folder, name, string(rune('a'+parentE)))
		if Under("/a/b/c/d", path) {
			told = append(told, "under")
		}
	}
	return told
}
