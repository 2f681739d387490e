package look

import (
	"math"
	"slices"
	"strings"
	"testing"
	"unsafe"

	"flotsam/api"
	"flotsam/bdisk"
	"flotsam/layout"
	paths "flotsam/path"
)

// inodes and entries are what a disk has at these numbers; it has nothing at the others.
type (
	inodes  map[int]api.Inode
	entries map[int]api.Entry
)

// folder and file are the inodes of an empty folder and of an empty file.
var (
	folder = api.Inode{Kind: api.Folder}
	file   = api.Inode{Kind: api.File}
)

// in is the entry of a name in a folder.
func in(parent int, name string, target int) api.Entry {
	return api.Entry{Used: true, Parent: parent, Name: name, Target: target}
}

// sectorOf is the sector of an inode.
func sectorOf(t *testing.T, x api.Inode) api.Sector {
	t.Helper()
	s, ok := layout.Inode(x)
	if !ok {
		t.Fatalf("%v is not an inode", x)
	}
	return s
}

// sectorOfEntry is the sector of an entry.
func sectorOfEntry(t *testing.T, x api.Entry) api.Sector {
	t.Helper()
	s, ok := layout.Entry(x)
	if !ok {
		t.Fatalf("%v is not an entry", x)
	}
	return s
}

// imageWith is the image Empty with these inodes and entries.
func imageWith(t *testing.T, i inodes, e entries) []api.Sector {
	t.Helper()
	image := layout.Empty()
	for n, x := range i {
		image[api.Inodes+n] = sectorOf(t, x)
	}
	for k, x := range e {
		image[api.Entries+k] = sectorOfEntry(t, x)
	}
	return image
}

// from is the disk with an image.
func from(t *testing.T, image []api.Sector) *bdisk.Disk {
	t.Helper()
	d, e := bdisk.From(image)
	if e != api.OK {
		t.Fatalf("no disk with %d sectors: %d", len(image), e)
	}
	return d
}

// with is the disk with the image Empty and these inodes and entries.
func with(t *testing.T, i inodes, e entries) *bdisk.Disk {
	t.Helper()
	return from(t, imageWith(t, i, e))
}

// row is as many times the same sector.
func row(s api.Sector, n int) []api.Sector {
	return slices.Repeat([]api.Sector{s}, n)
}

// numbers are ints around all limits of the chapter, those that a sum makes small, and the ends of int.
func numbers() []int {
	l := []int{math.MinInt, math.MinInt + 1, math.MinInt + 16, math.MinInt + 17, -1 << 32, -1 << 31, -256, math.MaxInt, math.MaxInt - 1, math.MaxInt - 16, math.MaxInt - 17, 255, 256, 257, 1 << 31, 1 << 32, 1<<32 + 1, 1 << 62}
	for n := -70; n < 140; n++ {
		l = append(l, n)
	}
	return l
}

// wrongDisks are disks that no constructor has returned.
func wrongDisks(t *testing.T) map[string]*bdisk.Disk {
	t.Helper()
	copied := *with(t, inodes{1: file}, entries{0: in(0, "a", 1)})
	return map[string]*bdisk.Disk{"nil": nil, "zero": {}, "a copy": &copied}
}

// The model: the chapter's definitions, for an image that has what Read returns.
type model []api.Sector

func (m model) sector(at int) api.Sector {
	if at < 0 || at >= len(m) {
		return api.Sector{}
	}
	return m[at]
}

func (m model) inode(n int) api.Inode {
	x, ok := layout.InodeOf(m.sector(1 + n))
	if n < 0 || n > 15 || !ok {
		return api.Inode{}
	}
	return x
}

func (m model) entry(k int) api.Entry {
	x, ok := layout.EntryOf(m.sector(17 + k))
	if k < 0 || k > 23 || !ok {
		return api.Entry{}
	}
	return x
}

func (m model) taken(n int) bool {
	taken := n == 0
	for k := range 24 {
		x := m.entry(k)
		taken = taken || x.Used && x.Target == n
	}
	return taken
}

// found has for each name in parent the lowest entry by which it is there.
func (m model) found(parent int) map[string]int {
	found := map[string]int{}
	for k := 23; k >= 0; k-- {
		x := m.entry(k)
		if x.Used && x.Parent == parent && m.inode(x.Target).Kind != api.Free {
			found[x.Name] = k
		}
	}
	return found
}

// list inserts each name before the first greater one.
func (m model) list(n int) []string {
	var l []string
	for name := range m.found(n) {
		at := 0
		for at < len(l) && l[at] < name {
			at++
		}
		l = slices.Insert(l, at, name)
	}
	return l
}

func (m model) lookup(path string) (int, api.Errno) {
	if path == "/" {
		return 0, api.OK
	}
	names := strings.Split(path, "/")
	right := len(names) >= 2 && len(names) <= 5 && names[0] == ""
	for _, name := range names[1:] {
		right = right && layout.Name(name)
	}
	if !right {
		return 0, api.ErrName
	}
	n := 0
	for _, name := range names[1:] {
		if m.inode(n).Kind != api.Folder {
			return 0, api.ErrKind
		}
		k, ok := m.found(n)[name]
		if !ok {
			return 0, api.ErrNone
		}
		n = m.entry(k).Target
	}
	return n, api.OK
}

func (m model) mounted() bool {
	super, root := api.Sector{'F', 'L', 'O', 'T'}, api.Sector{api.Folder}
	return len(m) == 65 && m[0] == super && m[1] == root
}

// seenPaths are the paths that are compared with the model: of few names, so that many of them are found.
func seenPaths() []string {
	names := []string{"a", "b", "..."}
	l := []string{"/"}
	last := []string{""}
	for range 5 {
		var deeper []string
		for _, path := range last {
			for _, name := range names {
				deeper = append(deeper, path+"/"+name)
			}
		}
		l = append(l, deeper...)
		last = deeper
	}
	return append(l, "", "a", "//", "/a/", "/a/.", "/A", "/_", "/a/abcdefgh", "/abcdefghi", "/..")
}

// compare compares all calls with the model.
func compare(t *testing.T, what string, d *bdisk.Disk, m model) {
	t.Helper()
	for n := -3; n < 30; n++ {
		if got := Inode(d, n); got != m.inode(n) {
			t.Errorf("%s: Inode(%d) = %v, want %v", what, n, got, m.inode(n))
		}
		if got := Entry(d, n); got != m.entry(n) {
			t.Errorf("%s: Entry(%d) = %v, want %v", what, n, got, m.entry(n))
		}
		if got := Taken(d, n); got != m.taken(n) {
			t.Errorf("%s: Taken(%d) = %v", what, n, got)
		}
		found := m.found(n)
		for _, name := range []string{"a", "b", "...", "_", "aa", "abcdefgh", "", ".", "c", "/", "/a", "A"} {
			wantK, wantOk := found[name]
			if k, ok := Find(d, n, name); k != wantK || ok != wantOk {
				t.Errorf("%s: Find(%d, %q) = %d, %v, want %d, %v", what, n, name, k, ok, wantK, wantOk)
			}
		}
		if got := List(d, n); !slices.Equal(got, m.list(n)) {
			t.Errorf("%s: List(%d) = %q, want %q", what, n, got, m.list(n))
		}
	}
	for _, path := range seenPaths() {
		wantN, wantE := m.lookup(path)
		if n, e := Lookup(d, path); n != wantN || e != wantE {
			t.Errorf("%s: Lookup(%q) = %d, %d, want %d, %d", what, path, n, e, wantN, wantE)
		}
	}
	if got := Mounted(d); got != m.mounted() {
		t.Errorf("%s: Mounted = %v", what, got)
	}
}

// story is a source of numbers from 0 to n - 1, the same ones for the same seed.
func story(seed uint64) func(n int) int {
	return func(n int) int {
		seed = seed*6364136223846793005 + 1442695040888963407
		return int(seed>>33) % n
	}
}

// someInode is a sector where an inode is looked for: mostly a folder's or a file's, sometimes none's.
func someInode(next func(int) int) api.Sector {
	switch next(8) {
	case 0:
		return api.Sector{}
	case 1:
		return api.Sector{api.Folder, 1}
	case 2:
		return api.Sector{byte(next(5))}
	case 3:
		return api.Sector{api.File, 33, byte(next(26)), byte(next(26))}
	case 4:
		return api.Sector{api.File}
	}
	return api.Sector{api.Folder}
}

// someEntry is a sector where an entry is looked for: mostly that of one, in few folders and with few names.
func someEntry(next func(int) int) api.Sector {
	names := []string{"a", "b", "...", "a", "b", "_", "aa", "abcdefgh"}
	name := names[next(len(names))]
	s := api.Sector{1, byte(next(5)), byte(1 + next(6)), byte(len(name))}
	copy(s[16:], name)
	switch next(10) {
	case 0:
		return api.Sector{}
	case 1:
		s[[]int{0, 1, 2, 3, 8, 16, 31}[next(7)]] = byte(next(20))
	case 2:
		s[1] = byte(next(16))
	}
	return s
}

// someImage is an image with inodes and entries of all kinds.
func someImage(next func(int) int) []api.Sector {
	image := layout.Empty()
	for n := 1; n < api.MaxInodes; n++ {
		image[api.Inodes+n] = someInode(next)
	}
	for k := range api.MaxEntries {
		image[api.Entries+k] = someEntry(next)
	}
	if next(8) == 0 {
		image[api.Inodes] = someInode(next)
	}
	if next(8) == 0 {
		image[api.Super][next(8)]++
	}
	return image
}

// P902: the inodes, each with its number.
func TestInode(t *testing.T) {
	want := inodes{0: folder, 1: file, 3: {Kind: api.File, Size: 128, Blocks: [4]int{24, 1, 23, 2}}, 14: folder}
	for n := 4; n < 14; n++ {
		want[n] = api.Inode{Kind: api.File, Size: n, Blocks: [4]int{n}}
	}
	want[15] = api.Inode{Kind: api.File, Size: 33, Blocks: [4]int{9, 24}}
	d := with(t, want, nil)
	for n := range 16 {
		if got := Inode(d, n); got != want[n] {
			t.Errorf("Inode(%d) = %v, want %v", n, got, want[n])
		}
	}
}

// P902: the entries, each with its number.
func TestEntry(t *testing.T) {
	want := entries{0: in(0, "a", 1), 1: in(15, "abcdefgh", 15), 23: in(2, "...", 3)}
	for k := 3; k < 23; k++ {
		want[k] = in(k%16, string([]byte{'a' + byte(k)}), 1+k%15)
	}
	d := with(t, nil, want)
	for k := range 24 {
		if got := Entry(d, k); got != want[k] {
			t.Errorf("Entry(%d) = %v, want %v", k, got, want[k])
		}
	}
}

// P902: other numbers have neither an inode nor an entry, though there are sectors of these, next to the right ones and everywhere.
func TestNumbersOfNone(t *testing.T) {
	full := api.Inode{Kind: api.File, Size: 33, Blocks: [4]int{9, 24}}
	allInodes := from(t, row(sectorOf(t, full), api.Sectors))
	allEntries := from(t, row(sectorOfEntry(t, in(1, "a", 2)), api.Sectors))
	for _, n := range numbers() {
		if got := Inode(allInodes, n); n >= 0 && n < 16 && got != full || (n < 0 || n >= 16) && got != (api.Inode{}) {
			t.Errorf("Inode(%d) = %v", n, got)
		}
		if got := Entry(allEntries, n); n >= 0 && n < 24 && got != in(1, "a", 2) || (n < 0 || n >= 24) && got != (api.Entry{}) {
			t.Errorf("Entry(%d) = %v", n, got)
		}
	}
	// The lowest entry counts, and all of them have the same name.
	fill := from(t, slices.Concat(row(sectorOf(t, full), api.Entries), row(sectorOfEntry(t, in(1, "a", 2)), 48)))
	if k, ok := Find(fill, 1, "a"); k != 0 || !ok {
		t.Errorf("Find = %d, %v", k, ok)
	}
}

// P902: a sector that is not that of an inode is Free, one that is not that of an entry is not used.
func TestSectorsOfNone(t *testing.T) {
	for _, s := range []api.Sector{
		{3}, {255}, {0, 1}, {0, 0, 1}, {2, 1}, {2, 0, 1}, {1, 1}, {1, 0, 1}, {1, 33, 5, 5}, {1, 32, 25}, {1, 129, 1, 2, 3, 4},
		{6: 1}, {1, 32, 5, 31: 1}, {2, 31: 1}, {2, 6: 2}, {'F', 'L', 'O', 'T'},
	} {
		d := with(t, inodes{2: file}, entries{0: in(0, "a", 1), 1: in(0, "b", 2)})
		d.Write(api.Inodes+1, s, api.Tag{})
		if got := Inode(d, 1); got != (api.Inode{}) {
			t.Errorf("the sector %v is the inode %v", s, got)
		}
		if l := List(d, 0); !slices.Equal(l, []string{"b"}) {
			t.Errorf("with the inode's sector %v: %q", s, l)
		}
		if n, e := Lookup(d, "/a"); n != 0 || e != api.ErrNone {
			t.Errorf("with the inode's sector %v: Lookup = %d, %d", s, n, e)
		}
	}
	for _, s := range []api.Sector{
		{0, 1}, {0, 0, 1}, {16: 'a'}, {2, 0, 1, 1, 16: 'a'}, {255, 0, 1, 1, 16: 'a'}, {1, 16, 1, 1, 16: 'a'}, {1, 0, 0, 1, 16: 'a'}, {1, 0, 16, 1, 16: 'a'},
		{1, 0, 1, 0}, {1, 0, 1, 0, 16: 'a'}, {1, 0, 1, 2, 16: 'a'}, {1, 0, 1, 9, 16: 'a'}, {1, 0, 1, 255, 16: 'a'}, {1, 0, 1, 1, 16: 'A'}, {1, 0, 1, 1, 16: '.'},
		{1, 0, 1, 1, 16: 'a', 17: 'b'}, {1, 0, 1, 1, 4: 1, 16: 'a'}, {1, 0, 1, 1, 16: 'a', 31: 1},
	} {
		d := with(t, inodes{1: file}, nil)
		d.Write(api.Entries+5, s, api.Tag{})
		if got := Entry(d, 5); got != (api.Entry{}) {
			t.Errorf("the sector %v is the entry %v", s, got)
		}
		if l := List(d, 0); len(l) != 0 || Taken(d, 1) {
			t.Errorf("with the entry's sector %v: %q, or taken", s, l)
		}
		if k, ok := Find(d, 0, "a"); k != 0 || ok {
			t.Errorf("with the entry's sector %v: Find = %d, %v", s, k, ok)
		}
	}
}

// P902: 0 is taken, and the targets of used entries, whatever these targets and the folders are.
func TestTaken(t *testing.T) {
	d := with(t, inodes{1: file, 2: folder, 6: file, 7: folder}, entries{0: in(0, "a", 1), 3: in(9, "b", 5), 4: in(4, "c", 4), 23: in(1, "d", 15)})
	for _, n := range numbers() {
		want := slices.Contains([]int{0, 1, 4, 5, 15}, n)
		if got := Taken(d, n); got != want {
			t.Errorf("Taken(%d) = %v", n, got)
		}
	}
	if !Taken(with(t, nil, nil), 0) {
		t.Error("the root directory is not taken")
	}
}

// P903: the lowest entry with that name, that folder, and a target that is not Free.
func TestFind(t *testing.T) {
	d := with(t, inodes{1: folder, 2: file, 3: file}, entries{
		1:  in(0, "x", 4),
		2:  in(1, "x", 2),
		3:  in(0, "xx", 2),
		4:  in(0, "x", 3),
		5:  in(0, "x", 2),
		6:  in(0, "free", 9),
		7:  in(1, "y", 1),
		23: in(0, "last", 1),
	})
	for _, c := range []struct {
		parent int
		name   string
		k      int
		ok     bool
	}{
		{0, "x", 4, true}, {1, "x", 2, true}, {0, "xx", 3, true}, {1, "y", 7, true}, {0, "last", 23, true},
		{0, "y", 0, false}, {1, "xx", 0, false}, {1, "last", 0, false}, {2, "x", 0, false}, {0, "free", 0, false}, {9, "free", 0, false},
		{0, "", 0, false}, {0, ".", 0, false}, {0, "X", 0, false}, {0, "x\x00", 0, false}, {0, "/x", 0, false}, {0, "las", 0, false}, {0, "lastt", 0, false}, {0, strings.Repeat("x", 100000), 0, false},
	} {
		if k, ok := Find(d, c.parent, c.name); k != c.k || ok != c.ok {
			t.Errorf("Find(%d, %.20q) = %d, %v, want %d, %v", c.parent, c.name, k, ok, c.k, c.ok)
		}
	}
	for _, n := range numbers() {
		if n == 0 || n == 1 {
			continue
		}
		if k, ok := Find(d, n, "x"); k != 0 || ok || len(List(d, n)) != 0 {
			t.Errorf("Find(%d) = %d, %v", n, k, ok)
		}
	}
}

// P903: entry 0 is found too, and the unused ones, which have the Parent 0 and no name, are not.
func TestFindEntryZero(t *testing.T) {
	d := with(t, inodes{1: file}, entries{0: in(0, "a", 1)})
	if k, ok := Find(d, 0, "a"); k != 0 || !ok {
		t.Errorf("Find = %d, %v", k, ok)
	}
	if k, ok := Find(d, 0, ""); k != 0 || ok {
		t.Errorf("Find of no name = %d, %v", k, ok)
	}
}

// P903: what the folder's own inode is does not matter: a name is in it by entries and their targets.
func TestNamesInAnyParent(t *testing.T) {
	for _, parent := range []api.Inode{{}, file, folder} {
		d := with(t, inodes{5: parent, 2: file}, entries{8: in(5, "a", 2)})
		if k, ok := Find(d, 5, "a"); k != 8 || !ok || !slices.Equal(List(d, 5), []string{"a"}) {
			t.Errorf("in %v: Find = %d, %v, List = %q", parent, k, ok, List(d, 5))
		}
	}
}

// P903: the names in the order of their bytes, each once.
func TestList(t *testing.T) {
	names := []string{"b", "a", "ab", "a.b", "a_b", "a0", "_", "...", "9", "0", "z", "abcdefgh", "abcdefg", ".a", "_a", "aa"}
	want := []string{"...", ".a", "0", "9", "_", "_a", "a", "a.b", "a0", "a_b", "aa", "ab", "abcdefg", "abcdefgh", "b", "z"}
	all := entries{}
	for i, name := range names {
		all[i] = in(3, name, 1+i%2)
	}
	all[16], all[17], all[18] = in(3, "a", 2), in(3, "z", 1), in(3, "...", 1)
	all[19], all[20], all[21] = in(0, "other", 1), in(3, "free", 9), in(2, "c", 3)
	d := with(t, inodes{1: file, 2: folder, 3: folder}, all)
	if l := List(d, 3); !slices.Equal(l, want) {
		t.Errorf("List(3) = %q, want %q", l, want)
	}
	if l := List(d, 0); !slices.Equal(l, []string{"other"}) {
		t.Errorf("List(0) = %q", l)
	}
	if l := List(d, 2); !slices.Equal(l, []string{"c"}) {
		t.Errorf("List(2) = %q", l)
	}
	if l := List(with(t, nil, nil), 0); len(l) != 0 {
		t.Errorf("the empty disk has %q", l)
	}
}

// P903: a folder can be full: 24 names, or one of them by 24 entries.
func TestListOfAllEntries(t *testing.T) {
	different, same := entries{}, entries{}
	var want []string
	for k := range 24 {
		name := string([]byte{'z' - byte(k)})
		different[k], same[k] = in(0, name, 1), in(0, "a", 1)
		want = slices.Insert(want, 0, name)
	}
	if l := List(with(t, inodes{1: file}, different), 0); !slices.Equal(l, want) {
		t.Errorf("List = %q", l)
	}
	if l := List(with(t, inodes{1: file}, same), 0); !slices.Equal(l, []string{"a"}) {
		t.Errorf("List = %q", l)
	}
}

// tree is a disk with folders up to the greatest depth, an entry without its inode, a name that is there twice, and a folder that is in itself.
func tree(t *testing.T) *bdisk.Disk {
	t.Helper()
	return with(t, inodes{1: folder, 2: folder, 3: folder, 4: folder, 5: file, 6: file, 7: folder}, entries{
		0: in(0, "x", 9), 1: in(0, "x", 5), 2: in(0, "x", 1),
		3: in(0, "a", 1), 4: in(1, "b", 2), 5: in(2, "c", 3), 6: in(3, "d", 4), 7: in(3, "f", 6), 8: in(4, "e", 6),
		10: in(5, "y", 6), 11: in(0, "loop", 7), 12: in(7, "loop", 7), 13: in(0, "free", 8), 14: in(8, "y", 6),
	})
}

// P904: paths of all depths, and those that fail, with the number 0.
func TestLookup(t *testing.T) {
	d := tree(t)
	for _, c := range []struct {
		path string
		n    int
		e    api.Errno
	}{
		{"/", 0, api.OK}, {"/a", 1, api.OK}, {"/a/b", 2, api.OK}, {"/a/b/c", 3, api.OK}, {"/a/b/c/d", 4, api.OK}, {"/a/b/c/f", 6, api.OK}, {"/x", 5, api.OK},
		{"/loop", 7, api.OK}, {"/loop/loop/loop/loop", 7, api.OK},
		{"/b", 0, api.ErrNone}, {"/a/a", 0, api.ErrNone}, {"/a/b/d", 0, api.ErrNone}, {"/a/b/c/e", 0, api.ErrNone}, {"/b/a", 0, api.ErrNone}, {"/free", 0, api.ErrNone}, {"/free/y", 0, api.ErrNone}, {"/loop/x", 0, api.ErrNone},
		{"/x/y", 0, api.ErrKind}, {"/x/z", 0, api.ErrKind}, {"/x/y/z", 0, api.ErrKind}, {"/a/b/z/x", 0, api.ErrNone}, {"/x/b", 0, api.ErrKind},
		{"/a/b/c/d/e", 0, api.ErrName}, {"/x/y/z/A", 0, api.ErrName}, {"/b/", 0, api.ErrName}, {"", 0, api.ErrName}, {"a", 0, api.ErrName}, {"//", 0, api.ErrName}, {"/a/", 0, api.ErrName}, {"/a/..", 0, api.ErrName}, {"/A", 0, api.ErrName}, {"/abcdefghi", 0, api.ErrName}, {strings.Repeat("/a", 100000), 0, api.ErrName},
	} {
		if n, e := Lookup(d, c.path); n != c.n || e != c.e {
			t.Errorf("Lookup(%.40q) = %d, %d, want %d, %d", c.path, n, e, c.n, c.e)
		}
	}
}

// P904: inode 0 is where all paths begin, whatever it is.
func TestLookupFromWhatIsNoFolder(t *testing.T) {
	for _, root := range []api.Inode{{}, file} {
		d := with(t, inodes{0: root, 1: file}, entries{0: in(0, "a", 1)})
		for path, want := range map[string]api.Errno{"/": api.OK, "/a": api.ErrKind, "/b": api.ErrKind, "/a/b": api.ErrKind, "a": api.ErrName, "/A": api.ErrName} {
			if n, e := Lookup(d, path); n != 0 || e != want {
				t.Errorf("root %v: Lookup(%q) = %d, %d", root, path, n, e)
			}
		}
	}
}

// P905: what is read counts, Super, inode 0, and that there are 65 sectors.
func TestMounted(t *testing.T) {
	if !Mounted(from(t, layout.Empty())) || !Mounted(tree(t)) {
		t.Error("a disk is not mounted")
	}
	for sectors := 1; sectors < api.Sectors; sectors++ {
		if Mounted(from(t, layout.Empty()[:sectors])) {
			t.Errorf("a disk of %d sectors is mounted", sectors)
		}
	}
	zero, _ := bdisk.New(api.Sectors)
	if Mounted(zero) {
		t.Error("a disk of zeros is mounted")
	}
	for i := range api.Size {
		for _, at := range []int{api.Super, api.Inodes} {
			image := layout.Empty()
			image[at][i]++
			if Mounted(from(t, image)) {
				t.Errorf("byte %d of sector %d does not matter", i, at)
			}
		}
	}
	for at := 2; at < api.Sectors; at++ {
		image := layout.Empty()
		image[at] = api.Sector{9, 9, 31: 9}
		if !Mounted(from(t, image)) {
			t.Errorf("sector %d matters", at)
		}
	}
}

// P902 to P905: pending writes are read, and syncing them changes nothing.
func TestPendingWritesAreSeen(t *testing.T) {
	d, _ := bdisk.New(api.Sectors)
	image := imageWith(t, inodes{1: folder, 2: file}, entries{4: in(0, "a", 1), 5: in(1, "b", 2)})
	now := make(model, api.Sectors)
	tag := api.Tag{Kind: api.Meta}
	for at, s := range image {
		if e := d.Write(at, s, tag); e != api.OK {
			t.Fatal(e)
		}
		now[at] = s
		compare(t, "pending", d, now)
	}
	d.Write(api.Entries+5, api.Sector{}, tag)
	d.Write(api.Super, api.Sector{}, tag)
	now[api.Entries+5], now[api.Super] = api.Sector{}, api.Sector{}
	compare(t, "written again", d, now)
	d.Barrier()
	d.Sync(tag)
	compare(t, "synced", d, now)
}

// P902 to P905: the calls agree with the chapter's definitions on all kinds of images.
func TestAgreesWithDefinitions(t *testing.T) {
	next := story(9)
	for range 300 {
		image := someImage(next)
		compare(t, "some image", from(t, image), image)
	}
}

// P902 to P905: so they do on disks with fewer sectors, where those that do not exist are 0.
func TestShortDisks(t *testing.T) {
	next := story(65)
	for sectors := 1; sectors <= api.Sectors; sectors++ {
		for range 5 {
			image := someImage(next)[:sectors]
			compare(t, "a short image", from(t, image), image)
		}
	}
}

// P901: a nil disk, and one that was not created by bdisk, has no sectors; that is not an error, and the root directory is still there.
func TestNoDisk(t *testing.T) {
	for what, d := range wrongDisks(t) {
		compare(t, what, d, nil)
		for _, n := range numbers() {
			k, ok := Find(d, n, "a")
			if Inode(d, n) != (api.Inode{}) || Entry(d, n) != (api.Entry{}) || Taken(d, n) != (n == 0) || k != 0 || ok || len(List(d, n)) != 0 {
				t.Errorf("%s: something has the number %d", what, n)
			}
		}
		for path, want := range map[string]api.Errno{"/": api.OK, "/a": api.ErrKind, "/a/b": api.ErrKind, "": api.ErrName, "/a/": api.ErrName} {
			if n, e := Lookup(d, path); n != 0 || e != want {
				t.Errorf("%s: Lookup(%q) = %d, %d, want %d", what, path, n, e, want)
			}
		}
		if Mounted(d) {
			t.Errorf("%s is mounted", what)
		}
	}
}

// P906: List returns the names that Find finds, and no others.
func TestListIsWhatFindFinds(t *testing.T) {
	next := story(906)
	for range 100 {
		image := someImage(next)
		d := from(t, image)
		for n := range 16 {
			l := List(d, n)
			if !slices.IsSorted(l) || len(slices.Compact(slices.Clone(l))) != len(l) {
				t.Errorf("List(%d) = %q", n, l)
			}
			for k := range 24 {
				name := Entry(d, k).Name
				found, ok := Find(d, n, name)
				if ok != slices.Contains(l, name) {
					t.Errorf("List(%d) = %q, but Find of %q returns %v", n, l, name, ok)
				}
				if x := Entry(d, found); ok && (x.Name != name || x.Parent != n || !x.Used) {
					t.Errorf("Find(%d, %q) returns the entry %v", n, name, x)
				}
			}
			for _, name := range l {
				if _, ok := Find(d, n, name); !ok {
					t.Errorf("List(%d) has %q, which Find does not find", n, name)
				}
			}
		}
	}
}

// P906: Lookup of a path is Lookup of its parent, which must be a Folder, and one Find.
func TestLookupIsLookupOfParentAndFind(t *testing.T) {
	next := story(4)
	found := 0
	for range 100 {
		d := from(t, someImage(next))
		for _, path := range seenPaths() {
			parent, name, e := paths.Parent(path)
			if e != api.OK {
				continue
			}
			n, e := Lookup(d, parent)
			if e == api.OK && Inode(d, n).Kind != api.Folder {
				e = api.ErrKind
			}
			want := 0
			if e == api.OK {
				k, ok := Find(d, n, name)
				want = Entry(d, k).Target
				if !ok {
					want, e = 0, api.ErrNone
				}
			}
			if got, gotE := Lookup(d, path); got != want || gotE != e {
				t.Errorf("Lookup(%q) = %d, %d, want %d, %d", path, got, gotE, want, e)
			}
			if e == api.OK && strings.Count(path, "/") > 1 {
				found++
			}
		}
	}
	if found < 100 {
		t.Errorf("only %d paths in folders were found", found)
	}
}

// callAll makes all calls, with numbers and paths of all kinds.
func callAll(d *bdisk.Disk) {
	for _, n := range numbers() {
		Inode(d, n)
		Entry(d, n)
		Taken(d, n)
		Find(d, n, "a")
		List(d, n)
	}
	for _, path := range seenPaths() {
		Lookup(d, path)
	}
	Mounted(d)
}

// P901: nothing is changed, not even which operations of the disk will fail.
func TestNothingIsChanged(t *testing.T) {
	d := tree(t)
	tag := api.Tag{Kind: api.Dir}
	d.Write(api.Entries+20, sectorOfEntry(t, in(0, "new", 5)), tag)
	d.Barrier()
	d.Write(api.Entries+21, sectorOfEntry(t, in(0, "newer", 5)), tag)
	d.Fail(1)
	safe, waiting, log, epoch := d.Safe(), d.Waiting(), d.Log(), d.Epoch()
	var read []api.Sector
	for at := range safe {
		s, _ := d.Read(at)
		read = append(read, s)
	}
	callAll(d)
	if !slices.Equal(d.Safe(), safe) || !slices.Equal(d.Waiting(), waiting) || len(d.Log()) != len(log) || d.Epoch() != epoch {
		t.Error("the disk is another one")
	}
	for at, s := range read {
		if now, e := d.Read(at); now != s || e != api.OK {
			t.Errorf("sector %d is another one", at)
		}
	}
	if first, second := d.Barrier(), d.Barrier(); first != api.OK || second != api.ErrIO {
		t.Errorf("the operations return %d and %d", first, second)
	}
}

// P901: no operation of a disk that fails makes a call fail.
func TestFaultsDoNotMatter(t *testing.T) {
	image := imageWith(t, inodes{1: folder}, entries{2: in(0, "a", 1)})
	d := from(t, image)
	d.Fail(numbers()...)
	compare(t, "with faults", d, image)
}

// P901: a changed result changes neither the disk nor another result, not even behind its end.
func TestListIsNewEachTime(t *testing.T) {
	d := with(t, inodes{1: file}, entries{0: in(0, "b", 1), 1: in(0, "a", 1), 2: in(0, "b", 1)})
	first, second := List(d, 0), List(d, 0)
	all := first[:cap(first)]
	for i := range all {
		all[i] = "changed"
	}
	if third := List(d, 0); !slices.Equal(second, []string{"a", "b"}) || !slices.Equal(third, second) {
		t.Errorf("List shares its memory: %q, %q", second, third)
	}
}

// P901: the names in results share no memory with each other.
func TestNamesAreNewMemory(t *testing.T) {
	d := with(t, inodes{1: file}, entries{0: in(0, "abc", 1), 1: in(0, "abcd", 1)})
	texts := slices.Concat(List(d, 0), List(d, 0), []string{Entry(d, 0).Name, Entry(d, 0).Name, Entry(d, 1).Name})
	for i, a := range texts {
		for k, b := range texts[:i] {
			start, other := uintptr(unsafe.Pointer(unsafe.StringData(a))), uintptr(unsafe.Pointer(unsafe.StringData(b)))
			if start < other+uintptr(len(b)) && other < start+uintptr(len(a)) {
				t.Errorf("results %d and %d share memory", k, i)
			}
		}
	}
}

// P901: a result depends only on what the disk has, not on how it came there or what was asked before.
func TestCallsDependOnTheDiskOnly(t *testing.T) {
	next := story(1)
	for range 20 {
		image := someImage(next)
		d := from(t, image)
		callAll(d)
		compare(t, "asked before", d, image)
		compare(t, "a copy", d.Clone(), image)
		written, _ := bdisk.New(api.Sectors)
		for at := api.Sectors - 1; at >= 0; at-- {
			written.Write(at, image[at], api.Tag{})
		}
		compare(t, "written", written, image)
	}
}

// The example of the chapter.
func TestExample(t *testing.T) {
	d := from(t, layout.Empty())
	if n, e := Lookup(d, "/"); n != 0 || e != api.OK {
		t.Errorf("Lookup(/) = %d, %d", n, e)
	}
	if n, e := Lookup(d, "/a"); n != 0 || e != api.ErrNone {
		t.Errorf("Lookup(/a) = %d, %d", n, e)
	}
}
