package layout

import (
	"math"
	"slices"
	"strconv"
	"strings"
	"testing"

	"flotsam/api"
	"flotsam/sector"
)

// blocks are the blocks of an inode.
type blocks = [4]int

// numbers are ints around every place where a rule of the chapter changes, those that are small numbers as bytes, and the ends of int.
func numbers() []int {
	l := []int{math.MinInt, math.MinInt + 1, -1 << 32, -256, -255, -128, -33, -32, -31, -1, math.MaxInt, math.MaxInt - 1, math.MaxInt - 31}
	for n := range 140 {
		l = append(l, n)
	}
	for _, n := range []int{256, 512, 1 << 16, 1 << 32, 1 << 62} {
		l = append(l, n-1, n, n+1, n+2, n+3, n+15, n+24, n+32, n+33)
	}
	return l
}

// rightInodes are valid inodes of all kinds, with sizes next to each change of the number of blocks.
func rightInodes() []api.Inode {
	return []api.Inode{
		{},
		{Kind: api.Folder},
		{Kind: api.File},
		{Kind: api.File, Size: 1, Blocks: blocks{1}},
		{Kind: api.File, Size: 31, Blocks: blocks{24}},
		{Kind: api.File, Size: 32, Blocks: blocks{12}},
		{Kind: api.File, Size: 33, Blocks: blocks{9, 24}},
		{Kind: api.File, Size: 63, Blocks: blocks{24, 1}},
		{Kind: api.File, Size: 64, Blocks: blocks{2, 1}},
		{Kind: api.File, Size: 65, Blocks: blocks{3, 1, 2}},
		{Kind: api.File, Size: 96, Blocks: blocks{22, 23, 24}},
		{Kind: api.File, Size: 97, Blocks: blocks{4, 3, 2, 1}},
		{Kind: api.File, Size: 127, Blocks: blocks{1, 24, 2, 23}},
		{Kind: api.File, Size: 128, Blocks: blocks{21, 22, 23, 24}},
	}
}

// wrongInodes are inodes that break one rule each.
func wrongInodes() []api.Inode {
	return []api.Inode{
		// Kinds that there are not, some of them a kind as a byte.
		{Kind: -1},
		{Kind: 3},
		{Kind: 255},
		{Kind: 256},
		{Kind: 257},
		{Kind: 258},
		{Kind: 3, Size: 33, Blocks: blocks{9, 24}},
		{Kind: math.MaxInt},
		{Kind: math.MinInt},
		// Another field of a Free one, or of a Folder.
		{Size: 1},
		{Size: 32, Blocks: blocks{1}},
		{Size: -1},
		{Size: 256},
		{Blocks: blocks{1}},
		{Blocks: blocks{0, 0, 0, 1}},
		{Kind: api.Folder, Size: 1},
		{Kind: api.Folder, Size: 1, Blocks: blocks{1}},
		{Kind: api.Folder, Size: -1},
		{Kind: api.Folder, Size: 256},
		{Kind: api.Folder, Blocks: blocks{1}},
		{Kind: api.Folder, Blocks: blocks{0, 0, 0, 256}},
		// Sizes that no file has.
		{Kind: api.File, Size: -1},
		{Kind: api.File, Size: -1, Blocks: blocks{1}},
		{Kind: api.File, Size: -31},
		{Kind: api.File, Size: -32},
		{Kind: api.File, Size: -33},
		{Kind: api.File, Size: -256},
		{Kind: api.File, Size: 129, Blocks: blocks{1, 2, 3, 4}},
		{Kind: api.File, Size: 160, Blocks: blocks{1, 2, 3, 4}},
		{Kind: api.File, Size: 255, Blocks: blocks{1, 2, 3, 4}},
		{Kind: api.File, Size: 256},
		{Kind: api.File, Size: 257, Blocks: blocks{1}},
		{Kind: api.File, Size: 256 + 33, Blocks: blocks{9, 24}},
		{Kind: api.File, Size: math.MaxInt, Blocks: blocks{1, 2, 3, 4}},
		{Kind: api.File, Size: math.MaxInt},
		{Kind: api.File, Size: math.MinInt},
		// Fewer blocks than the size requires.
		{Kind: api.File, Size: 1},
		{Kind: api.File, Size: 32},
		{Kind: api.File, Size: 33, Blocks: blocks{9}},
		{Kind: api.File, Size: 65, Blocks: blocks{9, 8}},
		{Kind: api.File, Size: 97, Blocks: blocks{9, 8, 7}},
		{Kind: api.File, Size: 128, Blocks: blocks{9, 8, 7}},
		// More blocks than the size requires.
		{Kind: api.File, Blocks: blocks{1}},
		{Kind: api.File, Blocks: blocks{0, 0, 0, 1}},
		{Kind: api.File, Blocks: blocks{-1}},
		{Kind: api.File, Blocks: blocks{256}},
		{Kind: api.File, Size: 32, Blocks: blocks{9, 1}},
		{Kind: api.File, Size: 64, Blocks: blocks{9, 8, 7}},
		{Kind: api.File, Size: 96, Blocks: blocks{9, 8, 7, 6}},
		{Kind: api.File, Size: 96, Blocks: blocks{9, 8, 7, 256}},
		// As many as it requires, but not the first ones.
		{Kind: api.File, Size: 32, Blocks: blocks{0, 9}},
		{Kind: api.File, Size: 64, Blocks: blocks{9, 0, 8}},
		{Kind: api.File, Size: 96, Blocks: blocks{9, 8, 0, 7}},
		// The same block twice.
		{Kind: api.File, Size: 33, Blocks: blocks{9, 9}},
		{Kind: api.File, Size: 96, Blocks: blocks{9, 8, 9}},
		{Kind: api.File, Size: 128, Blocks: blocks{9, 8, 7, 9}},
		{Kind: api.File, Size: 128, Blocks: blocks{9, 8, 7, 8}},
		{Kind: api.File, Size: 128, Blocks: blocks{9, 8, 7, 7}},
		{Kind: api.File, Size: 128, Blocks: blocks{5, 5, 5, 5}},
		// Blocks that a disk does not have.
		{Kind: api.File, Size: 1, Blocks: blocks{25}},
		{Kind: api.File, Size: 1, Blocks: blocks{65}},
		{Kind: api.File, Size: 1, Blocks: blocks{-1}},
		{Kind: api.File, Size: 1, Blocks: blocks{256}},
		{Kind: api.File, Size: 1, Blocks: blocks{257}},
		{Kind: api.File, Size: 33, Blocks: blocks{9, 25}},
		{Kind: api.File, Size: 128, Blocks: blocks{1, 2, 3, 25}},
		{Kind: api.File, Size: 128, Blocks: blocks{1, 2, 3, math.MaxInt}},
		{Kind: api.File, Size: 128, Blocks: blocks{math.MinInt, 2, 3, 4}},
	}
}

// rightEntries are valid entries: unused, and used ones with the least and the greatest of everything.
func rightEntries() []api.Entry {
	return []api.Entry{
		{},
		{Used: true, Name: "b", Target: 3},
		{Used: true, Name: "b", Target: 1},
		{Used: true, Parent: 15, Name: "old", Target: 15},
		{Used: true, Parent: 1, Name: "fresh", Target: 2},
		{Used: true, Parent: 7, Name: "7", Target: 7},
		{Used: true, Parent: 2, Name: "a.b_c.09", Target: 14},
		{Used: true, Parent: 2, Name: "_", Target: 1},
		{Used: true, Parent: 2, Name: "...", Target: 1},
		{Used: true, Parent: 2, Name: "zzzzzzzz", Target: 1},
	}
}

// wrongEntries are entries that break one rule each.
func wrongEntries() []api.Entry {
	return []api.Entry{
		// Another field of one that is not used.
		{Parent: 1},
		{Parent: -1},
		{Parent: 256},
		{Target: 1},
		{Target: 256},
		{Name: "a"},
		{Name: "A"},
		{Name: "\x00"},
		{Parent: 2, Name: "old", Target: 3},
		// Folders and targets that a disk does not have, some of them one as a byte.
		{Used: true, Parent: -1, Name: "a", Target: 1},
		{Used: true, Parent: 16, Name: "a", Target: 1},
		{Used: true, Parent: 255, Name: "a", Target: 1},
		{Used: true, Parent: 256, Name: "a", Target: 1},
		{Used: true, Parent: math.MaxInt, Name: "a", Target: 1},
		{Used: true, Parent: math.MinInt, Name: "a", Target: 1},
		{Used: true, Name: "a", Target: -1},
		{Used: true, Name: "a", Target: 16},
		{Used: true, Name: "a", Target: 256},
		{Used: true, Name: "a", Target: 257},
		{Used: true, Name: "a", Target: math.MaxInt},
		{Used: true, Name: "a", Target: math.MinInt},
		// The root directory is no target.
		{Used: true, Name: "a"},
		{Used: true, Parent: 3, Name: "a"},
		// Names that are none.
		{Used: true, Target: 1},
		{Used: true, Parent: 2, Name: ".", Target: 3},
		{Used: true, Parent: 2, Name: "..", Target: 3},
		{Used: true, Parent: 2, Name: "a/b", Target: 3},
		{Used: true, Parent: 2, Name: "/", Target: 3},
		{Used: true, Parent: 2, Name: "a\x00", Target: 3},
		{Used: true, Parent: 2, Name: "aaaaaaaaa", Target: 3},
		{Used: true, Parent: 2, Name: strings.Repeat("a", 256+1), Target: 3},
		{Used: true, Parent: 2, Name: strings.Repeat("a", 100000), Target: 3},
	}
}

// P702: what is a name.
func TestName(t *testing.T) {
	for _, s := range []string{
		"a", "z", "m", "0", "9", "5", "_", "b1", "1b", "old", "a.b", ".a", "a.", "a..", "..a", "...", "........", "._", "_.", "__", "abcdefgh", "ijklmnop", "qrstuvwx", "yz012345", "6789._a.",
	} {
		if !Name(s) {
			t.Errorf("%q is no name", s)
		}
	}
	for _, s := range []string{
		"", ".", "..", "abcdefghi", ".........", strings.Repeat("a", 100000), "A", "Z", "aB", "a b", " ", " a", "a ", "/", "/a", "a/", "a/b", "a-b", "-", "a\n", "\x00", "a\x00", "\xff", "a\x80", "ä", "aé", "ａ", "１",
	} {
		if Name(s) {
			t.Errorf("%q is a name", s)
		}
	}
}

// P702: which bytes a name has, wherever they are in it.
func TestNameSeesEveryByte(t *testing.T) {
	const allowed = "abcdefghijklmnopqrstuvwxyz0123456789._"
	for at := range 8 {
		for b := range 256 {
			text := []byte("abcdefgh")
			text[at] = byte(b)
			if got := Name(string(text)); got != (strings.IndexByte(allowed, byte(b)) >= 0) {
				t.Errorf("Name(%q) = %v", text, got)
			}
		}
	}
}

// P702: a name has 1 to 8 characters.
func TestNameLength(t *testing.T) {
	for n := range 600 {
		if got := Name(strings.Repeat("x", n)); got != (n >= 1 && n <= 8) {
			t.Errorf("Name of %d characters = %v", n, got)
		}
	}
}

// P701, P702: which inodes are valid; of the others there is no sector.
func TestRightInode(t *testing.T) {
	for _, x := range rightInodes() {
		if _, ok := Inode(x); !ok || !RightInode(x) {
			t.Errorf("%v is not valid", x)
		}
	}
	for _, x := range wrongInodes() {
		if s, ok := Inode(x); s != (api.Sector{}) || ok || RightInode(x) {
			t.Errorf("%v is valid, with the sector %v, %v", x, s, ok)
		}
	}
}

// P702: the number of blocks that each size requires.
func TestSizeAndBlocks(t *testing.T) {
	for _, size := range numbers() {
		for count := range 5 {
			var b blocks
			copy(b[:count], []int{7, 24, 1, 9})
			x := api.Inode{Kind: api.File, Size: size, Blocks: b}
			want := size >= 0 && size <= 128 && size <= 32*count && size > 32*(count-1)
			if got := RightInode(x); got != want {
				t.Errorf("a file of %d bytes with %d blocks: %v", size, count, got)
			}
		}
	}
}

// P702: each number of a block, at each place that a file has for one.
func TestBlockNumbers(t *testing.T) {
	for at := range 4 {
		for _, n := range numbers() {
			b := blocks{2, 3, 4, 5}
			b[at] = n
			other := slices.Concat(b[:at], b[at+1:])
			want := n >= 1 && n <= 24 && !slices.Contains(other, n)
			if got := RightInode(api.Inode{Kind: api.File, Size: 128, Blocks: b}); got != want {
				t.Errorf("a file with the blocks %v: %v", b, got)
			}
			// A Folder has none.
			var alone blocks
			alone[at] = n
			if got := RightInode(api.Inode{Kind: api.Folder, Blocks: alone}); got != (n == 0) {
				t.Errorf("a folder with the blocks %v: %v", alone, got)
			}
		}
	}
}

// P702: each kind, without other fields.
func TestKinds(t *testing.T) {
	for _, kind := range numbers() {
		if got := RightInode(api.Inode{Kind: kind}); got != (kind >= 0 && kind <= 2) {
			t.Errorf("an inode of the kind %d: %v", kind, got)
		}
	}
}

// P702: where the fields of an inode are in its sector.
func TestInode(t *testing.T) {
	for _, c := range []struct {
		x    api.Inode
		want api.Sector
	}{
		{api.Inode{}, api.Sector{}},
		{api.Inode{Kind: api.File}, api.Sector{1}},
		{api.Inode{Kind: api.Folder}, api.Sector{2}},
		{api.Inode{Kind: api.File, Size: 33, Blocks: blocks{9, 24}}, api.Sector{1, 33, 9, 24}},
		{api.Inode{Kind: api.File, Size: 128, Blocks: blocks{4, 3, 2, 1}}, api.Sector{1, 128, 4, 3, 2, 1}},
	} {
		if s, ok := Inode(c.x); s != c.want || !ok {
			t.Errorf("Inode(%v) = %v, %v", c.x, s, ok)
		}
		if x, ok := InodeOf(c.want); x != c.x || !ok {
			t.Errorf("InodeOf(%v) = %v, %v", c.want, x, ok)
		}
	}
}

// P701, P702: sectors that no valid inode has, with a zero inode.
func TestInodeOfRefuses(t *testing.T) {
	for _, s := range []api.Sector{
		{3},
		{255},
		{0, 1},
		{0, 0, 1},
		{2, 1},
		{2, 0, 0, 0, 0, 1},
		{1, 1},
		{1, 0, 1},
		{1, 33, 9},
		{1, 33, 9, 9},
		{1, 33, 9, 25},
		{1, 33, 9, 0, 24},
		{1, 33, 9, 24, 1},
		{1, 129, 1, 2, 3, 4},
		{1, 255, 1, 2, 3, 4},
		{1, 128, 1, 2, 3, 4, 5},
		{1, 33, 9, 24, 31: 1},
		{31: 1},
		{2, 31: 1},
		{'F', 'L', 'O', 'T'},
	} {
		if x, ok := InodeOf(s); x != (api.Inode{}) || ok {
			t.Errorf("InodeOf(%v) = %v, %v", s, x, ok)
		}
	}
}

// P702, P704: with one byte changed, a sector is that of a valid inode or of none, as its bytes 0 to 5 say, and no other byte may be there.
func TestInodeOfSeesEveryByte(t *testing.T) {
	for _, right := range rightInodes() {
		complete, _ := Inode(right)
		for at := range 32 {
			for b := range 256 {
				s := complete
				s[at] = byte(b)
				told := api.Inode{Kind: int(s[0]), Size: int(s[1]), Blocks: blocks{int(s[2]), int(s[3]), int(s[4]), int(s[5])}}
				want := RightInode(told) && (at < 6 || b == 0)
				if !want {
					told = api.Inode{}
				}
				if x, ok := InodeOf(s); x != told || ok != want {
					t.Errorf("InodeOf(%v) = %v, %v", s, x, ok)
				}
			}
		}
	}
}

// P704: InodeOf inverts Inode for all kinds and sizes.
func TestInodeOfInvertsInode(t *testing.T) {
	inodes := rightInodes()
	for size := range 129 {
		b := blocks{size%24 + 1, (size+5)%24 + 1, (size+11)%24 + 1, (size+17)%24 + 1}
		clear(b[(size+31)/32:])
		inodes = append(inodes, api.Inode{Kind: api.File, Size: size, Blocks: b})
	}
	for _, x := range inodes {
		s, ok := Inode(x)
		if !ok {
			t.Errorf("there is no sector of %v", x)
		}
		if y, ok := InodeOf(s); y != x || !ok {
			t.Errorf("InodeOf(%v) = %v, %v, want %v", s, y, ok, x)
		}
	}
}

// P704: the sector of an inode that is torn over another one is complete.
func TestTornInode(t *testing.T) {
	for _, old := range rightInodes() {
		for _, fresh := range rightInodes() {
			a, _ := Inode(old)
			b, _ := Inode(fresh)
			if x, ok := InodeOf(sector.Torn(a, b)); x != fresh || !ok {
				t.Errorf("%v torn over %v is %v, %v", fresh, old, x, ok)
			}
		}
	}
}

// P701, P702: which entries are valid; of the others there is no sector.
func TestRightEntry(t *testing.T) {
	for _, x := range rightEntries() {
		if _, ok := Entry(x); !ok || !RightEntry(x) {
			t.Errorf("%v is not valid", x)
		}
	}
	for _, x := range wrongEntries() {
		if s, ok := Entry(x); s != (api.Sector{}) || ok || RightEntry(x) {
			t.Errorf("%.60v is valid, with the sector %v, %v", x, s, ok)
		}
	}
}

// P702: each number of a folder and of a target.
func TestEntryNumbers(t *testing.T) {
	for _, n := range numbers() {
		if got := RightEntry(api.Entry{Used: true, Parent: n, Name: "a", Target: 1}); got != (n >= 0 && n <= 15) {
			t.Errorf("an entry of the folder %d: %v", n, got)
		}
		if got := RightEntry(api.Entry{Used: true, Name: "a", Target: n}); got != (n >= 1 && n <= 15) {
			t.Errorf("an entry of the target %d: %v", n, got)
		}
		if got := RightEntry(api.Entry{Parent: n}); got != (n == 0) {
			t.Errorf("an unused entry of the folder %d: %v", n, got)
		}
		if got := RightEntry(api.Entry{Target: n}); got != (n == 0) {
			t.Errorf("an unused entry of the target %d: %v", n, got)
		}
	}
}

// P702: where the fields of an entry are in its sector; the first used one is the chapter's example.
func TestEntry(t *testing.T) {
	for _, c := range []struct {
		x    api.Entry
		want api.Sector
	}{
		{api.Entry{}, api.Sector{}},
		{api.Entry{Used: true, Parent: 0, Name: "b", Target: 3}, api.Sector{1, 0, 3, 1, 16: 'b'}},
		{api.Entry{Used: true, Parent: 15, Name: "old", Target: 2}, api.Sector{1, 15, 2, 3, 16: 'o', 'l', 'd'}},
		{api.Entry{Used: true, Parent: 2, Name: "a.b_c.09", Target: 14}, api.Sector{1, 2, 14, 8, 16: 'a', '.', 'b', '_', 'c', '.', '0', '9'}},
	} {
		if s, ok := Entry(c.x); s != c.want || !ok {
			t.Errorf("Entry(%v) = %v, %v", c.x, s, ok)
		}
		if x, ok := EntryOf(c.want); x != c.x || !ok {
			t.Errorf("EntryOf(%v) = %v, %v", c.want, x, ok)
		}
	}
}

// P701, P702: sectors that no valid entry has, with a zero entry.
func TestEntryOfRefuses(t *testing.T) {
	for _, s := range []api.Sector{
		// Neither used nor all 0.
		{2, 0, 3, 1, 16: 'b'},
		{255, 0, 3, 1, 16: 'b'},
		{0, 0, 3, 1, 16: 'b'},
		{0, 1},
		{0, 0, 1},
		{0, 0, 0, 1},
		{16: 'b'},
		{31: 1},
		{2},
		// Used, but incomplete.
		{1},
		{1, 0, 3},
		{1, 0, 3, 1},
		{1, 0, 3, 0, 16: 'b'},
		{1, 0, 0, 1, 16: 'b'},
		{1, 16, 3, 1, 16: 'b'},
		{1, 0, 16, 1, 16: 'b'},
		// A length that is not that of the name, or that no name has.
		{1, 0, 3, 1, 16: 'b', 'c'},
		{1, 0, 3, 2, 16: 'b'},
		{1, 0, 3, 9, 16: 'a', 'b', 'c', 'd', 'e', 'f', 'g', 'h', 'i'},
		{1, 0, 3, 16, 16: 'b'},
		{1, 0, 3, 17, 16: 'b'},
		{1, 0, 3, 255, 16: 'b'},
		// Names that are none.
		{1, 0, 3, 1, 16: '.'},
		{1, 0, 3, 2, 16: '.', '.'},
		{1, 0, 3, 1, 16: 'B'},
		{1, 0, 3, 3, 16: 'a', '/', 'b'},
		// The name is elsewhere, or something more is there.
		{1, 0, 3, 1, 'b'},
		{1, 0, 3, 1, 'b', 16: 'b'},
		{1, 0, 3, 1, 15: 1, 16: 'b'},
		{1, 0, 3, 1, 16: 'b', 31: 1},
	} {
		if x, ok := EntryOf(s); x != (api.Entry{}) || ok {
			t.Errorf("EntryOf(%v) = %v, %v", s, x, ok)
		}
	}
}

// P702, P704: with one byte changed, a sector is that of a valid entry or of none, as its bytes say, and no other byte may be there.
func TestEntryOfSeesEveryByte(t *testing.T) {
	for _, right := range rightEntries() {
		complete, _ := Entry(right)
		for at := range 32 {
			for b := range 256 {
				s := complete
				s[at] = byte(b)
				told, want := entryByHand(s)
				if x, ok := EntryOf(s); x != told || ok != want {
					t.Errorf("EntryOf(%v) = %v, %v", s, x, ok)
				}
			}
		}
	}
}

// entryByHand reads a sector as the chapter defines it, byte by byte.
func entryByHand(s api.Sector) (api.Entry, bool) {
	if s == (api.Sector{}) {
		return api.Entry{}, true
	}
	length := int(s[3])
	if s[0] != 1 || s[1] > 15 || s[2] < 1 || s[2] > 15 || length < 1 || length > 8 {
		return api.Entry{}, false
	}
	name := string(s[16 : 16+length])
	if !Name(name) {
		return api.Entry{}, false
	}
	for i, b := range s {
		if b != 0 && i >= 4 && (i < 16 || i >= 16+length) {
			return api.Entry{}, false
		}
	}
	return api.Entry{Used: true, Parent: int(s[1]), Name: name, Target: int(s[2])}, true
}

// P704: EntryOf inverts Entry for all folders, targets and lengths of names.
func TestEntryOfInvertsEntry(t *testing.T) {
	entries := rightEntries()
	for parent := range 16 {
		for target := 1; target < 16; target++ {
			for length := 1; length <= 8; length++ {
				entries = append(entries, api.Entry{Used: true, Parent: parent, Name: "za09_.yb"[8-length:], Target: target})
			}
		}
	}
	for _, x := range entries {
		s, ok := Entry(x)
		if !ok {
			t.Errorf("there is no sector of %v", x)
		}
		if y, ok := EntryOf(s); y != x || !ok {
			t.Errorf("EntryOf(%v) = %v, %v, want %v", s, y, ok, x)
		}
	}
}

// P704: the sector of an entry that is torn over another one is accepted only if it is exactly that of an entry.
func TestTornEntry(t *testing.T) {
	used := func(parent int, name string, target int) api.Entry {
		return api.Entry{Used: true, Parent: parent, Name: name, Target: target}
	}
	for _, c := range []struct {
		old, fresh, want api.Entry
		ok               bool
	}{
		{used(2, "old", 3), used(2, "fresh", 3), api.Entry{}, false},
		{used(2, "fresh", 3), used(2, "old", 3), api.Entry{}, false},
		{api.Entry{}, used(2, "old", 3), api.Entry{}, false},
		{used(2, "old", 3), api.Entry{}, api.Entry{}, false},
		{api.Entry{}, api.Entry{}, api.Entry{}, true},
		{used(2, "old", 3), used(4, "old", 5), used(4, "old", 5), true},
		// The name is in the second half, so a name of the same length is the old one.
		{used(2, "old", 3), used(4, "new", 5), used(4, "old", 5), true},
	} {
		a, _ := Entry(c.old)
		b, _ := Entry(c.fresh)
		if x, ok := EntryOf(sector.Torn(a, b)); x != c.want || ok != c.ok {
			t.Errorf("%v torn over %v is %v, %v", c.fresh, c.old, x, ok)
		}
	}
}

// P703: Empty has 65 sectors, all of them 0 but the letters and the root directory.
func TestEmpty(t *testing.T) {
	image := Empty()
	if len(image) != 65 {
		t.Fatalf("Empty has %d sectors", len(image))
	}
	for i, s := range image {
		var want api.Sector
		switch i {
		case 0:
			want = api.Sector{'F', 'L', 'O', 'T'}
		case 1:
			want = api.Sector{2}
		}
		if s != want {
			t.Errorf("sector %d of Empty is %v", i, s)
		}
	}
	if !Mounts(image) {
		t.Error("Empty does not mount")
	}
	for i := range 16 {
		x, ok := InodeOf(image[api.Inodes+i])
		if x.Kind != 0 && i != 0 || i == 0 && x != (api.Inode{Kind: api.Folder}) || !ok {
			t.Errorf("inode %d of Empty is %v, %v", i, x, ok)
		}
	}
	for k := range 24 {
		if x, ok := EntryOf(image[api.Entries+k]); x != (api.Entry{}) || !ok {
			t.Errorf("entry %d of Empty is %v, %v", k, x, ok)
		}
	}
}

// P703: the number of sectors of an image.
func TestMountsCountsSectors(t *testing.T) {
	for n := range 140 {
		image := append(Empty(), make([]api.Sector, 140)...)[:n]
		if got := Mounts(image); got != (n == 65) {
			t.Errorf("Mounts of %d sectors = %v", n, got)
		}
	}
	for _, image := range [][]api.Sector{nil, {}, Empty()[1:], make([]api.Sector, 65), make([]api.Sector, 100000)} {
		if Mounts(image) {
			t.Errorf("Mounts of %d other sectors", len(image))
		}
	}
}

// P703: Mounts sees every byte of Super and of inode 0, and no other one.
func TestMountsSeesEveryByte(t *testing.T) {
	for at := range 65 {
		for i := range 32 {
			for b := range 256 {
				image := Empty()
				unlike := image[at][i] != byte(b)
				image[at][i] = byte(b)
				if got := Mounts(image); got != (at > 1 || !unlike) {
					t.Errorf("Mounts with %d at byte %d of sector %d = %v", b, i, at, got)
				}
			}
		}
	}
}

// P703: inode 0 is a Folder, not any other inode; the other ones can be anything.
func TestMountsSeesTheRoot(t *testing.T) {
	for _, x := range rightInodes() {
		image := Empty()
		image[1], _ = Inode(x)
		if got := Mounts(image); got != (x.Kind == api.Folder) {
			t.Errorf("Mounts with %v as inode 0 = %v", x, got)
		}
		image = Empty()
		for i := 2; i < 65; i++ {
			image[i], _ = Inode(x)
		}
		if !Mounts(image) {
			t.Errorf("the image does not mount with %v at all other places", x)
		}
	}
}

// P701: an image is not changed, nor the capacity behind it.
func TestMountsChangesNothing(t *testing.T) {
	memory := append(Empty(), make([]api.Sector, 10)...)
	before := slices.Clone(memory)
	for n := range len(memory) + 1 {
		Mounts(memory[:n])
	}
	if !slices.Equal(memory, before) {
		t.Error("Mounts changes sectors")
	}
}

// P701: two results of Empty share no memory, not even the capacity behind them.
func TestEmptyIsNewMemory(t *testing.T) {
	first := Empty()
	all := first[:cap(first)]
	for i := range all {
		for at := range all[i] {
			all[i][at] = 99
		}
	}
	if second := Empty(); !Mounts(second) || second[64] != (api.Sector{}) {
		t.Error("Empty returns what a result was changed to")
	}
}

// P701: a call's result depends on nothing but its arguments.
func TestCallsArePure(t *testing.T) {
	var first []string
	for round := range 2 {
		told := tellAll()
		if round == 0 {
			first = told
			continue
		}
		if !slices.Equal(told, first) {
			t.Error("the same calls return other results")
		}
	}
}

// tellAll are the results of many calls, as texts.
func tellAll() []string {
	var told []string
	tell := func(s api.Sector, ok bool) {
		told = append(told, string(s[:])+strconv.FormatBool(ok))
	}
	for _, x := range append(rightInodes(), wrongInodes()...) {
		s, ok := Inode(x)
		tell(s, ok)
		y, ok := InodeOf(s)
		tell(api.Sector{}, ok && RightInode(x) && x == y)
	}
	for _, x := range append(rightEntries(), wrongEntries()...) {
		s, ok := Entry(x)
		tell(s, ok)
		y, ok := EntryOf(s)
		tell(api.Sector{}, ok && RightEntry(x) && x == y && Name(x.Name))
	}
	for _, s := range Empty() {
		tell(s, Mounts(Empty()))
	}
	return told
}
