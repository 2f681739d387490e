package alloc

import (
	"math"
	"slices"
	"testing"

	"flotsam/api"
	"flotsam/bdisk"
	"flotsam/layout"
)

// inodes and entries are what a disk has at these numbers; it has nothing at the others.
type (
	inodes  map[int]api.Inode
	entries map[int]api.Entry
)

// folder is the inode of a folder.
var folder = api.Inode{Kind: api.Folder}

// file is the inode of a file that has these blocks completely.
func file(blocks ...int) api.Inode {
	x := api.Inode{Kind: api.File, Size: 32 * len(blocks)}
	copy(x.Blocks[:], blocks)
	return x
}

// in is the entry of a name in a folder.
func in(parent int, name string, target int) api.Entry {
	return api.Entry{Used: true, Parent: parent, Name: name, Target: target}
}

// imageWith is the image Empty with these inodes and entries.
func imageWith(t *testing.T, i inodes, e entries) []api.Sector {
	t.Helper()
	image := layout.Empty()
	for n, x := range i {
		s, ok := layout.Inode(x)
		if !ok {
			t.Fatalf("%v is not an inode", x)
		}
		image[1+n] = s
	}
	for k, x := range e {
		s, ok := layout.Entry(x)
		if !ok {
			t.Fatalf("%v is not an entry", x)
		}
		image[17+k] = s
	}
	return image
}

// from is the disk with an image.
func from(t *testing.T, image []api.Sector) *bdisk.Disk {
	t.Helper()
	d, e := bdisk.From(image)
	if e != api.OK {
		t.Fatalf("no disk with %d sectors: %d", len(image), e)
	}
	return d
}

// with is the disk with the image Empty and these inodes and entries.
func with(t *testing.T, i inodes, e entries) *bdisk.Disk {
	t.Helper()
	return from(t, imageWith(t, i, e))
}

// wrongDisks are disks that no constructor has returned.
func wrongDisks(t *testing.T) map[string]*bdisk.Disk {
	t.Helper()
	copied := *with(t, inodes{1: file(1)}, entries{0: in(0, "a", 1)})
	return map[string]*bdisk.Disk{"nil": nil, "zero": {}, "a copy": &copied}
}

// upTo is the numbers from low to high.
func upTo(low, high int) []int {
	var l []int
	for n := low; n <= high; n++ {
		l = append(l, n)
	}
	return l
}

// without is l without the numbers in use.
func without(l, used []int) []int {
	return slices.DeleteFunc(slices.Clone(l), func(n int) bool { return slices.Contains(used, n) })
}

// needs are the numbers of blocks that are asked for: some above 24, and the ends of int.
func needs() []int {
	return append(upTo(-30, 70), math.MinInt, math.MinInt+1, -1<<32, -1<<31, -256, 255, 256, 1<<31, 1<<32, 1<<32+1, 1<<62, math.MaxInt-1, math.MaxInt)
}

// The model: the chapter's definitions, for an image that has what Read returns. A number can be in a list several times.
type model []api.Sector

func (m model) sector(at int) api.Sector {
	if at >= len(m) {
		return api.Sector{}
	}
	return m[at]
}

func (m model) usedEntries() []int {
	var l []int
	for k := range 24 {
		if x, _ := layout.EntryOf(m.sector(17 + k)); x.Used {
			l = append(l, k)
		}
	}
	return l
}

func (m model) takenInodes() []int {
	l := []int{0}
	for _, k := range m.usedEntries() {
		x, _ := layout.EntryOf(m.sector(17 + k))
		l = append(l, x.Target)
	}
	return l
}

func (m model) filledBlocks() []int {
	var l []int
	for _, n := range m.takenInodes() {
		if x, _ := layout.InodeOf(m.sector(1 + n)); x.Kind == api.File {
			l = append(l, x.Blocks[:(x.Size+31)/32]...)
		}
	}
	return l
}

// lowest is the first of l, or 0 and false.
func lowest(l []int) (int, bool) {
	if len(l) == 0 {
		return 0, false
	}
	return l[0], true
}

// compare compares all calls with what is in use.
func compare(t *testing.T, what string, d *bdisk.Disk, usedInodes, usedEntries, usedBlocks []int) {
	t.Helper()
	freeInodes, freeEntries, freeBlocks := without(upTo(0, 15), usedInodes), without(upTo(0, 23), usedEntries), without(upTo(1, 24), usedBlocks)
	wantN, wantOk := lowest(freeInodes)
	if n, ok := Inode(d); n != wantN || ok != wantOk {
		t.Errorf("%s: Inode = %d, %v, want %d, %v", what, n, ok, wantN, wantOk)
	}
	wantK, wantOk := lowest(freeEntries)
	if k, ok := Slot(d); k != wantK || ok != wantOk {
		t.Errorf("%s: Slot = %d, %v, want %d, %v", what, k, ok, wantK, wantOk)
	}
	for _, n := range needs() {
		var want []int
		possible := n >= 0 && n <= len(freeBlocks)
		if possible {
			want = freeBlocks[:n]
		}
		if l, ok := Blocks(d, n); !slices.Equal(l, want) || ok != possible {
			t.Errorf("%s: Blocks(%d) = %v, %v, want %v, %v", what, n, l, ok, want, possible)
		}
	}
	a, b, c := Count(d)
	if wantA, wantB, wantC := 16-len(freeInodes), 24-len(freeEntries), 24-len(freeBlocks); a != wantA || b != wantB || c != wantC {
		t.Errorf("%s: Count = %d, %d, %d, want %d, %d, %d", what, a, b, c, wantA, wantB, wantC)
	}
}

// compareImage compares all calls with the model of an image.
func compareImage(t *testing.T, what string, d *bdisk.Disk, m model) {
	t.Helper()
	compare(t, what, d, m.takenInodes(), m.usedEntries(), m.filledBlocks())
}

// story is a source of numbers from 0 to n - 1, the same ones for the same seed.
func story(seed uint64) func(n int) int {
	return func(n int) int {
		seed = seed*6364136223846793005 + 1442695040888963407
		return int(seed>>33) % n
	}
}

// someInode is a sector where an inode is looked for: mostly a file's, sometimes a folder's or none's.
func someInode(next func(int) int) api.Sector {
	switch next(8) {
	case 0:
		return api.Sector{}
	case 1:
		return api.Sector{byte(next(5)), byte(next(140)), byte(next(26)), byte(next(26))}
	case 2:
		return api.Sector{api.Folder}
	case 3:
		return api.Sector{api.Folder, 32, byte(1 + next(24))}
	}
	b := next(20)
	s, _ := layout.Inode(file(upTo(b+1, b+next(5))...))
	return s
}

// someEntry is a sector where an entry is looked for: as many of them are one's as most says in 20.
func someEntry(next func(int) int, most int) api.Sector {
	s := api.Sector{1, byte(next(16)), byte(1 + next(15)), 1, 16: 'a'}
	if next(20) < most {
		return s
	}
	s[[]int{0, 2, 3, 8, 16, 31}[next(6)]] += byte(1 + next(255))
	return s
}

// someImage is an image with inodes and entries of all kinds, and with blocks that are written everywhere.
func someImage(next func(int) int) []api.Sector {
	image := layout.Empty()
	for n := 1; n < 16; n++ {
		image[1+n] = someInode(next)
	}
	most := next(21)
	for k := range 24 {
		image[17+k] = someEntry(next, most)
	}
	for b := range 24 {
		image[41+b] = api.Sector{byte(next(256)), 31: byte(next(256))}
	}
	if next(8) == 0 {
		image[1] = someInode(next)
	}
	return image
}

// P1002: inodes are given from 1 on, up to 15, and none after that.
func TestInode(t *testing.T) {
	used := entries{}
	for n := 1; n < 16; n++ {
		if got, ok := Inode(with(t, nil, used)); got != n || !ok {
			t.Errorf("below inode %d all are in use, but Inode = %d, %v", n, got, ok)
		}
		used[n] = in(0, "a", n)
	}
	if got, ok := Inode(with(t, nil, used)); got != 0 || ok {
		t.Errorf("all inodes are in use, but Inode = %d, %v", got, ok)
	}
}

// P1002: entries are given from 0 on, up to 23, and none after that.
func TestSlot(t *testing.T) {
	used := entries{}
	for k := range 24 {
		if got, ok := Slot(with(t, nil, used)); got != k || !ok {
			t.Errorf("below entry %d all are in use, but Slot = %d, %v", k, got, ok)
		}
		used[k] = in(k%16, "a", 1)
	}
	if got, ok := Slot(with(t, nil, used)); got != 0 || ok {
		t.Errorf("all entries are in use, but Slot = %d, %v", got, ok)
	}
}

// P1002: a gap is what is lowest, wherever it is.
func TestGaps(t *testing.T) {
	for gap := 1; gap < 16; gap++ {
		used := entries{}
		for n := 1; n < 16; n++ {
			used[23-n] = in(0, "a", n)
		}
		delete(used, 23-gap)
		d := with(t, nil, used)
		if got, ok := Inode(d); got != gap || !ok {
			t.Errorf("inode %d is free, but Inode = %d, %v", gap, got, ok)
		}
		if got, ok := Slot(d); got != 0 || !ok {
			t.Errorf("entry 0 is free, but Slot = %d, %v", got, ok)
		}
	}
	for gap := range 24 {
		used := entries{}
		for k := range 24 {
			used[k] = in(0, "a", 1)
		}
		delete(used, gap)
		d := with(t, nil, used)
		if got, ok := Slot(d); got != gap || !ok {
			t.Errorf("entry %d is free, but Slot = %d, %v", gap, got, ok)
		}
		if got, ok := Inode(d); got != 2 || !ok {
			t.Errorf("inode 2 is free, but Inode = %d, %v", got, ok)
		}
	}
}

// P1002: an inode is in use by its entry only, whatever its own sector contains, and whatever the folder of the entry is.
func TestInodesWithoutEntriesAreFree(t *testing.T) {
	all := inodes{}
	for n := 1; n < 16; n++ {
		all[n] = folder
	}
	compare(t, "folders without entries", with(t, all, nil), []int{0}, nil, nil)
	compare(t, "an entry without its inode", with(t, nil, entries{3: in(9, "a", 1)}), []int{0, 1}, []int{3}, nil)
	compare(t, "an inode twice", with(t, all, entries{3: in(0, "a", 4), 5: in(0, "b", 4), 6: in(4, "b", 4)}), []int{0, 4}, []int{3, 5, 6}, nil)
	compare(t, "entries in the last inode", with(t, all, entries{0: in(15, "a", 2)}), []int{0, 2}, []int{0}, nil)
	d := with(t, all, nil)
	d.Write(1, api.Sector{}, api.Tag{})
	compare(t, "without the root directory", d, []int{0}, nil, nil)
}

// P1002: what is not the sector of an entry is a free entry, and takes no inode.
func TestEntriesOfNoSector(t *testing.T) {
	for _, s := range []api.Sector{
		{0, 0, 1}, {2, 0, 1, 1, 16: 'a'}, {0, 0, 1, 1, 16: 'a'}, {255, 0, 1, 1, 16: 'a'}, {1, 16, 1, 1, 16: 'a'}, {1, 0, 0, 1, 16: 'a'}, {1, 0, 16, 1, 16: 'a'}, {1, 0, 255, 1, 16: 'a'},
		{1, 0, 1}, {1, 0, 1, 1}, {1, 0, 1, 2, 16: 'a'}, {1, 0, 1, 1, 16: 'A'}, {1, 0, 1, 1, 16: '.'}, {1, 0, 1, 1, 4: 1, 16: 'a'}, {1, 0, 1, 1, 16: 'a', 31: 1},
	} {
		image := imageWith(t, inodes{1: file(1, 2)}, nil)
		for k := range 24 {
			image[17+k] = s
		}
		compare(t, "entries that are none", from(t, image), []int{0}, nil, nil)
	}
}

// P1003: as many blocks as are asked for, the lowest, in increasing order.
func TestBlocks(t *testing.T) {
	d := with(t, inodes{1: file(5, 1), 7: file(24), 8: file(3, 23, 4, 12)}, entries{0: in(0, "a", 1), 9: in(0, "b", 7), 23: in(0, "c", 8)})
	free := []int{2, 6, 7, 8, 9, 10, 11, 13, 14, 15, 16, 17, 18, 19, 20, 21, 22}
	for n := range 18 {
		if l, ok := Blocks(d, n); !slices.Equal(l, free[:n]) || !ok {
			t.Errorf("Blocks(%d) = %v, %v", n, l, ok)
		}
	}
	for _, n := range needs() {
		if l, ok := Blocks(d, n); (n < 0 || n > 17) && (len(l) != 0 || ok) {
			t.Errorf("Blocks(%d) = %v, %v", n, l, ok)
		}
	}
	if a, b, c := Count(d); a != 4 || b != 3 || c != 7 {
		t.Errorf("Count = %d, %d, %d", a, b, c)
	}
}

// P1003: a disk can be filled completely; no blocks are still there then.
func TestFullDisk(t *testing.T) {
	all, used := inodes{}, entries{}
	for n := 1; n < 16; n++ {
		all[n] = folder
	}
	for n := range 6 {
		all[1+n] = file(4*n+4, 4*n+1, 4*n+3, 4*n+2)
	}
	for k := range 24 {
		used[k] = in(0, "a", 1+k%15)
	}
	d := with(t, all, used)
	compare(t, "a full disk", d, upTo(0, 15), upTo(0, 23), upTo(1, 24))
	if l, ok := Blocks(d, 0); len(l) != 0 || !ok {
		t.Errorf("Blocks(0) = %v, %v", l, ok)
	}
	if l, ok := Blocks(d, 1); len(l) != 0 || ok {
		t.Errorf("Blocks(1) = %v, %v", l, ok)
	}
	if a, b, c := Count(d); a != 16 || b != 24 || c != 24 {
		t.Errorf("Count = %d, %d, %d", a, b, c)
	}
}

// P1003: each single block can be in use, and is then the only one that is not given.
func TestEachBlock(t *testing.T) {
	for b := 1; b <= 24; b++ {
		d := with(t, inodes{15: file(b)}, entries{4: in(0, "a", 15)})
		compare(t, "one block", d, []int{0, 15}, []int{4}, []int{b})
	}
}

// P1003: blocks are in use by files that are in use, only by those, and each of them once.
func TestBlocksOfWhatIsInUse(t *testing.T) {
	files := inodes{1: file(1, 2), 2: file(2, 3), 3: file(4), 4: file()}
	compare(t, "files without entries", with(t, files, nil), []int{0}, nil, nil)
	compare(t, "one of the files", with(t, files, entries{0: in(0, "a", 2)}), []int{0, 2}, []int{0}, []int{2, 3})
	compare(t, "a shared block", with(t, files, entries{0: in(0, "a", 1), 1: in(0, "b", 2)}), []int{0, 1, 2}, []int{0, 1}, []int{1, 2, 3})
	compare(t, "a file twice", with(t, files, entries{0: in(0, "a", 1), 1: in(0, "b", 1)}), []int{0, 1}, []int{0, 1}, []int{1, 2})
	compare(t, "an empty file", with(t, files, entries{0: in(0, "a", 4)}), []int{0, 4}, []int{0}, nil)
	compare(t, "the root directory is a file", with(t, inodes{0: file(7, 9)}, nil), []int{0}, nil, []int{7, 9})
	some := api.Inode{Kind: api.File, Size: 33, Blocks: [4]int{6, 8}}
	compare(t, "a second block of one byte", with(t, inodes{1: some}, entries{0: in(0, "a", 1)}), []int{0, 1}, []int{0}, []int{6, 8})
}

// P1003: what is not the sector of a file has no blocks, and what is written in the sectors of blocks does not matter.
func TestBlocksOfNoFile(t *testing.T) {
	for _, s := range []api.Sector{{}, {2}, {2, 32, 1}, {0, 32, 1}, {3, 32, 1}, {1, 32, 25}, {1, 32, 1, 2}, {1, 33, 1, 1}, {1, 129, 1, 2, 3, 4}, {1, 32, 255}, {1, 32, 1, 31: 1}, {1, 0, 1}} {
		image := imageWith(t, nil, entries{2: in(0, "a", 1)})
		image[2] = s
		for b := range 24 {
			image[41+b] = api.Sector{1, 2, 3, 31: 4}
		}
		compare(t, "an inode that is no file", from(t, image), []int{0, 1}, []int{2}, nil)
	}
}

// P1004: on all kinds of images, the free ones and those in use are all there are.
func TestAgreesWithDefinitions(t *testing.T) {
	next := story(10)
	full := 0
	for range 1000 {
		image := someImage(next)
		d := from(t, image)
		compareImage(t, "some image", d, image)
		if _, ok := Slot(d); !ok {
			full++
		}
	}
	if full < 10 {
		t.Errorf("only %d images have no free entry", full)
	}
}

// P1004: what is taken as free is in use afterwards, until there is no more; each number is given once.
func TestTakingWhatIsFree(t *testing.T) {
	d := with(t, nil, nil)
	var seenInodes, seenEntries, seenBlocks []int
	for {
		n, inodeOk := Inode(d)
		k, slotOk := Slot(d)
		l, blocksOk := Blocks(d, 2)
		if !inodeOk || !slotOk || !blocksOk {
			break
		}
		seenInodes, seenEntries, seenBlocks = append(seenInodes, n), append(seenEntries, k), append(seenBlocks, l...)
		s, _ := layout.Inode(file(l...))
		d.Write(1+n, s, api.Tag{Kind: api.Meta, ID: n})
		s, _ = layout.Entry(in(0, "a", n))
		d.Write(17+k, s, api.Tag{Kind: api.Dir})
		if a, b, c := Count(d); a != 1+len(seenInodes) || b != len(seenEntries) || c != len(seenBlocks) {
			t.Errorf("after %d files: Count = %d, %d, %d", len(seenInodes), a, b, c)
		}
		d.Sync(api.Tag{Kind: api.Meta, ID: n}, api.Tag{Kind: api.Dir})
	}
	if !slices.Equal(seenInodes, upTo(1, 12)) || !slices.Equal(seenEntries, upTo(0, 11)) || !slices.Equal(seenBlocks, upTo(1, 24)) {
		t.Errorf("given are %v, %v, %v", seenInodes, seenEntries, seenBlocks)
	}
}

// P1002 and P1003: pending writes are read, and syncing them changes nothing.
func TestPendingWritesAreSeen(t *testing.T) {
	d, _ := bdisk.New(65)
	image := imageWith(t, inodes{1: folder, 2: file(1, 5)}, entries{0: in(0, "a", 1), 5: in(1, "b", 2)})
	now := make(model, 65)
	tag := api.Tag{Kind: api.Meta}
	for at, s := range image {
		if e := d.Write(at, s, tag); e != api.OK {
			t.Fatal(e)
		}
		now[at] = s
		compareImage(t, "pending", d, now)
	}
	d.Write(17+5, api.Sector{}, tag)
	compare(t, "unlinked", d, []int{0, 1}, []int{0}, nil)
	d.Write(17, image[17+5], tag)
	compare(t, "linked instead", d, []int{0, 2}, []int{0}, []int{1, 5})
	d.Barrier()
	d.Sync(tag)
	compare(t, "synced", d, []int{0, 2}, []int{0}, []int{1, 5})
}

// P1002 and P1003: sectors that a short disk does not have are all 0; the numbers of blocks do not depend on their sectors.
func TestShortDisks(t *testing.T) {
	next := story(65)
	for sectors := 1; sectors <= 65; sectors++ {
		for range 5 {
			image := someImage(next)[:sectors]
			compareImage(t, "a short image", from(t, image), image)
		}
	}
	image := imageWith(t, inodes{1: file(24)}, entries{0: in(0, "a", 1)})[:18]
	compare(t, "without blocks", from(t, image), []int{0, 1}, []int{0}, []int{24})
}

// P1001: a nil disk, and one that was not created by bdisk, has no sectors, so that all is free but the root directory.
func TestNoDisk(t *testing.T) {
	for what, d := range wrongDisks(t) {
		compare(t, what, d, []int{0}, nil, nil)
		if n, ok := Inode(d); n != 1 || !ok {
			t.Errorf("%s: Inode = %d, %v", what, n, ok)
		}
		if l, ok := Blocks(d, 24); !slices.Equal(l, upTo(1, 24)) || !ok {
			t.Errorf("%s: Blocks(24) = %v, %v", what, l, ok)
		}
	}
}

// callAll makes all calls.
func callAll(d *bdisk.Disk) {
	Inode(d)
	Slot(d)
	for _, n := range needs() {
		Blocks(d, n)
	}
	Count(d)
}

// P1001: nothing is changed, not even which operations of the disk will fail; what is returned as free is still free.
func TestNothingIsChanged(t *testing.T) {
	image := imageWith(t, inodes{1: file(3)}, entries{4: in(0, "a", 1)})
	d := from(t, image)
	tag := api.Tag{Kind: api.Dir}
	d.Write(17, image[17+4], tag)
	d.Barrier()
	d.Write(18, image[17+4], tag)
	d.Fail(1)
	safe, waiting, log, epoch := d.Safe(), d.Waiting(), d.Log(), d.Epoch()
	var read []api.Sector
	for at := range safe {
		s, _ := d.Read(at)
		read = append(read, s)
	}
	callAll(d)
	compare(t, "asked before", d, []int{0, 1}, []int{0, 1, 4}, []int{3})
	if !slices.Equal(d.Safe(), safe) || !slices.Equal(d.Waiting(), waiting) || len(d.Log()) != len(log) || d.Epoch() != epoch {
		t.Error("the disk is another one")
	}
	for at, s := range read {
		if now, e := d.Read(at); now != s || e != api.OK {
			t.Errorf("sector %d is another one", at)
		}
	}
	if first, second := d.Barrier(), d.Barrier(); first != api.OK || second != api.ErrIO {
		t.Errorf("the operations return %d and %d", first, second)
	}
}

// P1001: no operation of a disk that fails makes a call fail.
func TestFaultsDoNotMatter(t *testing.T) {
	d := with(t, inodes{1: file(3)}, entries{4: in(0, "a", 1)})
	d.Fail(needs()...)
	compare(t, "with faults", d, []int{0, 1}, []int{4}, []int{3})
}

// P1001: a changed result changes neither the disk nor another result, not even behind its end.
func TestBlocksAreNewEachTime(t *testing.T) {
	d := with(t, inodes{1: file(2)}, entries{0: in(0, "a", 1)})
	first, _ := Blocks(d, 3)
	second, _ := Blocks(d, 3)
	all := first[:cap(first)]
	for i := range all {
		all[i] = 99
	}
	if third, _ := Blocks(d, 3); !slices.Equal(second, []int{1, 3, 4}) || !slices.Equal(third, second) {
		t.Errorf("Blocks shares its memory: %v, %v", second, third)
	}
}

// P1001: a result depends only on what the disk has, not on how it came there or what was asked before, of it or of another disk.
func TestCallsDependOnTheDiskOnly(t *testing.T) {
	next := story(1)
	for range 50 {
		image := someImage(next)
		d, other := from(t, image), from(t, someImage(next))
		callAll(d)
		callAll(other)
		compareImage(t, "asked before", d, image)
		compareImage(t, "a copy", d.Clone(), image)
		written, _ := bdisk.New(65)
		for at := 64; at >= 0; at-- {
			written.Write(at, image[at], api.Tag{})
		}
		compareImage(t, "written", written, image)
	}
}

// The example of the chapter.
func TestExample(t *testing.T) {
	d := from(t, layout.Empty())
	if n, ok := Inode(d); n != 1 || !ok {
		t.Errorf("Inode = %d, %v", n, ok)
	}
	if k, ok := Slot(d); k != 0 || !ok {
		t.Errorf("Slot = %d, %v", k, ok)
	}
	if l, ok := Blocks(d, 2); !slices.Equal(l, []int{1, 2}) || !ok {
		t.Errorf("Blocks(2) = %v, %v", l, ok)
	}
	if a, b, c := Count(d); a != 1 || b != 0 || c != 0 {
		t.Errorf("Count = %d, %d, %d", a, b, c)
	}
}
