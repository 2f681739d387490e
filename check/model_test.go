package check_test

import (
	"slices"
	"testing"

	"flotsam/api"
	"flotsam/bdisk"
	"flotsam/check"
	"flotsam/layout"
	"flotsam/sfs"
)

// model is what an image has, and of it the chapter's definitions, word for word.
type model struct {
	inodes  [16]api.Inode
	entries [24]api.Entry
	odd     [24]bool
}

// modelOf is the model of an image that has what Read returns. What it lacks is all 0.
func modelOf(image []api.Sector) *model {
	m := &model{}
	for at, s := range image {
		switch {
		case at >= 1 && at < 17:
			m.inodes[at-1], _ = layout.InodeOf(s)
		case at >= 17 && at < 41:
			x, ok := layout.EntryOf(s)
			m.entries[at-17], m.odd[at-17] = x, !ok
		}
	}
	return m
}

// reachable takes an inode as reachable as long as the definition has something to add.
func (m *model) reachable() map[int]int {
	in := map[int]int{0: 1}
	for before := 0; before != len(in); {
		before = len(in)
		for _, x := range m.entries {
			if x.Used && m.inodes[x.Target].Kind != api.Free && in[x.Parent] == 1 && m.inodes[x.Parent].Kind == api.Folder {
				in[x.Target] = 1
			}
		}
	}
	return in
}

func (m *model) taken(n int) bool {
	for _, x := range m.entries {
		if x.Used && x.Target == n {
			return true
		}
	}
	return n == 0
}

// lower reports whether a lower used entry than k is like it.
func (m *model) lower(k int, alike func(a, b api.Entry) bool) bool {
	for _, x := range m.entries[:k] {
		if x.Used && alike(x, m.entries[k]) {
			return true
		}
	}
	return false
}

// shared reports whether two files that are taken have block b.
func (m *model) shared(b int) bool {
	for i := range 16 {
		for j := range i {
			x, y := m.inodes[i], m.inodes[j]
			files := m.taken(i) && m.taken(j) && x.Kind == api.File && y.Kind == api.File
			if files && slices.Contains(x.Blocks[:], b) && slices.Contains(y.Blocks[:], b) {
				return true
			}
		}
	}
	return false
}

// has reports whether there is a problem of a kind with a number.
func (m *model) has(kind, n int) bool {
	if kind == 6 {
		return n > 0 && m.shared(n)
	}
	if n > 23 {
		return false
	}
	if kind == 1 {
		return m.odd[n]
	}
	x := m.entries[n]
	if !x.Used {
		return false
	}
	switch kind {
	case 2:
		return m.inodes[x.Target].Kind == api.Free
	case 3:
		return m.reachable()[x.Parent] == 0 || m.inodes[x.Parent].Kind != api.Folder
	case 4:
		return m.lower(n, func(a, b api.Entry) bool { return a.Parent == b.Parent && a.Name == b.Name })
	}
	return m.lower(n, func(a, b api.Entry) bool { return a.Target == b.Target })
}

func (m *model) problems() []check.Problem {
	var l []check.Problem
	for kind := 1; kind <= 6; kind++ {
		for n := range 30 {
			if m.has(kind, n) {
				l = append(l, check.Problem{Kind: kind, N: n})
			}
		}
	}
	return l
}

func (m *model) reached() []int {
	in := m.reachable()
	var l []int
	for n := range 16 {
		if in[n] == 1 {
			l = append(l, n)
		}
	}
	return l
}

// agrees compares all calls on a disk with the model of its image.
func agrees(t *testing.T, what string, d *bdisk.Disk, image []api.Sector) {
	t.Helper()
	m := modelOf(image)
	want := m.problems()
	if got := check.Check(d); !slices.Equal(got, want) {
		t.Errorf("%s: Check = %v, want %v", what, got, want)
	}
	if got := check.Clean(d); got != (len(want) == 0) {
		t.Errorf("%s: Clean = %v, with %v", what, got, want)
	}
	if got := check.Reached(d); !slices.Equal(got, m.reached()) {
		t.Errorf("%s: Reached = %v, want %v", what, got, m.reached())
	}
}

// story is a source of numbers from 0 to n - 1, the same ones for the same seed.
func story(seed uint64) func(n int) int {
	return func(n int) int {
		seed = seed*6364136223846793005 + 1442695040888963407
		return int(seed>>33) % n
	}
}

// someInode is a sector where an inode is looked for: mostly a folder's or a file's, sometimes none's.
func someInode(next func(int) int) api.Sector {
	switch next(8) {
	case 0:
		return api.Sector{}
	case 1:
		return api.Sector{byte(next(5)), byte(next(2))}
	case 2, 3:
		return file(64, 1+next(24), 1+next(24))
	case 4:
		return file(0)
	}
	return folder
}

// someEntry is a sector where an entry is looked for: that of one, or of none.
func someEntry(next func(int) int) api.Sector {
	s := in(next(1+next(16)), string("abcdef"[next(6)]), 1+next(15))
	switch next(16) {
	case 0:
		s[[]int{0, 1, 2, 3, 8, 16, 31}[next(7)]] = byte(next(20))
	case 1, 2, 3:
		return api.Sector{}
	}
	return s
}

// someImage is an image with inodes and entries of all kinds, few or many.
func someImage(next func(int) int) []api.Sector {
	image := layout.Empty()
	for n := 1; n < 16; n++ {
		image[inodeAt(n)] = someInode(next)
	}
	for range next(30) {
		image[entryAt(next(24))] = someEntry(next)
	}
	if next(8) == 0 {
		image[next(2)] = someInode(next)
	}
	return image
}

// damaged is a tree that calls on files have made, with some sectors changed: to anything, or to what is almost right.
func damaged(t *testing.T, next func(int) int) []api.Sector {
	t.Helper()
	f := mount(t, layout.Empty())
	for range 40 {
		someCall(next, f, true)
	}
	image := read(f.Disk())
	for range next(3) {
		other, to := next(8), next(8)
		target := image[entryAt(to)][2]
		switch next(10) {
		case 0:
			image[inodeAt(next(16))] = someInode(next)
		case 1:
			image[entryAt(to)] = someEntry(next)
		case 2:
			image[inodeAt(1+to)] = image[inodeAt(1+other)]
		case 3:
			image[entryAt(to)] = image[entryAt(other)]
		case 4:
			image[entryAt(other)][1] = byte(next(16))
		case 5:
			image[entryAt(other)][2] = byte(next(17))
		case 6:
			image[entryAt(other)][16] = "abc?"[next(4)]
		case 7:
			image[entryAt(other)][next(32)]++
		case 8:
			// The name of another entry, with the target that it has.
			image[entryAt(to)] = image[entryAt(other)]
			image[entryAt(to)][2] = target
		case 9:
			share(image)
		}
	}
	return image
}

// share gives the last file that has bytes the first block of the first one.
func share(image []api.Sector) {
	first, last := 0, 0
	for n := 1; n < 16; n++ {
		if image[inodeAt(n)][2] == 0 {
			continue
		}
		if first == 0 {
			first = n
		}
		last = n
	}
	image[inodeAt(last)][2] = image[inodeAt(first)][2]
}

// read is what a disk reads.
func read(d *bdisk.Disk) []api.Sector {
	var l []api.Sector
	for at := range d.Safe() {
		s, _ := d.Read(at)
		l = append(l, s)
	}
	return l
}

// P1302: on all kinds of images, the problems are those of the definitions, as are the inodes that are reached.
func TestAgreesWithDefinitions(t *testing.T) {
	next := story(13)
	alone, clean, deep := map[int]int{}, 0, 0
	for i := range 3000 {
		image := someImage(next)
		if i%2 == 0 {
			image = damaged(t, next)
		}
		agrees(t, "some image", from(t, image), image)
		if t.Failed() {
			t.Fatalf("image %d", i)
		}
		m := modelOf(image)
		kinds := map[int]int{}
		for _, p := range m.problems() {
			kinds[p.Kind]++
		}
		for kind := range kinds {
			if len(kinds) == 1 {
				alone[kind]++
			}
		}
		if len(kinds) == 0 {
			clean++
		}
		if len(m.reached()) > 8 {
			deep++
		}
	}
	// The images must have had each kind as the only one, or the order of the checks hides some.
	for kind := 1; kind <= 6; kind++ {
		if alone[kind] < 10 {
			t.Errorf("only %d images have problems of the kind %d alone", alone[kind], kind)
		}
	}
	if clean < 100 || deep < 100 {
		t.Errorf("only %d images are clean, in %d much is reached", clean, deep)
	}
}

// P1302: sectors that a short disk does not have are all 0, which are no Odd ones.
func TestShortDisks(t *testing.T) {
	next := story(65)
	for count := 1; count <= 65; count++ {
		for range 10 {
			image := someImage(next)[:count]
			agrees(t, "a short image", from(t, image), image)
		}
		agrees(t, "a short tree", from(t, world()[:count]), world()[:count])
	}
	finds(t, "one sector", world()[:1], nil, []int{0})
	finds(t, "without the last entries", world()[:entryAt(23)], nil, []int{0, 1, 2, 3, 4})
	finds(t, "with one entry, without blocks", with(world(), sectors{entryAt(0): {1}})[:18], problems(1, 0), []int{0})
}

// P1301: a nil disk, and one that was not created by bdisk, has no sectors, and so no problems; inode 0 is reached there too.
func TestNoDisk(t *testing.T) {
	copied := *from(t, with(world(), sectors{entryAt(1): {1}}))
	for what, d := range map[string]*bdisk.Disk{"nil": nil, "zero": {}, "a copy": &copied} {
		if got := check.Check(d); len(got) != 0 {
			t.Errorf("%s: Check = %v", what, got)
		}
		if !check.Clean(d) {
			t.Errorf("%s is not clean", what)
		}
		if got := check.Reached(d); !slices.Equal(got, []int{0}) {
			t.Errorf("%s: Reached = %v", what, got)
		}
	}
}

// callAll makes all calls.
func callAll(d *bdisk.Disk) {
	check.Check(d)
	check.Clean(d)
	check.Reached(d)
}

// P1301: nothing is changed, not even which operations of the disk will fail; and faults do not matter.
func TestNothingIsChanged(t *testing.T) {
	image := with(world(), sectors{entryAt(1): {1}, entryAt(4): in(9, "n", 2)})
	d := pending(t, image)
	d.Barrier()
	d.Write(entryAt(6), in(0, "m", 10), api.Tag{Kind: api.Dir})
	image[entryAt(6)] = in(0, "m", 10)
	d.Fail(0, 2)
	safe, waiting, log, epoch := d.Safe(), d.Waiting(), d.Log(), d.Epoch()
	callAll(d)
	agrees(t, "asked before", d, image)
	if !slices.Equal(d.Safe(), safe) || !slices.Equal(d.Waiting(), waiting) || len(d.Log()) != len(log) || d.Epoch() != epoch || !slices.Equal(read(d), image) {
		t.Error("the disk is another one")
	}
	if a, b, c := d.Barrier(), d.Barrier(), d.Barrier(); a != api.ErrIO || b != api.OK || c != api.ErrIO {
		t.Errorf("the operations return %d, %d and %d", a, b, c)
	}
}

// P1301: a changed result changes neither the disk nor another result, not even behind its end.
func TestResultsAreNewEachTime(t *testing.T) {
	image := with(world(), sectors{entryAt(1): {1}, entryAt(4): in(0, "n", 2), inodeAt(3): file(1, 1)})
	d := from(t, image)
	for range 2 {
		l, reached := check.Check(d), check.Reached(d)
		l, reached = l[:cap(l)], reached[:cap(reached)]
		other, otherReached := check.Check(d), check.Reached(d)
		for i := range l {
			l[i] = check.Problem{Kind: 77, N: 77}
		}
		for i := range reached {
			reached[i] = 77
		}
		if !slices.Equal(other, problems(1, 1, 5, 4, 6, 1)) || !slices.Equal(otherReached, all()) {
			t.Errorf("results share their memory: %v, %v", other, otherReached)
		}
		agrees(t, "with other results changed", d, image)
	}
}

// P1301: a result depends only on what the disk has, not on how it came there or what was asked before, of it or of another disk.
func TestCallsDependOnTheDiskOnly(t *testing.T) {
	next := story(1)
	for range 100 {
		image := someImage(next)
		d, other := from(t, image), from(t, someImage(next))
		callAll(d)
		callAll(other)
		agrees(t, "asked before", d, image)
		agrees(t, "a copy", d.Clone(), image)
		agrees(t, "pending", pending(t, image), image)
		for at, s := range image {
			other.Write(at, s, api.Tag{})
			if at%9 == 0 {
				agrees(t, "partly written", other, read(other))
			}
		}
		agrees(t, "written over another one", other, image)
		other.Sync(api.Tag{})
		agrees(t, "synced", other, image)
	}
}

// mount is the file system of a disk with an image.
func mount(t *testing.T, image []api.Sector) *sfs.FS {
	t.Helper()
	f, e := sfs.Mount(from(t, image))
	if e != api.OK {
		t.Fatalf("no file system: %d", e)
	}
	return f
}
