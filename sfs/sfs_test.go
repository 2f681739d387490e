package sfs_test

import (
	"bytes"
	"math"
	"slices"
	"testing"

	"flotsam/api"
	"flotsam/bdisk"
	"flotsam/layout"
	"flotsam/sfs"
)

// sectors are what an image has at these places; elsewhere it is Empty.
type sectors map[int]api.Sector

// Where inode n, entry k and block b are.
func inodeAt(n int) int { return 1 + n }
func entryAt(k int) int { return 17 + k }
func blockAt(b int) int { return 40 + b }

// folder is the sector of a folder's inode.
var folder = api.Sector{2}

// file is the sector of a file's inode.
func file(size int, blocks ...int) api.Sector {
	s := api.Sector{1, byte(size)}
	for i, b := range blocks {
		s[2+i] = byte(b)
	}
	return s
}

// in is the sector of the entry of a name in a folder.
func in(parent int, name string, target int) api.Sector {
	s := api.Sector{1, byte(parent), byte(target), byte(len(name))}
	copy(s[16:], name)
	return s
}

// imageWith is the image Empty with these sectors.
func imageWith(l sectors) []api.Sector {
	image := layout.Empty()
	for at, s := range l {
		image[at] = s
	}
	return image
}

// mount is the file system of the disk with an image.
func mount(t *testing.T, image []api.Sector) *sfs.FS {
	t.Helper()
	d, e := bdisk.From(image)
	if e != api.OK {
		t.Fatalf("no disk with %d sectors: %d", len(image), e)
	}
	f, e := sfs.Mount(d)
	if e != api.OK {
		t.Fatalf("no file system: %d", e)
	}
	return f
}

// mountPending is a file system like that of mount, but all sectors of the image are still pending.
func mountPending(t *testing.T, image []api.Sector) *sfs.FS {
	t.Helper()
	d, _ := bdisk.New(65)
	for at, s := range image {
		d.Write(at, s, api.Tag{Kind: api.Data, ID: at})
	}
	f, e := sfs.Mount(d)
	if e != api.OK {
		t.Fatalf("no file system: %d", e)
	}
	return f
}

// op is an operation of a disk: a write, or a Barrier, which has no fields.
type op struct {
	at  int
	s   api.Sector
	tag api.Tag
}

var barrier = op{at: -1}

// The writes that a call can make.
func inodeOp(n int, s api.Sector) op {
	return op{inodeAt(n), s, api.Tag{Kind: api.Meta, ID: n}}
}

func entryOp(k, folder int, s api.Sector) op {
	return op{entryAt(k), s, api.Tag{Kind: api.Dir, ID: folder}}
}

func blockOp(n, b int, s api.Sector) op {
	return op{blockAt(b), s, api.Tag{Kind: api.Data, ID: n}}
}

// opsFrom are the operations of a disk from the one with the number first on.
func opsFrom(d *bdisk.Disk, first int) []op {
	var l []op
	for _, e := range d.Log()[first:] {
		switch e.Kind {
		case api.EvWrite:
			l = append(l, op{e.W.At, e.W.S, e.W.Tag})
		case api.EvBarrier:
			l = append(l, barrier)
		default:
			l = append(l, op{at: -1 - e.Kind})
		}
	}
	return l
}

// call is a call that can change files, and how it is told.
type call struct {
	what string
	do   func(f *sfs.FS) api.Errno
}

func create(path string) call {
	return call{"Create " + path, func(f *sfs.FS) api.Errno { return f.Create(path) }}
}

func mkdir(path string) call {
	return call{"Mkdir " + path, func(f *sfs.FS) api.Errno { return f.Mkdir(path) }}
}

func write(path string, off int, b string) call {
	return call{"Write " + path, func(f *sfs.FS) api.Errno { return f.Write(path, off, []byte(b)) }}
}

func appendTo(path string, b string) call {
	return call{"Append " + path, func(f *sfs.FS) api.Errno { return f.Append(path, []byte(b)) }}
}

func truncate(path string, n int) call {
	return call{"Truncate " + path, func(f *sfs.FS) api.Errno { return f.Truncate(path, n) }}
}

func rename(from, to string) call {
	return call{"Rename " + from + " " + to, func(f *sfs.FS) api.Errno { return f.Rename(from, to) }}
}

func unlink(path string) call {
	return call{"Unlink " + path, func(f *sfs.FS) api.Errno { return f.Unlink(path) }}
}

// does checks that a call on an image returns OK after these operations; and P1103: each of them can fail, the ones before it remain, and nothing more is tried.
func does(t *testing.T, image []api.Sector, c call, want ...op) {
	t.Helper()
	for i := range len(want) + 1 {
		for what, f := range map[string]*sfs.FS{"": mount(t, image), " (pending)": mountPending(t, image)} {
			d := f.Disk()
			first := len(d.Log())
			d.Fail(i, i+1)
			wantE := api.ErrIO
			if i == len(want) {
				wantE = api.OK
			}
			if e := c.do(f); e != wantE {
				t.Errorf("%s%s: %d, want %d, if operation %d fails", c.what, what, e, wantE, i)
			}
			if got := opsFrom(d, first); !slices.Equal(got, want[:i]) {
				t.Errorf("%s%s, if operation %d fails:\n%v, want\n%v", c.what, what, i, got, want[:i])
			}
			if e := d.Barrier(); e != api.ErrIO {
				t.Errorf("%s%s: something is tried after operation %d failed", c.what, what, i)
			}
		}
	}
}

// refuses checks that a call on an image returns an error, and P1103: not even an operation that fails is tried.
func refuses(t *testing.T, image []api.Sector, c call, want api.Errno) {
	t.Helper()
	for what, f := range map[string]*sfs.FS{"": mount(t, image), " (pending)": mountPending(t, image)} {
		d := f.Disk()
		first := len(d.Log())
		d.Fail(0)
		if e := c.do(f); e != want {
			t.Errorf("%s%s: %d, want %d", c.what, what, e, want)
		}
		if got := opsFrom(d, first); len(got) != 0 {
			t.Errorf("%s%s is refused, but writes %v", c.what, what, got)
		}
		if e := d.Barrier(); e != api.ErrIO {
			t.Errorf("%s%s is refused, but tries something", c.what, what)
		}
	}
}

// row is n bytes of which no two neighbours are the same, nor two that are 32 apart, and none is 0.
func row(n int) string {
	b := make([]byte, n)
	for i := range b {
		b[i] = byte(i%251 + 1)
	}
	return string(b)
}

// The tree of most tests is: folders /d, /d/x, /y (inodes 1, 4, 5); files /d/f, /e, /d/x/g (2, 3, 6). There is an entry /gone, but its inode 9 is Free.
// The lowest free inode is 7 (it has the sector of a file, with block 2), the lowest free entries are 1 and 4, the lowest free blocks 2 and 4.
func world() []api.Sector {
	l := sectors{
		inodeAt(1): folder, inodeAt(2): file(40, 5, 3), inodeAt(3): file(0), inodeAt(4): folder, inodeAt(5): folder, inodeAt(6): file(64, 1, 24), inodeAt(7): file(9, 2),
		entryAt(0): in(0, "d", 1), entryAt(2): in(1, "f", 2), entryAt(3): in(0, "e", 3), entryAt(5): in(1, "x", 4), entryAt(6): in(4, "g", 6), entryAt(7): in(0, "y", 5), entryAt(8): in(0, "gone", 9),
	}
	for b := 1; b <= 24; b++ {
		l[blockAt(b)] = api.Sector([]byte(row(200)[b : b+32]))
	}
	return imageWith(l)
}

// crowded is image without free entries: in all that were free, the file at inode 6 has one more name in folder 4.
func crowded(image []api.Sector) []api.Sector {
	for k := range 24 {
		if image[entryAt(k)] == (api.Sector{}) {
			image[entryAt(k)] = in(4, "n"+string(rune('a'+k)), 6)
		}
	}
	return image
}

// populous is image without free inodes: those that were free have a name in folder 4.
func populous(image []api.Sector) []api.Sector {
	k := 0
	for _, n := range []int{7, 8, 10, 11, 12, 13, 14, 15} {
		for image[entryAt(k)] != (api.Sector{}) {
			k++
		}
		image[entryAt(k)] = in(4, "n"+string(rune('a'+n)), n)
	}
	return image
}

// noPaths are no paths, so that everything that is asked of them is ErrName.
func noPaths() []string {
	return []string{"", "d", "d/f", "//", "/d/", "//d", "/d//f", "/D", "/.", "/..", "/d/.", "/123456789", "/a/b/c/d/e", "/a b", "/e\x00", " /e", "/é", string(make([]byte, 1000))}
}

// P1101: for file systems that Mount has not returned, all is ErrArg, before all other errors, or nothing.
func TestFileSystemsOfNoMount(t *testing.T) {
	real := mount(t, world())
	copied := *real
	for what, f := range map[string]*sfs.FS{"nil": nil, "zero": {}, "a copy": &copied} {
		if d := f.Disk(); d != nil {
			t.Errorf("%s: Disk = %v", what, d)
		}
		for _, path := range append(noPaths(), "/", "/e", "/d", "/no", "/no/a", "/e/a") {
			for _, c := range []call{
				create(path), mkdir(path), write(path, 0, "x"), write(path, -1, ""), write(path, 0, row(200)), appendTo(path, "x"), truncate(path, 0), truncate(path, -1),
				rename(path, "/z"), rename("/e", path), rename(path, path), unlink(path),
			} {
				if e := c.do(f); e != api.ErrArg {
					t.Errorf("%s: %s: %d", what, c.what, e)
				}
			}
			if b, e := f.Read(path); len(b) != 0 || e != api.ErrArg {
				t.Errorf("%s: Read %q = %v, %d", what, path, b, e)
			}
			if n, e := f.Size(path); n != 0 || e != api.ErrArg {
				t.Errorf("%s: Size %q = %d, %d", what, path, n, e)
			}
			if f.Exists(path) {
				t.Errorf("%s: Exists %q", what, path)
			}
		}
	}
	if l := real.Disk().Log(); len(l) != 0 {
		t.Errorf("a copy has written %v", l)
	}
}

// P1102: a disk that bdisk has not made is ErrArg, and one that look does not mount ErrForm.
func TestMountRefuses(t *testing.T) {
	real, _ := bdisk.From(layout.Empty())
	copied := *real
	for what, d := range map[string]*bdisk.Disk{"nil": nil, "zero": {}, "a copy": &copied} {
		if f, e := sfs.Mount(d); f != nil || e != api.ErrArg {
			t.Errorf("%s: Mount = %v, %d", what, f, e)
		}
	}
	for n := 1; n <= 65; n++ {
		d, _ := bdisk.New(n)
		if f, e := sfs.Mount(d); f != nil || e != api.ErrForm {
			t.Errorf("%d sectors 0: Mount = %v, %d", n, f, e)
		}
		d, _ = bdisk.From(layout.Empty()[:n])
		if f, e := sfs.Mount(d); n < 65 && (f != nil || e != api.ErrForm) {
			t.Errorf("%d sectors: Mount = %v, %d", n, f, e)
		}
	}
	for i := range 64 {
		image := layout.Empty()
		image[i/32][i%32] ^= 1
		d, _ := bdisk.From(image)
		if f, e := sfs.Mount(d); f != nil || e != api.ErrForm {
			t.Errorf("another byte at %d: Mount = %v, %d", i, f, e)
		}
	}
}

// P1102: a disk is mounted as it is read, whatever its other sectors are. Mount writes nothing, and Disk returns the disk itself.
func TestMount(t *testing.T) {
	image := layout.Empty()
	for at := 2; at < 65; at++ {
		image[at] = api.Sector([]byte(row(100)[at-2 : at+30]))
	}
	d, _ := bdisk.From(image)
	d.Fail(0)
	f, e := sfs.Mount(d)
	if f == nil || e != api.OK || f.Disk() != d {
		t.Errorf("Mount = %v, %d", f, e)
	}
	if e := d.Barrier(); e != api.ErrIO {
		t.Error("Mount has tried something")
	}
	d, _ = bdisk.New(65)
	d.Write(0, layout.Empty()[0], api.Tag{})
	d.Write(1, layout.Empty()[1], api.Tag{})
	if f, e := sfs.Mount(d); f == nil || e != api.OK || len(d.Log()) != 2 || len(d.Waiting()) != 2 {
		t.Errorf("pending: Mount = %v, %d", f, e)
	}
	d.Write(0, api.Sector{}, api.Tag{})
	if f, e := sfs.Mount(d); f != nil || e != api.ErrForm {
		t.Errorf("pending 0: Mount = %v, %d", f, e)
	}
}

// P1101: two file systems of one disk have the same files, since the disk has them; those of a copy of the disk are other ones.
func TestFilesAreOnTheDisk(t *testing.T) {
	f := mount(t, layout.Empty())
	other, _ := sfs.Mount(f.Disk())
	copied, _ := sfs.Mount(f.Disk().Clone())
	f.Create("/a")
	other.Append("/a", []byte("xy"))
	if b, e := f.Read("/a"); string(b) != "xy" || e != api.OK {
		t.Errorf("Read = %q, %d", b, e)
	}
	if copied.Exists("/a") {
		t.Error("a copy of the disk has got a file")
	}
	f.Disk().Write(entryAt(3), in(0, "b", 1), api.Tag{})
	if b, e := f.Read("/b"); string(b) != "xy" || e != api.OK {
		t.Errorf("Read of what was written to the disk = %q, %d", b, e)
	}
}

// P1104, P1107, P1108: the errors of the location of a path come first, in their order.
func TestLocations(t *testing.T) {
	wants := map[string]api.Errno{
		"/": api.ErrArg, "/no/a": api.ErrNone, "/d/no/a": api.ErrNone, "/no/a/b": api.ErrNone, "/gone/a": api.ErrNone, "/d/x/no/a": api.ErrNone,
		"/e/a": api.ErrKind, "/e/a/b": api.ErrKind, "/d/f/a": api.ErrKind, "/d/f/a/b": api.ErrKind, "/d/x/g/a": api.ErrKind, "/e/": api.ErrName, "/e/a/": api.ErrName,
	}
	for _, path := range noPaths() {
		wants[path] = api.ErrName
	}
	for path, want := range wants {
		for _, c := range []call{create(path), mkdir(path), unlink(path), rename(path, "/z"), rename("/e", path), rename(path, path)} {
			refuses(t, world(), c, want)
			refuses(t, crowded(populous(world())), c, want)
		}
	}
}

// P1105, P1106, P1109: the errors of the file at a path come first, in their order.
func TestFilesAtPaths(t *testing.T) {
	wants := map[string]api.Errno{
		"/": api.ErrKind, "/d": api.ErrKind, "/y": api.ErrKind, "/d/x": api.ErrKind, "/e/a": api.ErrKind, "/e/a/b": api.ErrKind, "/d/f/a": api.ErrKind,
		"/no": api.ErrNone, "/no/a": api.ErrNone, "/d/no": api.ErrNone, "/gone": api.ErrNone, "/d/e": api.ErrNone, "/f": api.ErrNone,
	}
	for _, path := range noPaths() {
		wants[path] = api.ErrName
	}
	for path, want := range wants {
		for _, c := range []call{
			write(path, 0, ""), write(path, 0, "x"), write(path, -1, "x"), write(path, 1, "x"), write(path, 0, row(129)), appendTo(path, ""), appendTo(path, row(129)), truncate(path, 0), truncate(path, -1), truncate(path, 1),
		} {
			refuses(t, world(), c, want)
		}
		f := mount(t, world())
		if b, e := f.Read(path); len(b) != 0 || e != want {
			t.Errorf("Read %q = %v, %d", path, b, e)
		}
		if n, e := f.Size(path); n != 0 || e != want {
			t.Errorf("Size %q = %d, %d", path, n, e)
		}
	}
}

// P1109: Exists is true for files and for folders, the root directory too.
func TestExists(t *testing.T) {
	f := mount(t, world())
	for _, path := range []string{"/", "/d", "/d/f", "/e", "/d/x", "/d/x/g", "/y"} {
		if !f.Exists(path) {
			t.Errorf("%s does not exist", path)
		}
	}
	for _, path := range append(noPaths(), "/no", "/gone", "/gone/a", "/d/no", "/f", "/x", "/d/e", "/e/a", "/d/f/a", "/d/x/g/a", "/y/a") {
		if f.Exists(path) {
			t.Errorf("%q exists", path)
		}
	}
}

// The root directory is a folder at Mount. If it is written over later, it is what its sector says, and nothing panics.
func TestWithoutRootDirectory(t *testing.T) {
	for what, c := range map[string]struct {
		root api.Sector
		want api.Errno
	}{"a file": {file(0), api.OK}, "free": {api.Sector{}, api.ErrKind}, "no inode": {api.Sector{7, 7, 7}, api.ErrKind}} {
		f := mount(t, world())
		f.Disk().Write(1, c.root, api.Tag{})
		for _, l := range []call{create("/a"), mkdir("/a"), create("/d/a"), unlink("/e"), rename("/e", "/a"), write("/e", 0, "x"), truncate("/e", 0)} {
			if e := l.do(f); e != api.ErrKind {
				t.Errorf("%s: %s: %d", what, l.what, e)
			}
		}
		if e := f.Append("/", []byte("x")); e != c.want {
			t.Errorf("%s: Append /: %d", what, e)
		}
		want := []op(nil)
		if c.want == api.OK {
			want = []op{blockOp(0, 2, api.Sector{'x'}), inodeOp(0, file(1, 2))}
		}
		if got := opsFrom(f.Disk(), 1); !slices.Equal(got, want) {
			t.Errorf("%s: %v", what, got)
		}
		if !f.Exists("/") || f.Exists("/e") {
			t.Errorf("%s: Exists", what)
		}
	}
}

// P1101: bytes are neither changed, nor those behind them, nor kept.
func TestBytesAreNotKept(t *testing.T) {
	f := mount(t, world())
	for _, c := range []struct {
		what string
		do   func(b []byte) api.Errno
	}{
		{"Write", func(b []byte) api.Errno { return f.Write("/e", 0, b) }},
		{"Append", func(b []byte) api.Errno { return f.Append("/e", b) }},
	} {
		memory := []byte(row(100))
		if e := c.do(memory[5:45]); e != api.OK || string(memory) != row(100) {
			t.Errorf("%s = %d, and the bytes are %v", c.what, e, memory)
		}
		before, _ := f.Read("/e")
		clear(memory)
		if after, e := f.Read("/e"); !bytes.Equal(before, after) || e != api.OK {
			t.Errorf("%s keeps its argument: %v, %v", c.what, before, after)
		}
	}
}

// P1101: a changed result changes neither the file nor another result, not even behind its end.
func TestBytesAreNewEachTime(t *testing.T) {
	f := mount(t, world())
	for _, path := range []string{"/d/f", "/d/x/g", "/e"} {
		first, _ := f.Read(path)
		want := string(first)
		second, _ := f.Read(path)
		clear(first[:cap(first)])
		third, e := f.Read(path)
		if string(second) != want || string(third) != want || e != api.OK {
			t.Errorf("Read %s shares its memory: %q, %q, %q", path, want, second, third)
		}
	}
}

// P1109: reading changes nothing, not even which operations of the disk will fail.
func TestReadingWritesNothing(t *testing.T) {
	f := mount(t, world())
	d := f.Disk()
	d.Fail(0)
	for _, path := range []string{"/", "/d", "/d/f", "/e", "/no", ""} {
		f.Read(path)
		f.Size(path)
		f.Exists(path)
	}
	if e := d.Barrier(); e != api.ErrIO || len(d.Log()) != 0 || !slices.Equal(d.Safe(), world()) {
		t.Errorf("reading has changed something: %d, %v", e, d.Log())
	}
}

// numbers are places and lengths of all kinds, the ends of int among them.
func numbers() []int {
	l := []int{math.MinInt, math.MinInt + 1, -1 << 32, -1 << 31, -129, -128, -33, -32, 255, 256, 1 << 31, 1 << 32, 1<<32 + 1, math.MaxInt - 128, math.MaxInt - 1, math.MaxInt}
	for n := -2; n <= 130; n++ {
		l = append(l, n)
	}
	return l
}

// The example of the chapter.
func TestExample(t *testing.T) {
	f := mount(t, layout.Empty())
	if e := f.Create("/a"); e != api.OK {
		t.Error(e)
	}
	if e := f.Write("/a", 0, []byte("x")); e != api.OK {
		t.Error(e)
	}
	want := []op{inodeOp(1, file(0)), entryOp(0, 0, in(0, "a", 1)), blockOp(1, 1, api.Sector{'x'}), inodeOp(1, file(1, 1))}
	if got := opsFrom(f.Disk(), 0); !slices.Equal(got, want) {
		t.Errorf("%v", got)
	}
	for i, at := range []int{2, 17, 41, 2} {
		if w := f.Disk().Waiting()[i]; w.At != at || w.Epoch != 0 {
			t.Errorf("write %d is %v", i, w)
		}
	}
}
