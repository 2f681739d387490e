package flush_test

import (
	"slices"
	"testing"

	"flotsam/api"
	"flotsam/bdisk"
	"flotsam/flush"
	"flotsam/layout"
	"flotsam/sfs"
)

// mount is the file system of a disk with an image.
func mount(t *testing.T, image []api.Sector) *sfs.FS {
	t.Helper()
	d, e := bdisk.From(image)
	if e != api.OK {
		t.Fatalf("no disk with %d sectors: %d", len(image), e)
	}
	f, e := sfs.Mount(d)
	if e != api.OK {
		t.Fatalf("no file system: %d", e)
	}
	return f
}

// ok fails the test if one of the calls did not return OK.
func ok(t *testing.T, errors ...api.Errno) {
	t.Helper()
	for i, e := range errors {
		if e != api.OK {
			t.Fatalf("call %d = %d", i, e)
		}
	}
}

// world is a file system with the folders /d, /d/x (inodes 1, 3) and the files /d/f of 40 bytes, /e of none (inodes 2, 4), all of it pending.
func world(t *testing.T) *sfs.FS {
	t.Helper()
	f := mount(t, layout.Empty())
	ok(t, f.Mkdir("/d"), f.Create("/d/f"), f.Mkdir("/d/x"), f.Create("/e"), f.Append("/d/f", make([]byte, 40)))
	return f
}

// call is a call of this package, and its name.
type call struct {
	name string
	do   func(f *sfs.FS, path string) api.Errno
}

// syncs are the calls that make what is at a path durable.
func syncs() []call {
	return []call{{"Fsync", flush.Fsync}, {"Fdatasync", flush.Fdatasync}, {"Syncdir", flush.Syncdir}}
}

// Where the calls are in calls.
const (
	fsync = iota
	fdatasync
	syncdir
	barrier
)

// calls are all calls of this package.
func calls() []call {
	begin := func(f *sfs.FS, _ string) api.Errno { return flush.Barrier(f) }
	count := func(f *sfs.FS, path string) api.Errno { _, e := flush.Waits(f, path); return e }
	return append(syncs(), call{"Barrier", begin}, call{"Waits", count})
}

// tags are those of inode n of these kinds.
func tags(n int, kinds ...int) []api.Tag {
	var l []api.Tag
	for _, kind := range kinds {
		l = append(l, api.Tag{Kind: kind, ID: n})
	}
	return l
}

// pending are the tags of the pending writes of a disk.
func pending(d *bdisk.Disk) []api.Tag {
	var l []api.Tag
	for _, w := range d.Waiting() {
		l = append(l, w.Tag)
	}
	return l
}

// image is what a disk reads.
func image(d *bdisk.Disk) []api.Sector {
	var l []api.Sector
	for at := range api.Sectors {
		s, _ := d.Read(at)
		l = append(l, s)
	}
	return l
}

// noPaths are no paths, so that everything that is asked of them is ErrName.
func noPaths() []string {
	return []string{"", "d", "d/f", "//", "/d/", "//d", "/d//f", "/D", "/.", "/..", "/d/.", "/123456789", "/a/b/c/d/e", "/a b", "/e\x00", " /e", "/é", string(make([]byte, 1000))}
}

// P1201: for file systems that Mount has not returned, all is ErrArg, before all other errors, and 0.
func TestFileSystemsOfNoMount(t *testing.T) {
	real := world(t)
	copied := *real
	for what, f := range map[string]*sfs.FS{"nil": nil, "zero": {}, "a copy": &copied} {
		for _, path := range append(noPaths(), "/", "/d", "/d/f", "/e", "/no", "/no/a", "/e/a") {
			for _, c := range calls() {
				if e := c.do(f, path); e != api.ErrArg {
					t.Errorf("%s: %s %q = %d", what, c.name, path, e)
				}
			}
			if n, e := flush.Waits(f, path); n != 0 || e != api.ErrArg {
				t.Errorf("%s: Waits %q = %d, %d", what, path, n, e)
			}
		}
	}
	if n := len(real.Disk().Log()); n != 11 || real.Disk().Epoch() != 0 {
		t.Errorf("a copy has reached the disk: %d events", n)
	}
}

// P1202, P1203: the errors of Lookup, and for a Sync ErrKind; then not even an operation that fails is tried.
func TestRefused(t *testing.T) {
	// The results of Waits, of Fsync and Fdatasync, and of Syncdir.
	type row struct {
		path                 string
		lookup, file, folder api.Errno
	}
	rows := []row{{"/d/f", api.OK, api.OK, api.ErrKind}, {"/e", api.OK, api.OK, api.ErrKind}}
	for _, path := range []string{"/", "/d", "/d/x"} {
		rows = append(rows, row{path, api.OK, api.ErrKind, api.OK})
	}
	for _, path := range []string{"/no", "/f", "/d/e", "/d/no", "/d/x/f", "/no/a"} {
		rows = append(rows, row{path, api.ErrNone, api.ErrNone, api.ErrNone})
	}
	for _, path := range []string{"/e/a", "/e/a/b", "/d/f/f", "/d/f/no/no"} {
		rows = append(rows, row{path, api.ErrKind, api.ErrKind, api.ErrKind})
	}
	for _, path := range noPaths() {
		rows = append(rows, row{path, api.ErrName, api.ErrName, api.ErrName})
	}
	for _, r := range rows {
		if n, e := flush.Waits(world(t), r.path); e != r.lookup || e != api.OK && n != 0 {
			t.Errorf("Waits %q = %d, %d, want %d", r.path, n, e, r.lookup)
		}
		for i, want := range []api.Errno{r.file, r.file, r.folder} {
			c := syncs()[i]
			if want == api.OK {
				ok(t, c.do(world(t), r.path))
				continue
			}
			refuses(t, world(t), c, r.path, want)
		}
	}
}

// refuses checks that a call returns this error, and asks nothing of the disk.
func refuses(t *testing.T, f *sfs.FS, c call, path string, want api.Errno) {
	t.Helper()
	d := f.Disk()
	log, waiting := len(d.Log()), pending(d)
	d.Fail(0)
	if e := c.do(f, path); e != want {
		t.Errorf("%s %q = %d, want %d", c.name, path, e, want)
	}
	if len(d.Log()) != log || !slices.Equal(pending(d), waiting) || d.Barrier() != api.ErrIO {
		t.Errorf("%s %q is refused, but asks something of the disk", c.name, path)
	}
}

// P1202: each call is one Sync with the tags of the inode, in their order, and it settles what these tags have.
func TestSyncs(t *testing.T) {
	for _, c := range []struct {
		name, path string
		do         func(f *sfs.FS, path string) api.Errno
		want       []api.Tag
	}{
		{"Fsync", "/d/f", flush.Fsync, tags(2, api.Data, api.Meta)},
		{"Fsync", "/e", flush.Fsync, tags(4, api.Data, api.Meta)},
		{"Fdatasync", "/d/f", flush.Fdatasync, tags(2, api.Data)},
		{"Fdatasync", "/e", flush.Fdatasync, tags(4, api.Data)},
		{"Syncdir", "/", flush.Syncdir, tags(0, api.Dir, api.Meta)},
		{"Syncdir", "/d", flush.Syncdir, tags(1, api.Dir, api.Meta)},
		{"Syncdir", "/d/x", flush.Syncdir, tags(3, api.Dir, api.Meta)},
	} {
		f := world(t)
		d := f.Disk()
		left := slices.DeleteFunc(pending(d), func(tag api.Tag) bool { return slices.Contains(c.want, tag) })
		before := d.Log()
		// A second operation would fail.
		d.Fail(1)
		if e := c.do(f, c.path); e != api.OK {
			t.Errorf("%s %s = %d", c.name, c.path, e)
		}
		l := d.Log()
		if len(l) != len(before)+1 || l[len(before)].Kind != api.EvSync || !slices.Equal(l[len(before)].Tags, c.want) {
			t.Errorf("%s %s asks for %v, want a Sync of %v", c.name, c.path, l[len(before):], c.want)
		}
		if got := pending(d); !slices.Equal(got, left) {
			t.Errorf("%s %s leaves %v, want %v", c.name, c.path, got, left)
		}
	}
}

// P1202: as the root directory is looked up without a name, it is judged by the kind of its inode alone.
func TestRootOfOtherKinds(t *testing.T) {
	for _, c := range []struct {
		what         string
		s            api.Sector
		file, folder api.Errno
	}{
		{"a folder", api.Sector{2}, api.ErrKind, api.OK},
		{"a file", api.Sector{1}, api.OK, api.ErrKind},
		{"free", api.Sector{}, api.ErrKind, api.ErrKind},
		{"no inode", api.Sector{3}, api.ErrKind, api.ErrKind},
	} {
		f := mount(t, layout.Empty())
		f.Disk().Write(api.Inodes, c.s, api.Tag{Kind: api.Data, ID: 7})
		for i, want := range []api.Errno{c.file, c.file, c.folder} {
			if e := syncs()[i].do(f, "/"); e != want {
				t.Errorf("%s: %s = %d, want %d", c.what, syncs()[i].name, e, want)
			}
		}
		if n, e := flush.Waits(f, "/"); n != 0 || e != api.OK {
			t.Errorf("%s: Waits = %d, %d", c.what, n, e)
		}
	}
}

// P1202: an epoch is a reason to settle more than the tags have.
func TestSyncSettlesEarlierEpochs(t *testing.T) {
	f := world(t)
	ok(t, flush.Barrier(f), f.Append("/e", []byte("x")), flush.Fdatasync(f, "/e"))
	if got := pending(f.Disk()); !slices.Equal(got, tags(4, api.Meta)) {
		t.Errorf("pending: %v", got)
	}
}

// P1202: Barrier is that of the disk, and nothing else.
func TestBarrier(t *testing.T) {
	f := world(t)
	d := f.Disk()
	before := len(d.Log())
	d.Fail(1)
	ok(t, flush.Barrier(f))
	l := d.Log()
	if len(l) != before+1 || l[before].Kind != api.EvBarrier || d.Epoch() != 1 || len(d.Waiting()) != before {
		t.Errorf("Barrier asks for %v, epoch %d", l[before:], d.Epoch())
	}
}

// P1202: an error of the disk is returned, and nothing has changed.
func TestErrorsOfTheDisk(t *testing.T) {
	for _, c := range []struct {
		call int
		path string
	}{{fsync, "/d/f"}, {fdatasync, "/d/f"}, {syncdir, "/d"}, {barrier, ""}} {
		f := world(t)
		d := f.Disk()
		log, waiting := len(d.Log()), pending(d)
		d.Fail(0)
		if e := calls()[c.call].do(f, c.path); e != api.ErrIO {
			t.Errorf("%s = %d", calls()[c.call].name, e)
		}
		if len(d.Log()) != log || !slices.Equal(pending(d), waiting) || d.Epoch() != 0 {
			t.Errorf("%s fails, but has changed something", calls()[c.call].name)
		}
		if e := calls()[c.call].do(f, c.path); e != api.OK {
			t.Errorf("%s = %d, the second time", calls()[c.call].name, e)
		}
	}
}

// waits checks what Waits returns at these paths.
func waits(t *testing.T, f *sfs.FS, want map[string]int) {
	t.Helper()
	for path, n := range want {
		if got, e := flush.Waits(f, path); got != n || e != api.OK {
			t.Errorf("Waits %s = %d, %d, want %d", path, got, e, n)
		}
	}
}

// P1203: each pending write of an inode counts, those that are synced no more.
func TestWaits(t *testing.T) {
	f := world(t)
	waits(t, f, map[string]int{"/": 2, "/d": 3, "/d/f": 4, "/d/x": 1, "/e": 1})
	ok(t, f.Write("/d/f", 31, []byte("xy")), f.Write("/d/f", 0, []byte("z")))
	waits(t, f, map[string]int{"/": 2, "/d": 3, "/d/f": 7, "/d/x": 1, "/e": 1})
	ok(t, flush.Fdatasync(f, "/d/f"))
	waits(t, f, map[string]int{"/": 2, "/d": 3, "/d/f": 2, "/d/x": 1, "/e": 1})
	ok(t, flush.Fsync(f, "/d/f"), flush.Syncdir(f, "/d"))
	waits(t, f, map[string]int{"/": 2, "/d": 0, "/d/f": 0, "/d/x": 1, "/e": 1})
	ok(t, flush.Barrier(f), f.Append("/e", []byte("x")), flush.Fdatasync(f, "/e"))
	waits(t, f, map[string]int{"/": 0, "/d": 0, "/d/f": 0, "/d/x": 0, "/e": 1})
}

// P1203: a tag counts by its ID, whatever its kind is.
func TestWaitsCountsAllKinds(t *testing.T) {
	f := world(t)
	for i, kind := range []int{api.Data, api.Meta, api.Dir, 0, 4, -1, 1 << 40} {
		for _, id := range []int{4, -4, 20, 4 + 1<<32} {
			f.Disk().Write(api.Sectors-1, api.Sector{}, api.Tag{Kind: kind, ID: id})
		}
		waits(t, f, map[string]int{"/": 2, "/d": 3, "/d/f": 4, "/d/x": 1, "/e": 2 + i})
	}
}

// P1203: what an inode was before counts too: a write of a name that was in a folder is not one of a file, so that Fsync leaves it.
func TestWaitsOfAnInodeUsedAgain(t *testing.T) {
	f := mount(t, layout.Empty())
	ok(t, f.Mkdir("/d"), f.Create("/d/a"), f.Unlink("/d/a"), f.Unlink("/d"), f.Create("/f"))
	waits(t, f, map[string]int{"/f": 4, "/": 3})
	ok(t, flush.Fsync(f, "/f"))
	waits(t, f, map[string]int{"/f": 2, "/": 3})
}

// P1204: Waits asks nothing of the disk, and changes nothing.
func TestWaitsChangesNothing(t *testing.T) {
	f := world(t)
	d := f.Disk()
	log, waiting, now := len(d.Log()), pending(d), image(d)
	d.Fail(0)
	for _, path := range []string{"/", "/d", "/d/f", "/e", "/no", "", "/e/a"} {
		flush.Waits(f, path)
	}
	if len(d.Log()) != log || !slices.Equal(pending(d), waiting) || !slices.Equal(image(d), now) || d.Barrier() != api.ErrIO {
		t.Error("Waits has changed something")
	}
}

// P1204: none of the calls changes what is read; after Fsync no write of the file is pending, after Syncdir none with the tags Dir and Meta of the folder.
func TestWhatCanBeReadStays(t *testing.T) {
	for _, path := range []string{"/", "/d", "/d/x", "/d/f", "/e"} {
		for _, c := range calls() {
			f := world(t)
			d := f.Disk()
			n := map[string]int{"/": 0, "/d": 1, "/d/f": 2, "/d/x": 3, "/e": 4}[path]
			gone := map[string][]api.Tag{"Fsync": tags(n, api.Data, api.Meta), "Fdatasync": tags(n, api.Data), "Syncdir": tags(n, api.Dir, api.Meta)}[c.name]
			now := image(d)
			e := c.do(f, path)
			if !slices.Equal(image(d), now) {
				t.Errorf("%s %s changes what is read", c.name, path)
			}
			for _, tag := range pending(d) {
				if e == api.OK && slices.Contains(gone, tag) {
					t.Errorf("%s %s leaves %v", c.name, path, tag)
				}
			}
		}
	}
}
