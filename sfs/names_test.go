package sfs_test

import (
	"slices"
	"testing"

	"flotsam/api"
	"flotsam/layout"
)

// P1104: the inode, and then its entry, each of them the lowest free one, with their tags.
func TestCreateAndMkdir(t *testing.T) {
	for _, c := range []struct {
		path string
		in   int
		name string
	}{
		{"/a", 0, "a"}, {"/12345678", 0, "12345678"}, {"/f", 0, "f"}, {"/d/a", 1, "a"}, {"/d/e", 1, "e"}, {"/d/x/f", 4, "f"}, {"/y/y", 5, "y"}, {"/y/_.9", 5, "_.9"},
		// An entry whose inode is Free gives no name. Its inode is taken all the same.
		{"/gone", 0, "gone"},
	} {
		does(t, world(), create(c.path), inodeOp(7, file(0)), entryOp(1, c.in, in(c.in, c.name, 7)))
		does(t, world(), mkdir(c.path), inodeOp(7, folder), entryOp(1, c.in, in(c.in, c.name, 7)))
	}
	does(t, layout.Empty(), mkdir("/d"), inodeOp(1, folder), entryOp(0, 0, in(0, "d", 1)))
	deep := imageWith(sectors{inodeAt(1): folder, inodeAt(2): folder, inodeAt(3): folder, entryAt(1): in(0, "a", 1), entryAt(2): in(1, "b", 2), entryAt(3): in(2, "c", 3)})
	does(t, deep, create("/a/b/c/d"), inodeOp(4, file(0)), entryOp(0, 3, in(3, "d", 4)))
	refuses(t, deep, create("/a/b/c/d/e"), api.ErrName)
}

// P1104: up to the last inode and the last entry, and no further.
func TestCreateTheLast(t *testing.T) {
	image := world()
	for k := 1; k < 23; k++ {
		if image[entryAt(k)] == (api.Sector{}) {
			image[entryAt(k)] = in(4, "z", 1+k%14)
		}
	}
	for n := 1; n < 15; n++ {
		if image[inodeAt(n)] == (api.Sector{}) {
			image[inodeAt(n)] = file(0)
		}
	}
	does(t, image, create("/a"), inodeOp(15, file(0)), entryOp(23, 0, in(0, "a", 15)))
	does(t, image, mkdir("/d/a"), inodeOp(15, folder), entryOp(23, 1, in(1, "a", 15)))
	image[entryAt(23)] = in(0, "b", 3)
	refuses(t, image, create("/a"), api.ErrFull)
	refuses(t, image, mkdir("/d/a"), api.ErrFull)
}

// P1104: ErrThere comes before ErrFull, and either of both shortages is ErrFull.
func TestCreateRefuses(t *testing.T) {
	for _, path := range []string{"/d", "/d/f", "/e", "/d/x", "/d/x/g", "/y"} {
		for _, c := range []call{create(path), mkdir(path)} {
			refuses(t, world(), c, api.ErrThere)
			refuses(t, crowded(world()), c, api.ErrThere)
			refuses(t, populous(world()), c, api.ErrThere)
		}
	}
	for _, path := range []string{"/a", "/d/a", "/d/x/z", "/gone"} {
		for _, c := range []call{create(path), mkdir(path)} {
			refuses(t, crowded(world()), c, api.ErrFull)
			refuses(t, populous(world()), c, api.ErrFull)
			refuses(t, crowded(populous(world())), c, api.ErrFull)
		}
	}
}

// P1107: in one folder the entry gets another name, in one write.
func TestRenameInOneFolder(t *testing.T) {
	for _, image := range [][]api.Sector{world(), crowded(world()), crowded(populous(world()))} {
		does(t, image, rename("/e", "/z"), entryOp(3, 0, in(0, "z", 3)))
		does(t, image, rename("/d/f", "/d/e"), entryOp(2, 1, in(1, "e", 2)))
		does(t, image, rename("/d", "/z"), entryOp(0, 0, in(0, "z", 1)))
		does(t, image, rename("/y", "/yy"), entryOp(7, 0, in(0, "yy", 5)))
		does(t, image, rename("/d/x/g", "/d/x/gg"), entryOp(6, 4, in(4, "gg", 6)))
		// An entry whose inode is Free gives no name, so nothing is replaced.
		does(t, image, rename("/e", "/gone"), entryOp(3, 0, in(0, "gone", 3)))
	}
}

// P1107: into another folder goes a new entry, the lowest free one, and behind a Barrier the old one is cleared.
func TestRenameIntoAnotherFolder(t *testing.T) {
	image := world()
	does(t, image, rename("/e", "/y/a"), entryOp(1, 5, in(5, "a", 3)), barrier, entryOp(3, 0, api.Sector{}))
	does(t, image, rename("/e", "/y/e"), entryOp(1, 5, in(5, "e", 3)), barrier, entryOp(3, 0, api.Sector{}))
	does(t, image, rename("/e", "/d/x/y"), entryOp(1, 4, in(4, "y", 3)), barrier, entryOp(3, 0, api.Sector{}))
	does(t, image, rename("/d/f", "/f"), entryOp(1, 0, in(0, "f", 2)), barrier, entryOp(2, 1, api.Sector{}))
	does(t, image, rename("/d/f", "/gone"), entryOp(1, 0, in(0, "gone", 2)), barrier, entryOp(2, 1, api.Sector{}))
	does(t, image, rename("/d/x/g", "/d/g"), entryOp(1, 1, in(1, "g", 6)), barrier, entryOp(6, 4, api.Sector{}))
	// A folder with all that is in it, at the same depth or further up.
	does(t, image, rename("/d/x", "/y/x"), entryOp(1, 5, in(5, "x", 4)), barrier, entryOp(5, 1, api.Sector{}))
	does(t, image, rename("/d/x", "/x"), entryOp(1, 0, in(0, "x", 4)), barrier, entryOp(5, 1, api.Sector{}))
	// No inode has to be free.
	does(t, populous(image), rename("/e", "/y/a"), entryOp(15, 5, in(5, "a", 3)), barrier, entryOp(3, 0, api.Sector{}))
	for _, c := range []call{rename("/e", "/y/a"), rename("/d/x", "/y/x"), rename("/d/f", "/gone"), rename("/d/x", "/x")} {
		refuses(t, crowded(world()), c, api.ErrFull)
	}
}

// P1107: a file takes the place of a file, in its entry; in one folder too, and without a free entry.
func TestRenameOverAFile(t *testing.T) {
	for _, image := range [][]api.Sector{world(), crowded(world()), crowded(populous(world()))} {
		does(t, image, rename("/e", "/d/f"), entryOp(2, 1, in(1, "f", 3)), barrier, entryOp(3, 0, api.Sector{}))
		does(t, image, rename("/d/f", "/e"), entryOp(3, 0, in(0, "e", 2)), barrier, entryOp(2, 1, api.Sector{}))
		does(t, image, rename("/d/f", "/d/x/g"), entryOp(6, 4, in(4, "g", 2)), barrier, entryOp(2, 1, api.Sector{}))
		does(t, image, rename("/d/x/g", "/e"), entryOp(3, 0, in(0, "e", 6)), barrier, entryOp(6, 4, api.Sector{}))
	}
	image := world()
	image[entryAt(1)] = in(0, "a", 6)
	does(t, image, rename("/e", "/a"), entryOp(1, 0, in(0, "a", 3)), barrier, entryOp(3, 0, api.Sector{}))
	does(t, image, rename("/a", "/e"), entryOp(3, 0, in(0, "e", 6)), barrier, entryOp(1, 0, api.Sector{}))
}

// P1107: the Barrier stands between both writes, so that they are of different epochs.
func TestRenameEpochs(t *testing.T) {
	for _, to := range []string{"/d/f", "/y/a"} {
		f := mount(t, world())
		f.Disk().Barrier()
		if e := f.Rename("/e", to); e != api.OK {
			t.Fatal(e)
		}
		if l := f.Disk().Waiting(); len(l) != 2 || l[0].Epoch != 1 || l[1].Epoch != 2 || f.Disk().Epoch() != 2 {
			t.Errorf("/e to %s: %v", to, l)
		}
	}
}

// P1107: Parent of both paths comes first, then the location of from, then whether it exists, then the location of to.
func TestRenameErrorsInOrder(t *testing.T) {
	for _, c := range []struct {
		from, to string
		want     api.Errno
	}{
		{"", "/", api.ErrName}, {"/", "", api.ErrArg}, {"/", "/", api.ErrArg}, {"", "", api.ErrName},
		{"/no/a", "", api.ErrName}, {"/no/a", "/", api.ErrArg}, {"/e/a", "", api.ErrName}, {"/e/a", "/", api.ErrArg}, {"/no", "", api.ErrName}, {"/no", "/", api.ErrArg},
		{"/", "/no/a", api.ErrArg}, {"", "/e/a", api.ErrName}, {"/d", "/", api.ErrArg}, {"/d", "", api.ErrName},
		{"/e/a", "/no/a", api.ErrKind}, {"/no/a", "/e/a", api.ErrNone}, {"/e/a", "/d", api.ErrKind}, {"/e/a", "/e/a", api.ErrKind},
		{"/no", "/e/a", api.ErrNone}, {"/no", "/d", api.ErrNone}, {"/no", "/no", api.ErrNone}, {"/gone", "/e/a", api.ErrNone}, {"/gone", "/gone", api.ErrNone}, {"/gone", "/a", api.ErrNone},
		{"/e", "/no/a", api.ErrNone}, {"/e", "/d/f/a", api.ErrKind}, {"/e", "/e/a", api.ErrKind}, {"/d", "/e/a", api.ErrKind},
		// The location of to comes before what is said of folders.
		{"/d", "/d/no/a", api.ErrNone}, {"/d", "/d/f/a", api.ErrKind}, {"/d", "/d/gone/a", api.ErrNone},
	} {
		refuses(t, world(), rename(c.from, c.to), c.want)
		refuses(t, crowded(world()), rename(c.from, c.to), c.want)
	}
}

// P1107: what keeps its path stays as it is, be it a file or a folder.
func TestRenameToItself(t *testing.T) {
	for _, path := range []string{"/d", "/d/f", "/e", "/d/x", "/d/x/g", "/y"} {
		does(t, world(), rename(path, path))
		does(t, crowded(populous(world())), rename(path, path))
	}
}

// P1107: a folder gets no path with more names, be it under itself or not; this comes before ErrThere and ErrFull.
func TestRenameFoldersDown(t *testing.T) {
	for _, image := range [][]api.Sector{world(), crowded(world())} {
		for _, c := range []call{
			rename("/d", "/d/a"), rename("/d", "/d/x/a"), rename("/d", "/d/d"), rename("/d/x", "/d/x/x"), rename("/y", "/y/y"),
			rename("/y", "/d/a"), rename("/d", "/y/a"), rename("/y", "/d/x/a"), rename("/d/x", "/d/x/a"),
			rename("/d", "/d/x"), rename("/d", "/d/f"), rename("/y", "/d/f"), rename("/y", "/d/x"), rename("/y", "/d/x/g"),
		} {
			refuses(t, image, c, api.ErrArg)
		}
	}
}

// P1107: a folder replaces nothing, and is not replaced; this comes before ErrFull.
func TestRenameOverFolders(t *testing.T) {
	for _, image := range [][]api.Sector{world(), crowded(world())} {
		for _, c := range []call{
			rename("/e", "/y"), rename("/e", "/d"), rename("/d/f", "/d"), rename("/d/f", "/d/x"), rename("/e", "/d/x"),
			rename("/y", "/e"), rename("/d/x", "/d/f"), rename("/d/x", "/e"),
			rename("/y", "/d"), rename("/d", "/y"), rename("/d/x", "/d"), rename("/d/x", "/y"), rename("/d/x/g", "/d"), rename("/d/x/g", "/d/x"),
		} {
			refuses(t, image, c, api.ErrThere)
		}
	}
}

// P1108: the entry is cleared, with the tag of its folder; the inode and its blocks are left alone.
func TestUnlink(t *testing.T) {
	for _, image := range [][]api.Sector{world(), crowded(populous(world()))} {
		does(t, image, unlink("/e"), entryOp(3, 0, api.Sector{}))
		does(t, image, unlink("/d/f"), entryOp(2, 1, api.Sector{}))
		does(t, image, unlink("/d/x/g"), entryOp(6, 4, api.Sector{}))
		does(t, image, unlink("/y"), entryOp(7, 0, api.Sector{}))
		refuses(t, image, unlink("/d"), api.ErrBusy)
		refuses(t, image, unlink("/d/x"), api.ErrBusy)
		for _, path := range []string{"/no", "/gone", "/d/no", "/f", "/d/e", "/y/a"} {
			refuses(t, image, unlink(path), api.ErrNone)
		}
	}
}

// P1108: only names keep a folder from being removed, not entries whose inodes are Free. What is in a file is no name in a folder.
func TestUnlinkWhatSeemsFull(t *testing.T) {
	image := world()
	image[entryAt(1)] = in(5, "gone", 9)
	does(t, image, unlink("/y"), entryOp(7, 0, api.Sector{}))
	image[entryAt(9)] = in(5, "a", 3)
	refuses(t, image, unlink("/y"), api.ErrBusy)
	image = world()
	image[entryAt(1)] = in(3, "a", 5)
	does(t, image, unlink("/e"), entryOp(3, 0, api.Sector{}))
}

// P1104, P1107, P1108: of two entries by which a name exists, the lowest one counts.
func TestNamesTwice(t *testing.T) {
	image := world()
	image[entryAt(1)] = in(0, "e", 2)
	image[entryAt(9)] = in(0, "y", 6)
	does(t, image, unlink("/e"), entryOp(1, 0, api.Sector{}))
	does(t, image, unlink("/y"), entryOp(7, 0, api.Sector{}))
	does(t, image, rename("/e", "/z"), entryOp(1, 0, in(0, "z", 2)))
	does(t, image, rename("/d/f", "/e"), entryOp(1, 0, in(0, "e", 2)), barrier, entryOp(2, 1, api.Sector{}))
	does(t, image, rename("/e", "/d/f"), entryOp(2, 1, in(1, "f", 2)), barrier, entryOp(1, 0, api.Sector{}))
	does(t, image, rename("/e", "/e"))
	refuses(t, image, rename("/e", "/y"), api.ErrThere)
	refuses(t, image, create("/e"), api.ErrThere)
	image[entryAt(1)] = in(0, "e", 9)
	does(t, image, unlink("/e"), entryOp(3, 0, api.Sector{}))
}

// P1107: one file with two names is renamed over itself as over another file.
func TestRenameOneFileWithTwoNames(t *testing.T) {
	image := world()
	image[entryAt(1)] = in(5, "b", 3)
	does(t, image, rename("/e", "/y/b"), entryOp(1, 5, in(5, "b", 3)), barrier, entryOp(3, 0, api.Sector{}))
	does(t, image, rename("/y/b", "/e"), entryOp(3, 0, in(0, "e", 3)), barrier, entryOp(1, 5, api.Sector{}))
}

// P1107: two paths can lead to one folder; then both folders are the same, and a name exists by the same entry.
func TestOneFolderWithTwoPaths(t *testing.T) {
	image := world()
	image[entryAt(1)] = in(0, "c", 1)
	does(t, image, rename("/d/f", "/c/f"))
	does(t, image, rename("/d/x", "/c/x"))
	does(t, image, rename("/d/f", "/c/h"), entryOp(2, 1, in(1, "h", 2)))
	does(t, image, rename("/d/x", "/c/h"), entryOp(5, 1, in(1, "h", 4)))
	refuses(t, image, rename("/d", "/c"), api.ErrThere)
	refuses(t, image, rename("/d", "/c/h"), api.ErrArg)
	does(t, image, unlink("/c/f"), entryOp(2, 1, api.Sector{}))
}

// P1107, P1108: a folder can be in itself on a disk that something else has written.
func TestFolderInItself(t *testing.T) {
	image := imageWith(sectors{inodeAt(1): folder, entryAt(0): in(0, "a", 1), entryAt(1): in(1, "a", 1)})
	refuses(t, image, unlink("/a"), api.ErrBusy)
	refuses(t, image, unlink("/a/a/a"), api.ErrBusy)
	// The same entry comes before the rule that a folder gets no more names.
	does(t, image, rename("/a/a", "/a/a/a"))
	does(t, image, rename("/a/a/a/a", "/a/a"))
	refuses(t, image, rename("/a", "/a/a"), api.ErrArg)
	refuses(t, image, rename("/a/a", "/a"), api.ErrThere)
	does(t, image, rename("/a/a/a", "/a/b"), entryOp(1, 1, in(1, "b", 1)))
	does(t, image, rename("/a/a", "/b"), entryOp(2, 0, in(0, "b", 1)), barrier, entryOp(1, 1, api.Sector{}))
	does(t, image, create("/a/a/a/b"), inodeOp(2, file(0)), entryOp(2, 1, in(1, "b", 2)))
}

// P1104, P1110: inodes, entries and blocks are free again after Unlink, and after another file has taken their name.
func TestWhatIsFreeAgain(t *testing.T) {
	f := mount(t, layout.Empty())
	all := func(l ...call) {
		t.Helper()
		for _, c := range l {
			if e := c.do(f); e != api.OK {
				t.Errorf("%s: %d", c.what, e)
			}
		}
	}
	all(create("/a"), create("/b"), create("/c"), appendTo("/b", row(40)), appendTo("/c", "c"), unlink("/a"), rename("/c", "/b"))
	first := len(f.Disk().Log())
	all(create("/d"), create("/e"), appendTo("/d", row(70)))
	want := []op{
		inodeOp(1, file(0)), entryOp(0, 0, in(0, "d", 1)), inodeOp(2, file(0)), entryOp(2, 0, in(0, "e", 2)),
		blockOp(1, 1, api.Sector([]byte(row(32)))), blockOp(1, 2, api.Sector([]byte(row(64)[32:]))), blockOp(1, 4, api.Sector{65, 66, 67, 68, 69, 70}), inodeOp(1, file(70, 1, 2, 4)),
	}
	if got := opsFrom(f.Disk(), first); !slices.Equal(got, want) {
		t.Errorf("%v, want\n%v", got, want)
	}
}

// P1110: 15 files fit, and the 16th is refused without a write.
func TestCapacity(t *testing.T) {
	f := mount(t, layout.Empty())
	for n := 1; n <= 16; n++ {
		path, want := "/"+string(rune('a'+n)), api.OK
		if n == 16 {
			want = api.ErrFull
		}
		if e := f.Create(path); e != want || f.Exists(path) != (want == api.OK) {
			t.Errorf("file %d: %d", n, e)
		}
	}
	if l := f.Disk().Log(); len(l) != 30 || l[28].W.At != inodeAt(15) || l[29].W.At != entryAt(14) {
		t.Errorf("%d writes", len(l))
	}
}
