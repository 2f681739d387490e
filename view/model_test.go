package view_test

import (
	"slices"
	"strings"
	"testing"

	"flotsam/api"
	"flotsam/bdisk"
	"flotsam/layout"
	"flotsam/look"
	"flotsam/sfs"
	"flotsam/view"
)

// names are those of the compared disks: so few that many paths are found.
func names() []string { return []string{"a", "b", "b.", "b0", "..."} }

// allPaths are all paths of these names, in the order of a tree.
func allPaths() []string {
	var l [][]string
	for last := [][]string{nil}; len(last[0]) < 4; {
		var deeper [][]string
		for _, above := range last {
			for _, name := range names() {
				deeper = append(deeper, slices.Concat(above, []string{name}))
			}
		}
		l = append(l, deeper...)
		last = deeper
	}
	// Slices are compared name by name, and a shorter one comes before its continuations.
	slices.SortFunc(l, slices.Compare)
	var paths []string
	for _, x := range l {
		paths = append(paths, "/"+strings.Join(x, "/"))
	}
	return paths
}

// bytesOf are the bytes of a file, taken from the image at the blocks of the inode, one by one.
func bytesOf(image []api.Sector, x api.Inode) string {
	var b []byte
	for i := range x.Size {
		b = append(b, image[41+x.Blocks[i/32]-1][i%32])
	}
	return string(b)
}

// model has the nodes that P1404 requires: those of the paths that Lookup finds.
func model(d *bdisk.Disk, image []api.Sector, paths []string) []api.Node {
	var l []api.Node
	for _, path := range paths {
		n, e := look.Lookup(d, path)
		if e != api.OK {
			continue
		}
		x := look.Inode(d, n)
		l = append(l, api.Node{Path: path, Dir: x.Kind == api.Folder, Data: bytesOf(image, x)})
	}
	return l
}

// agrees compares Tree with the model, and its nodes with what they are read from, and reports whether there are more than 64.
func agrees(t *testing.T, what string, d *bdisk.Disk, image []api.Sector, paths []string) bool {
	t.Helper()
	want := model(d, image, paths)
	l, all := view.Tree(d)
	if !slices.Equal(l, want[:min(64, len(want))]) || all != (len(want) <= 64) {
		t.Errorf("%s: Tree = %v, %v, want %v", what, l, all, want)
	}
	s, ok := view.Show(l)
	if again, right := view.Read(s); !ok || !right || !slices.Equal(again, l) {
		t.Errorf("%s: Read(%q) = %v, %v, want %v", what, s, again, right, l)
	}
	return len(want) > 64
}

// story is a source of numbers from 0 to n - 1, the same ones for the same seed.
func story(seed uint64) func(n int) int {
	return func(n int) int {
		seed = seed*6364136223846793005 + 1442695040888963407
		return int(seed>>33) % n
	}
}

// someInode is a sector where an inode is looked for: mostly a folder's or a file's, sometimes none's.
func someInode(next func(int) int) api.Sector {
	switch next(8) {
	case 0:
		return api.Sector{byte(next(4)), byte(next(3))}
	case 1, 2:
		return file(33+next(32), 1+next(24), 1+next(24))
	}
	return folder
}

// someImage is an image with inodes, entries and blocks of all kinds, few or many.
func someImage(next func(int) int) []api.Sector {
	image := layout.Empty()
	for n := 1; n < 16; n++ {
		image[inodeAt(n)] = someInode(next)
	}
	few := 2 + next(4)
	for range 1 + next(60) {
		name := names()[next(len(names()))]
		s := in(next(few), name, 1+next(few))
		if next(12) == 0 {
			// The name itself stays one of those that are compared.
			s[next(16)]++
		}
		image[entryAt(next(24))] = s
	}
	for b := 1; b <= 24; b++ {
		for i := range 32 {
			image[blockAt(b)][i] = byte(next(256))
		}
	}
	if next(16) == 0 {
		image[next(2)] = someInode(next)
	}
	return image
}

// P1402 and P1404: Tree has exactly the paths that Lookup finds, in order, on all kinds of images.
func TestTreeIsWhatLookupFinds(t *testing.T) {
	next, paths := story(14), allPaths()
	long, short := 0, 0
	for range 150 {
		image := someImage(next)
		if agrees(t, "some image", from(t, image), image, paths) {
			long++
		} else {
			short++
		}
	}
	if long < 10 || short < 50 {
		t.Errorf("%d disks with more than 64 nodes, %d with fewer", long, short)
	}
}

// read is the image of a disk as it is read.
func read(d *bdisk.Disk) []api.Sector {
	var l []api.Sector
	for at := range api.Sectors {
		s, _ := d.Read(at)
		l = append(l, s)
	}
	return l
}

// someCall makes one call on files.
func someCall(next func(int) int, f *sfs.FS, paths []string) {
	path, other := paths[next(len(paths))], paths[next(len(paths))]
	switch next(16) {
	case 0, 1, 2, 3:
		f.Mkdir(path)
	case 4, 5, 6, 7:
		f.Create(path)
	case 8:
		f.Truncate(path, next(40))
	case 9:
		f.Rename(path, other)
	case 10:
		f.Unlink(path)
	default:
		b := make([]byte, next(70))
		for i := range b {
			b[i] = byte(next(256))
		}
		f.Append(path, b)
	}
}

// shallow are the paths of at most two names, and some longer ones: calls on these find something more often.
func shallow(paths []string) []string {
	return slices.DeleteFunc(slices.Clone(paths), func(path string) bool { return strings.Count(path, "/") > 2 && !strings.HasPrefix(path, "/b/b") })
}

// P1402 and P1404: so it has after calls on files, as Read and Exists of the file system tell, too.
func TestTreeIsWhatCallsHaveMade(t *testing.T) {
	next, paths := story(1404), allPaths()
	few, seen, filled := shallow(paths), 0, 0
	for range 20 {
		d := from(t, layout.Empty())
		f, _ := sfs.Mount(d)
		for range 10 {
			for range 40 {
				someCall(next, f, few)
			}
			agrees(t, "a tree", d, read(d), paths)
			l, _ := view.Tree(d)
			seen += len(l)
			for _, x := range l {
				b, e := f.Read(x.Path)
				if x.Dir && e != api.ErrKind || !x.Dir && (e != api.OK || string(b) != x.Data) || !f.Exists(x.Path) {
					t.Errorf("%v is read as %q, %d", x, b, e)
				}
				if x.Data != "" {
					filled++
				}
			}
		}
	}
	if seen < 1000 || filled < 100 {
		t.Errorf("only %d nodes were seen, %d of them with bytes", seen, filled)
	}
}
