package check_test

import (
	"slices"
	"testing"

	"flotsam/api"
	"flotsam/bdisk"
	"flotsam/check"
	"flotsam/layout"
)

// sectors are what an image has at these places; elsewhere it is that of world or of Empty.
type sectors map[int]api.Sector

// Where inode n and entry k are.
func inodeAt(n int) int { return 1 + n }
func entryAt(k int) int { return 17 + k }

// folder is the sector of a folder's inode.
var folder = api.Sector{2}

// file is the sector of a file's inode.
func file(size int, blocks ...int) api.Sector {
	s := api.Sector{1, byte(size)}
	for i, b := range blocks {
		s[2+i] = byte(b)
	}
	return s
}

// in is the sector of the entry of a name in a folder.
func in(parent int, name string, target int) api.Sector {
	s := api.Sector{1, byte(parent), byte(target), byte(len(name))}
	copy(s[16:], name)
	return s
}

// with is the image with these sectors changed.
func with(image []api.Sector, l sectors) []api.Sector {
	image = slices.Clone(image)
	for at, s := range l {
		image[at] = s
	}
	return image
}

// The tree of most tests is: folders /d, /d/x (inodes 1, 4); files /d/f, /e, /d/x/g (2, 3, 5). It has no problems.
// Inodes 6 to 8 are in no entry: a file with blocks that others have, a folder, and what is no inode. Inodes from 9 on are Free; entries 1, 4 and from 6 to 22 on are not used.
func world() []api.Sector {
	return with(layout.Empty(), sectors{
		inodeAt(1): folder, inodeAt(2): file(40, 5, 3), inodeAt(3): file(0), inodeAt(4): folder, inodeAt(5): file(64, 1, 24),
		inodeAt(6): file(96, 24, 3, 9), inodeAt(7): folder, inodeAt(8): {3},
		entryAt(0): in(0, "d", 1), entryAt(2): in(1, "f", 2), entryAt(3): in(0, "e", 3), entryAt(5): in(1, "x", 4), entryAt(23): in(4, "g", 5),
		64: file(1, 1),
	})
}

// from is the disk with an image.
func from(t *testing.T, image []api.Sector) *bdisk.Disk {
	t.Helper()
	d, e := bdisk.From(image)
	if e != api.OK {
		t.Fatalf("no disk with %d sectors: %d", len(image), e)
	}
	return d
}

// pending is a disk of which the whole image is still pending, and which had other sectors before.
func pending(t *testing.T, image []api.Sector) *bdisk.Disk {
	t.Helper()
	d := from(t, slices.Repeat([]api.Sector{{9, 9, 9}}, len(image)))
	for at, s := range image {
		if e := d.Write(at, s, api.Tag{Kind: api.Dir, ID: at}); e != api.OK {
			t.Fatalf("Write(%d) = %d", at, e)
		}
	}
	return d
}

// problems are given as pairs of a kind and a number.
func problems(l ...int) []check.Problem {
	var p []check.Problem
	for pair := range slices.Chunk(l, 2) {
		p = append(p, check.Problem{Kind: pair[0], N: pair[1]})
	}
	return p
}

// finds checks all calls on the disks with an image, whether it is durable or not.
func finds(t *testing.T, what string, image []api.Sector, want []check.Problem, reached []int) {
	t.Helper()
	for how, d := range map[string]*bdisk.Disk{"durable": from(t, image), "pending": pending(t, image)} {
		if got := check.Check(d); !slices.Equal(got, want) {
			t.Errorf("%s (%s): Check = %v, want %v", what, how, got, want)
		}
		if got := check.Clean(d); got != (len(want) == 0) {
			t.Errorf("%s (%s): Clean = %v, Check = %v", what, how, got, want)
		}
		if got := check.Reached(d); !slices.Equal(got, reached) {
			t.Errorf("%s (%s): Reached = %v, want %v", what, how, got, reached)
		}
	}
}

// all are the inodes that can be reached in world.
func all() []int { return []int{0, 1, 2, 3, 4, 5} }

// The example of the chapter, and P1302: a disk with a tree has no problems either, whatever is in what it does not use.
func TestClean(t *testing.T) {
	finds(t, "Empty", layout.Empty(), nil, []int{0})
	finds(t, "a tree", world(), nil, all())
	unused := layout.Empty()
	for n := 1; n < 16; n++ {
		unused[inodeAt(n)] = file(128, 1, 2, 3, 4)
	}
	for at := 41; at < 65; at++ {
		unused[at] = in(9, "a", 9)
	}
	finds(t, "files in no entry", unused, nil, []int{0})
}

// P1302: the kinds have these numbers.
func TestKinds(t *testing.T) {
	if got := []int{check.Odd, check.Dangling, check.Lost, check.Double, check.Linked, check.Shared}; !slices.Equal(got, []int{1, 2, 3, 4, 5, 6}) {
		t.Errorf("the kinds are %v", got)
	}
}

// P1302: Odd is each sector of an entry that is not one, however little is wrong; and then no entry is used there.
func TestOdd(t *testing.T) {
	for _, s := range []api.Sector{
		{0, 1}, {0, 0, 1}, {0, 0, 0, 1}, {16: 'a'}, {31: 1}, {2, 0, 6, 1, 16: 'a'}, {255, 0, 6, 1, 16: 'a'}, {1}, {1, 0, 6},
		{1, 16, 6, 1, 16: 'a'}, {1, 0, 0, 1, 16: 'a'}, {1, 0, 16, 1, 16: 'a'}, {1, 0, 6, 2, 16: 'a'}, {1, 0, 6, 9, 16: 'a'}, {1, 0, 6, 255, 16: 'a'},
		{1, 0, 6, 0, 16: 'a'}, {1, 0, 6, 1, 16: 'A'}, {1, 0, 6, 1, 16: '.'}, {1, 0, 6, 2, 16: 'a', 17: '/'}, {1, 0, 6, 1, 4: 1, 16: 'a'}, {1, 0, 6, 1, 16: 'a', 31: 1},
	} {
		for _, k := range []int{1, 4, 6, 22} {
			finds(t, "a sector of no entry", with(world(), sectors{entryAt(k): s}), problems(1, k), all())
		}
	}
	finds(t, "the other sectors", with(world(), sectors{0: {7}, inodeAt(9): {9}, inodeAt(15): {1, 1}, 41: {1, 1}, 64: {7, 7}}), nil, all())
	finds(t, "the entry of a file", with(world(), sectors{entryAt(23): {7}}), problems(1, 23), []int{0, 1, 2, 3, 4})
	finds(t, "the entry of a folder", with(world(), sectors{entryAt(0): {1, 0, 1, 1, 16: 'D'}}), problems(1, 0, 3, 2, 3, 5, 3, 23), []int{0, 3})
	every := sectors{}
	var want []int
	for k := range 24 {
		every[entryAt(k)] = api.Sector{1}
		want = append(want, 1, k)
	}
	finds(t, "all entries", with(world(), every), problems(want...), []int{0})
}

// P1302: Dangling is a used entry whose Target is Free, or has a sector of no inode.
func TestDangling(t *testing.T) {
	for _, n := range []int{8, 9, 15} {
		finds(t, "a name in the root directory", with(world(), sectors{entryAt(1): in(0, "n", n)}), problems(2, 1), all())
		finds(t, "a name in a folder", with(world(), sectors{entryAt(22): in(4, "n", n)}), problems(2, 22), all())
	}
	finds(t, "a file's inode is Free", with(world(), sectors{inodeAt(5): {}}), problems(2, 23), []int{0, 1, 2, 3, 4})
	finds(t, "a file's inode is none", with(world(), sectors{inodeAt(3): file(1)}), problems(2, 3), []int{0, 1, 2, 4, 5})
	finds(t, "a folder's inode is Free", with(world(), sectors{inodeAt(1): {}}), problems(2, 0, 3, 2, 3, 5, 3, 23), []int{0, 3})
	finds(t, "the deeper folder's inode is none", with(world(), sectors{inodeAt(4): {2, 1}}), problems(2, 5, 3, 23), []int{0, 1, 2, 3})
	finds(t, "a name in what is Free", with(world(), sectors{entryAt(6): in(9, "n", 10)}), problems(2, 6, 3, 6), all())
	finds(t, "a free inode in itself", with(world(), sectors{entryAt(6): in(9, "n", 9)}), problems(2, 6, 3, 6), all())
}

// P1302: Lost is a used entry whose Parent cannot be reached, or is not a Folder.
func TestLost(t *testing.T) {
	for what, parent := range map[string]int{"a file": 2, "an empty file": 3, "a file that cannot be reached": 6, "a folder that cannot be reached": 7, "no inode": 8, "what is Free": 9} {
		target := sectors{entryAt(1): in(parent, "n", 10), inodeAt(10): file(1, 2)}
		finds(t, "a name in "+what, with(world(), target), problems(3, 1), all())
	}
	finds(t, "a folder in itself", with(world(), sectors{entryAt(6): in(7, "n", 7)}), problems(3, 6), all())
	circle := with(world(), sectors{inodeAt(9): folder, inodeAt(10): folder, entryAt(6): in(7, "a", 9), entryAt(1): in(9, "b", 10), entryAt(22): in(10, "c", 7)})
	finds(t, "a circle of folders", circle, problems(3, 1, 3, 6, 3, 22), all())
	finds(t, "a circle that a name leads to", with(circle, sectors{entryAt(4): in(1, "n", 9)}), problems(5, 6), []int{0, 1, 2, 3, 4, 5, 7, 9, 10})
	finds(t, "a name for what can be reached", with(world(), sectors{entryAt(6): in(7, "n", 3)}), problems(3, 6, 5, 6), all())
	finds(t, "a name by which a folder cannot be reached", with(world(), sectors{entryAt(0): in(3, "d", 1)}), problems(3, 0, 3, 2, 3, 5, 3, 23), []int{0, 3})
	finds(t, "a file instead of a folder", with(world(), sectors{inodeAt(4): file(0)}), problems(3, 23), []int{0, 1, 2, 3, 4})
}

// P1302: the root directory can be reached whatever it is, but nothing else if it is not a Folder. Its names are lost then.
func TestRootOfOtherKinds(t *testing.T) {
	lost := []int{3, 0, 3, 2, 3, 3, 3, 5, 3, 23}
	for _, s := range []api.Sector{{}, {3}, {2, 1}, file(0), file(32, 7), file(1)} {
		finds(t, "the root directory is none", with(world(), sectors{inodeAt(0): s}), problems(lost...), []int{0})
		finds(t, "the root directory is none, and empty", with(layout.Empty(), sectors{inodeAt(0): s}), nil, []int{0})
	}
	finds(t, "the root directory has blocks of files", with(world(), sectors{inodeAt(0): file(96, 1, 7, 5)}), problems(append(lost, 6, 1, 6, 5)...), []int{0})
}

// P1302: the disk need not be mounted otherwise.
func TestSuperDoesNotMatter(t *testing.T) {
	finds(t, "without letters", with(world(), sectors{0: {}}), nil, all())
}

// P1302: Double is a used entry with the Parent and the Name of a lower one.
func TestDouble(t *testing.T) {
	more := func(l sectors) []api.Sector {
		l[inodeAt(10)], l[inodeAt(11)], l[inodeAt(12)] = file(0), folder, file(0)
		return with(world(), l)
	}
	reached := func(n ...int) []int { return append(all(), n...) }
	finds(t, "a higher entry", more(sectors{entryAt(6): in(1, "f", 10)}), problems(4, 6), reached(10))
	finds(t, "a lower entry", more(sectors{entryAt(1): in(1, "f", 10)}), problems(4, 2), reached(10))
	finds(t, "a folder", more(sectors{entryAt(22): in(0, "e", 11)}), problems(4, 22), reached(11))
	finds(t, "three entries", more(sectors{entryAt(1): in(4, "g", 10), entryAt(6): in(4, "g", 11)}), problems(4, 6, 4, 23), reached(10, 11))
	finds(t, "two names twice", more(sectors{entryAt(4): in(0, "d", 10), entryAt(1): in(0, "e", 11), entryAt(6): in(0, "d", 12)}), problems(4, 3, 4, 4, 4, 6), reached(10, 11, 12))
	finds(t, "the first folder with the name is empty", more(sectors{entryAt(1): in(1, "x", 11)}), problems(4, 5), reached(11))
	finds(t, "other folders", more(sectors{entryAt(1): in(0, "f", 10), entryAt(6): in(4, "f", 12)}), nil, reached(10, 12))
	finds(t, "other names", more(sectors{entryAt(1): in(1, "ff", 10), entryAt(6): in(1, "_", 12)}), nil, reached(10, 12))
	finds(t, "the same target", with(world(), sectors{entryAt(6): in(1, "f", 2)}), problems(4, 6, 5, 6), all())
	finds(t, "a free target", with(world(), sectors{entryAt(6): in(1, "f", 9)}), problems(2, 6, 4, 6), all())
	finds(t, "a free target of the lower one", with(world(), sectors{entryAt(1): in(1, "f", 9)}), problems(2, 1, 4, 2), all())
	finds(t, "lost names", more(sectors{entryAt(6): in(9, "a", 10), entryAt(7): in(9, "a", 12)}), problems(3, 6, 3, 7, 4, 7), all())
	finds(t, "a lower one that is odd", with(world(), sectors{entryAt(1): {1, 1, 9, 1, 16: 'f', 31: 1}}), problems(1, 1), all())
}

// P1302: Linked is a used entry with the Target of a lower one.
func TestLinked(t *testing.T) {
	finds(t, "a higher entry", with(world(), sectors{entryAt(4): in(0, "n", 2)}), problems(5, 4), all())
	finds(t, "a lower entry", with(world(), sectors{entryAt(1): in(0, "n", 5)}), problems(5, 23), all())
	finds(t, "in the same folder", with(world(), sectors{entryAt(6): in(1, "n", 2)}), problems(5, 6), all())
	finds(t, "three entries", with(world(), sectors{entryAt(1): in(0, "n", 5), entryAt(6): in(1, "n", 5)}), problems(5, 6, 5, 23), all())
	finds(t, "two files twice", with(world(), sectors{entryAt(6): in(0, "n", 3), entryAt(1): in(0, "m", 2)}), problems(5, 2, 5, 6), all())
	finds(t, "a folder", with(world(), sectors{entryAt(6): in(0, "n", 4)}), problems(5, 6), all())
	finds(t, "a folder in itself", with(world(), sectors{entryAt(6): in(1, "n", 1)}), problems(5, 6), all())
	finds(t, "a folder in one that it contains", with(world(), sectors{entryAt(6): in(4, "n", 1)}), problems(5, 6), all())
	finds(t, "targets that are Free", with(world(), sectors{entryAt(4): in(0, "n", 9), entryAt(6): in(1, "n", 9)}), problems(2, 4, 2, 6, 5, 6), all())
	finds(t, "a name that is lost", with(world(), sectors{entryAt(1): in(9, "n", 5)}), problems(3, 1, 5, 23), all())
	finds(t, "a lower one that is odd", with(world(), sectors{entryAt(1): {1, 1, 2, 1, 16: 'f', 31: 1}}), problems(1, 1), all())
}

// P1302: Shared is a block that several files have, each once, if they are taken.
func TestShared(t *testing.T) {
	finds(t, "the first block", with(world(), sectors{inodeAt(3): file(1, 1)}), problems(6, 1), all())
	finds(t, "the last block", with(world(), sectors{inodeAt(3): file(128, 2, 4, 6, 24)}), problems(6, 24), all())
	finds(t, "at another place of the file", with(world(), sectors{inodeAt(3): file(96, 8, 7, 5)}), problems(6, 5), all())
	finds(t, "all four", with(world(), sectors{inodeAt(3): file(128, 24, 5, 3, 1)}), problems(6, 1, 6, 3, 6, 5, 6, 24), all())
	finds(t, "of three files", with(world(), sectors{inodeAt(3): file(32, 5), inodeAt(5): file(64, 24, 5)}), problems(6, 5), all())
	finds(t, "other blocks", with(world(), sectors{inodeAt(3): file(128, 2, 4, 6, 7)}), nil, all())
	finds(t, "a file that is taken now", with(world(), sectors{entryAt(1): in(0, "n", 6)}), problems(6, 3, 6, 24), append(all(), 6))
	finds(t, "a file that is lost", with(world(), sectors{entryAt(1): in(9, "n", 6)}), problems(3, 1, 6, 3, 6, 24), all())
	finds(t, "one file by two names", with(world(), sectors{entryAt(6): in(0, "n", 2)}), problems(5, 6), all())
	finds(t, "a file whose entry is odd", with(world(), sectors{entryAt(23): {1, 4, 5, 1, 16: 'G'}, inodeAt(3): file(32, 24)}), problems(1, 23), []int{0, 1, 2, 3, 4})
	for _, s := range []api.Sector{{2, 32, 5}, {0, 32, 5}, {3, 32, 5}, {1, 32, 5, 3}, {1, 33, 5, 5}, {1, 129, 5, 3, 1, 24}, {1, 0, 5}} {
		finds(t, "what is no file", with(world(), sectors{inodeAt(3): s}), problems(2, 3), []int{0, 1, 2, 4, 5})
	}
}

// P1302: what Check returns is ordered by kind first, then by number, whatever the order on the disk is.
func TestOrder(t *testing.T) {
	image := with(world(), sectors{
		entryAt(22): {1}, entryAt(1): {1, 1}, entryAt(21): in(0, "q", 12), entryAt(4): in(1, "r", 13), entryAt(20): in(7, "s", 10), entryAt(6): in(3, "u", 11),
		entryAt(19): in(0, "d", 7), entryAt(7): in(1, "f", 6), entryAt(18): in(4, "v", 2), entryAt(8): in(4, "w", 3), inodeAt(10): file(32, 5), inodeAt(11): folder,
	})
	want := problems(1, 1, 1, 22, 2, 4, 2, 21, 3, 6, 4, 7, 4, 19, 5, 8, 5, 18, 6, 3, 6, 5, 6, 24)
	finds(t, "two of most kinds", image, want, []int{0, 1, 2, 3, 4, 5, 6, 7, 10})
}

// P1302: an entry can have all problems that there are of used ones.
func TestManyProblemsOfOneEntry(t *testing.T) {
	image := with(layout.Empty(), sectors{entryAt(0): in(9, "a", 9), entryAt(1): in(9, "a", 9)})
	finds(t, "the same entry twice", image, problems(2, 0, 2, 1, 3, 0, 3, 1, 4, 1, 5, 1), []int{0})
	every := sectors{}
	var want []int
	for k := range 24 {
		every[entryAt(k)] = in(15, "a", 15)
		want = append(want, 2, k, 3, k)
		if k > 0 {
			want = append(want, 4, k, 5, k)
		}
	}
	l := problems(want...)
	slices.SortFunc(l, func(a, b check.Problem) int { return (a.Kind-b.Kind)*100 + a.N - b.N })
	finds(t, "the same entry everywhere", with(layout.Empty(), every), l, []int{0})
}

// chain is an image with folders, each in the next one, and the last one in the root directory, so that the entries are met from the deepest one on.
func chain() []api.Sector {
	image := layout.Empty()
	for n := 1; n < 16; n++ {
		image[inodeAt(n)] = folder
		image[entryAt(n)] = in((n+1)%16, "a", n)
	}
	return image
}

// P1302: inodes are reached however deep they are, in whatever order their entries are, and listed in increasing order.
func TestReachedInAnyOrder(t *testing.T) {
	every := []int{0, 1, 2, 3, 4, 5, 6, 7, 8, 9, 10, 11, 12, 13, 14, 15}
	finds(t, "a chain", chain(), nil, every)
	turned := chain()
	slices.Reverse(turned[entryAt(0):entryAt(24)])
	finds(t, "the chain from its other end", turned, nil, every)
	finds(t, "a chain that is broken", with(chain(), sectors{entryAt(9): {}}), problems(3, 1, 3, 2, 3, 3, 3, 4, 3, 5, 3, 6, 3, 7, 3, 8), []int{0, 10, 11, 12, 13, 14, 15})
	finds(t, "a chain with a file", with(chain(), sectors{inodeAt(14): file(0)}), problems(3, 1, 3, 2, 3, 3, 3, 4, 3, 5, 3, 6, 3, 7, 3, 8, 3, 9, 3, 10, 3, 11, 3, 12, 3, 13), []int{0, 14, 15})
	flat := layout.Empty()
	for n := 1; n < 16; n++ {
		flat[inodeAt(n)] = file(0)
		flat[entryAt(24-n)] = in(0, string(rune('a'+n)), n)
	}
	finds(t, "all in the root directory", flat, nil, every)
}
