package view_test

import (
	"slices"
	"strings"
	"testing"
	"unsafe"

	"flotsam/api"
	"flotsam/bdisk"
	"flotsam/layout"
	"flotsam/sfs"
	"flotsam/view"
)

// sectors are what an image has at these places; elsewhere it is that of Empty.
type sectors map[int]api.Sector

// Where inode n, entry k and block b are.
func inodeAt(n int) int { return 1 + n }
func entryAt(k int) int { return 17 + k }
func blockAt(b int) int { return 40 + b }

// folder is the sector of a folder's inode.
var folder = api.Sector{2}

// file is the sector of a file's inode.
func file(size int, blocks ...int) api.Sector {
	s := api.Sector{1, byte(size)}
	for i, b := range blocks {
		s[2+i] = byte(b)
	}
	return s
}

// in is the sector of the entry of a name in a folder.
func in(parent int, name string, target int) api.Sector {
	s := api.Sector{1, byte(parent), byte(target), byte(len(name))}
	copy(s[16:], name)
	return s
}

// with is the image Empty with these sectors changed.
func with(l sectors) []api.Sector {
	image := layout.Empty()
	for at, s := range l {
		image[at] = s
	}
	return image
}

// from is the disk with an image.
func from(t *testing.T, image []api.Sector) *bdisk.Disk {
	t.Helper()
	d, e := bdisk.From(image)
	if e != api.OK {
		t.Fatalf("no disk with %d sectors: %d", len(image), e)
	}
	return d
}

// pending is a disk of which the whole image is still pending, and which had other sectors before.
func pending(t *testing.T, image []api.Sector) *bdisk.Disk {
	t.Helper()
	d := from(t, slices.Repeat([]api.Sector{{9, 9, 9}}, len(image)))
	for at, s := range image {
		if e := d.Write(at, s, api.Tag{Kind: api.Dir, ID: at}); e != api.OK {
			t.Fatalf("Write(%d) = %d", at, e)
		}
	}
	return d
}

// dir is the node of a folder, and leaf that of a file.
func dir(path string) api.Node        { return api.Node{Path: path, Dir: true} }
func leaf(path, data string) api.Node { return api.Node{Path: path, Data: data} }

// gives checks Tree on the disks with an image, whether it is durable or not.
func gives(t *testing.T, what string, image []api.Sector, all bool, want ...api.Node) {
	t.Helper()
	for how, d := range map[string]*bdisk.Disk{"durable": from(t, image), "pending": pending(t, image)} {
		if l, ok := view.Tree(d); !slices.Equal(l, want) || ok != all {
			t.Errorf("%s (%s): Tree = %v, %v, want %v, %v", what, how, l, ok, want, all)
		}
	}
}

// The example of the chapter.
func TestExample(t *testing.T) {
	d := from(t, layout.Empty())
	f, _ := sfs.Mount(d)
	f.Create("/a")
	f.Append("/a", []byte{7})
	f.Mkdir("/b")
	l, all := view.Tree(d)
	if !slices.Equal(l, []api.Node{leaf("/a", "\x07"), dir("/b")}) || !all {
		t.Errorf("Tree = %v, %v", l, all)
	}
	if s, ok := view.Show(l); s != "/a \"\\07\"\n/b/\n" || !ok {
		t.Errorf("Show = %q, %v", s, ok)
	}
}

// P1402: names come in increasing order, and what is in a folder follows it before all that is beside it.
func TestOrder(t *testing.T) {
	gives(t, "Empty", layout.Empty(), true)
	image := with(sectors{
		inodeAt(1): folder, inodeAt(2): folder, inodeAt(3): file(0), inodeAt(4): file(3, 1), inodeAt(5): folder, blockAt(1): {'x', 'y', 'z'},
		entryAt(0): in(0, "d.x", 3), entryAt(1): in(0, "d", 1), entryAt(2): in(1, "b", 4), entryAt(3): in(1, "a", 2), entryAt(5): in(2, "z", 3),
		entryAt(6): in(2, "...", 5), entryAt(7): in(0, "c", 4), entryAt(8): in(0, "d0", 5), entryAt(22): in(0, "_", 3), entryAt(23): in(0, "0", 3),
	})
	gives(t, "a tree", image, true, leaf("/0", ""), leaf("/_", ""), leaf("/c", "xyz"), dir("/d"), dir("/d/a"), dir("/d/a/..."), leaf("/d/a/z", ""), leaf("/d/b", "xyz"), leaf("/d.x", ""), dir("/d0"))
}

// P1402: a name that is there several times is one node, of the lowest entry whose target is not Free.
func TestNamesOfSeveralEntries(t *testing.T) {
	image := with(sectors{
		inodeAt(1): file(1, 2), inodeAt(2): folder, inodeAt(3): file(2, 3), inodeAt(4): {7}, blockAt(2): {'o', 'n'}, blockAt(3): {'t', 'w'},
		entryAt(0): in(0, "a", 9), entryAt(1): in(0, "a", 4), entryAt(2): in(0, "a", 3), entryAt(3): in(0, "a", 1), entryAt(4): in(0, "a", 2),
		entryAt(5): in(0, "b", 2), entryAt(6): in(0, "b", 3), entryAt(7): in(2, "a", 1), entryAt(8): in(0, "c", 4), entryAt(9): in(0, "e", 10),
	})
	gives(t, "names", image, true, leaf("/a", "tw"), dir("/b"), leaf("/b/a", "o"))
}

// P1402: only a Folder has nodes in it, whatever the entries say.
func TestNothingInFiles(t *testing.T) {
	names := sectors{inodeAt(1): file(0), inodeAt(2): folder, inodeAt(3): file(0), entryAt(0): in(0, "a", 1), entryAt(1): in(1, "b", 2), entryAt(2): in(2, "c", 3), entryAt(3): in(9, "d", 3)}
	gives(t, "in a file", with(names), true, leaf("/a", ""))
	for _, s := range []api.Sector{{}, file(0), file(32, 1), {2, 1}, {3}} {
		names[inodeAt(0)] = s
		gives(t, "without a root directory", with(names), true)
	}
	names[inodeAt(0)] = folder
	names[api.Super] = api.Sector{9}
	gives(t, "not mounted", with(names), true, leaf("/a", ""))
}

// chain is an image with one folder in the other, as deep as there are inodes, and with a file beside each.
func chain() []api.Sector {
	l := sectors{inodeAt(9): file(0)}
	for n := range 8 {
		l[inodeAt(n)] = folder
		l[entryAt(2*n)] = in(n, "f", 9)
		if n < 7 {
			l[entryAt(2*n+1)] = in(n, "d", n+1)
		}
	}
	return with(l)
}

// P1402: paths have at most four names, and what is deeper is no node that is missing.
func TestDepth(t *testing.T) {
	gives(t, "a chain", chain(), true, dir("/d"), dir("/d/d"), dir("/d/d/d"), dir("/d/d/d/d"), leaf("/d/d/d/f", ""), leaf("/d/d/f", ""), leaf("/d/f", ""), leaf("/f", ""))
}

// P1402: a folder can be in itself, and two in each other; they are nodes as often as there are paths.
func TestCircles(t *testing.T) {
	gives(t, "in itself", with(sectors{inodeAt(7): folder, entryAt(1): in(0, "l", 7), entryAt(2): in(7, "m", 7)}), true, dir("/l"), dir("/l/m"), dir("/l/m/m"), dir("/l/m/m/m"))
	two := with(sectors{inodeAt(1): folder, inodeAt(2): folder, entryAt(0): in(0, "x", 1), entryAt(1): in(1, "b", 2), entryAt(2): in(2, "a", 1), entryAt(3): in(2, "c", 3), inodeAt(3): file(0)})
	gives(t, "in each other", two, true, dir("/x"), dir("/x/b"), dir("/x/b/a"), dir("/x/b/a/b"), leaf("/x/b/c", ""))
	apart := with(sectors{inodeAt(1): folder, inodeAt(2): folder, entryAt(0): in(1, "a", 2), entryAt(1): in(2, "b", 1)})
	gives(t, "not in the root directory", apart, true)
}

// fan is an image in which so many names in the root directory are the same folder with so many files, and others are files, with the nodes that it has.
func fan(folders, files, others int) ([]api.Sector, []api.Node) {
	l := sectors{inodeAt(1): folder, inodeAt(2): file(0)}
	var all []api.Node
	k := 0
	add := func(parent int, name string, target int) {
		l[entryAt(k)] = in(parent, name, target)
		k++
	}
	for i := range folders {
		name := "d" + string(rune('a'+i))
		add(0, name, 1)
		all = append(all, dir("/"+name))
		for j := range files {
			all = append(all, leaf("/"+name+"/f"+string(rune('a'+j)), ""))
		}
	}
	for j := range files {
		add(1, "f"+string(rune('a'+j)), 2)
	}
	for i := range others {
		name := "z" + string(rune('a'+i))
		add(0, name, 2)
		all = append(all, leaf("/"+name, ""))
	}
	return with(l), all
}

// P1402: up to 64 nodes are all, of more the first 64 are returned.
func TestMost(t *testing.T) {
	if view.Most != 64 {
		t.Errorf("Most = %d", view.Most)
	}
	for _, c := range [][3]int{{8, 7, 0}, {8, 7, 1}, {8, 7, 2}, {9, 6, 0}, {9, 6, 1}, {9, 6, 2}, {13, 4, 0}, {11, 5, 0}, {7, 8, 0}, {7, 8, 1}, {7, 8, 2}, {12, 12, 0}, {23, 1, 0}, {0, 0, 24}, {1, 20, 3}} {
		image, all := fan(c[0], c[1], c[2])
		gives(t, "a fan", image, len(all) <= 64, all[:min(64, len(all))]...)
	}
}

// P1402: where a circle has very many nodes, the first 64 are returned.
func TestMostOfCircles(t *testing.T) {
	l := sectors{inodeAt(1): folder, entryAt(0): in(0, "r", 1)}
	for k := 1; k < 24; k++ {
		l[entryAt(k)] = in(1, string(rune('z'-k)), 1)
	}
	want := []api.Node{dir("/r")}
	for _, second := range "cde" {
		path := "/r/" + string(second)
		want = append(want, dir(path))
		for third := 'c'; third <= 'y'; third++ {
			want = append(want, dir(path+"/"+string(third)))
			for fourth := 'c'; fourth <= 'y'; fourth++ {
				want = append(want, dir(path+"/"+string(third)+"/"+string(fourth)))
			}
		}
	}
	gives(t, "a circle", with(l), false, want[:64]...)
}

// P1402: the bytes of files of all sizes, of all blocks, in the order of the file.
func TestBytes(t *testing.T) {
	image := layout.Empty()
	for b := 1; b <= 24; b++ {
		for i := range 32 {
			image[blockAt(b)][i] = byte(37*b + 11*i)
		}
	}
	image[blockAt(24)] = api.Sector{31: 0}
	image[entryAt(0)] = in(0, "f", 1)
	for _, blocks := range [][]int{{1, 2, 3, 4}, {9, 24, 1, 8}, {24, 23, 22, 1}, {17, 5, 6, 24}} {
		var bytes []byte
		for _, b := range blocks {
			bytes = append(bytes, image[blockAt(b)][:]...)
		}
		for size := range 129 {
			image[inodeAt(1)] = file(size, blocks[:(size+31)/32]...)
			gives(t, "a file", image, true, leaf("/f", string(bytes[:size])))
		}
	}
}

// P1402: what a disk lacks is all 0: names that are not there, files without bytes, or with bytes 0.
func TestShortDisks(t *testing.T) {
	image := with(sectors{
		inodeAt(1): file(65, 1, 24, 3), inodeAt(15): folder, entryAt(0): in(0, "b", 1), entryAt(1): in(0, "a", 15), entryAt(23): in(15, "c", 1),
		blockAt(1): {'x', 31: 'X'}, blockAt(24): {'y', 31: 'Y'}, blockAt(3): {'z'},
	})
	for n := 1; n <= 65; n++ {
		text := func(b int, s string) string {
			if blockAt(b) < n {
				return s
			}
			return strings.Repeat("\x00", len(s))
		}
		between := strings.Repeat("\x00", 30)
		data := text(1, "x"+between+"X") + text(24, "y"+between+"Y") + text(3, "z")
		var want []api.Node
		if n > entryAt(1) {
			want = append(want, dir("/a"))
		}
		if n > entryAt(23) {
			want = append(want, leaf("/a/c", data))
		}
		if n > entryAt(0) {
			want = append(want, leaf("/b", data))
		}
		gives(t, "a short disk", image[:n], true, want...)
	}
}

// The definition, and P1402: a nil disk, and one that bdisk has not created, has no sectors, and so no nodes, which are all.
func TestNoDisk(t *testing.T) {
	copied := *from(t, chain())
	for what, d := range map[string]*bdisk.Disk{"nil": nil, "zero": {}, "a copy": &copied} {
		if l, all := view.Tree(d); len(l) != 0 || !all {
			t.Errorf("%s: Tree = %v, %v", what, l, all)
		}
	}
}

// P1401: nothing is changed, not even which operations of the disk will fail, and these do not matter.
func TestNothingIsChanged(t *testing.T) {
	image, all := fan(8, 7, 1)
	d := from(t, image)
	tag := api.Tag{Kind: api.Dir}
	d.Write(entryAt(20), in(1, "new", 2), tag)
	d.Barrier()
	d.Write(entryAt(20), api.Sector{}, tag)
	d.Fail(1, 2)
	safe, waiting, log, epoch := d.Safe(), d.Waiting(), d.Log(), d.Epoch()
	for range 3 {
		if l, ok := view.Tree(d); !slices.Equal(l, all[:64]) || ok {
			t.Errorf("Tree = %v, %v", l, ok)
		}
	}
	if !slices.Equal(d.Safe(), safe) || !slices.Equal(d.Waiting(), waiting) || len(d.Log()) != len(log) || d.Epoch() != epoch {
		t.Error("the disk is another one")
	}
	if first, second, third, fourth := d.Barrier(), d.Barrier(), d.Barrier(), d.Barrier(); first != api.OK || second != api.ErrIO || third != api.ErrIO || fourth != api.OK {
		t.Errorf("the operations return %d, %d, %d and %d", first, second, third, fourth)
	}
}

// P1402: the nodes depend only on what the disk has, not on how it came there or what was asked before.
func TestTreeDependsOnTheDiskOnly(t *testing.T) {
	d := from(t, layout.Empty())
	f, _ := sfs.Mount(d)
	for _, path := range []string{"/c", "/b", "/b/x", "/a"} {
		f.Mkdir(path)
		view.Tree(d)
	}
	f.Create("/b/y")
	f.Append("/b/y", []byte("12"))
	f.Rename("/b/y", "/b/x/y")
	f.Unlink("/c")
	want := []api.Node{dir("/a"), dir("/b"), dir("/b/x"), leaf("/b/x/y", "12")}
	for what, d := range map[string]*bdisk.Disk{"the disk": d, "a copy": d.Clone()} {
		if l, all := view.Tree(d); !slices.Equal(l, want) || !all {
			t.Errorf("%s: Tree = %v, %v", what, l, all)
		}
	}
	f.Truncate("/b/x/y", 1)
	if l, _ := view.Tree(d); l[3] != leaf("/b/x/y", "1") || want[3].Data != "12" {
		t.Errorf("after Truncate: %v, before: %v", l, want)
	}
}

// texts are the texts of nodes.
func texts(l []api.Node) []string {
	var all []string
	for _, x := range l {
		all = append(all, x.Path, x.Data)
	}
	return all
}

// apart checks that no two texts share memory.
func apart(t *testing.T, l []string) {
	t.Helper()
	for i, a := range l {
		for k, b := range l[:i] {
			start, other := uintptr(unsafe.Pointer(unsafe.StringData(a))), uintptr(unsafe.Pointer(unsafe.StringData(b)))
			if start < other+uintptr(len(b)) && other < start+uintptr(len(a)) {
				t.Errorf("texts %d and %d share memory: %q, %q", k, i, b, a)
			}
		}
	}
}

// P1401: a changed result changes no other one, not even behind its end, and texts share no memory.
func TestTreeIsNewMemory(t *testing.T) {
	image := chain()
	image[inodeAt(9)] = file(40, 3, 4)
	d := from(t, image)
	first, _ := view.Tree(d)
	want := slices.Clone(first)
	second, _ := view.Tree(d)
	apart(t, append(texts(first), texts(second)...))
	all := first[:cap(first)]
	for i := range all {
		all[i] = leaf("/changed", "changed")
	}
	third, _ := view.Tree(d)
	if !slices.Equal(second, want) || !slices.Equal(third, want) {
		t.Errorf("Tree shares its memory: %v, %v", second, third)
	}
}
