package check_test

import (
	"slices"
	"testing"

	"flotsam/api"
	"flotsam/check"
	"flotsam/crash"
	"flotsam/flush"
	"flotsam/layout"
	"flotsam/look"
	"flotsam/sfs"
)

// somePath is a path of few names, so that the same ones come again, or sometimes none.
func somePath(next func(int) int) string {
	if next(40) == 0 {
		return []string{"/", "", "/A", "/a/", "/a/b/a/b/a", "/.."}[next(6)]
	}
	path := ""
	for range 1 + next(4)*next(2) {
		path += "/" + string("aabbc"[next(5)])
	}
	if next(5) == 0 {
		path += string(rune('a' + next(6)))
	}
	return path
}

// someCall makes a call on files or a sync, and returns its name and its result. A heavy one is none that removes anything.
func someCall(next func(int) int, f *sfs.FS, heavy bool) (string, api.Errno) {
	path, kind := somePath(next), next(18)
	if heavy {
		kind = next(9)
	}
	b := make([]byte, next(1+[]int{4, 40, 140}[next(3)]))
	size, _ := f.Size(path)
	switch kind {
	case 0, 1, 2:
		return "Create", f.Create(path)
	case 3, 4:
		return "Mkdir", f.Mkdir(path)
	case 5:
		return "Write", f.Write(path, next(size+3)-1, b)
	case 6, 7:
		return "Append", f.Append(path, b)
	case 8:
		return "Fsync", flush.Fsync(f, path)
	case 9:
		return "Fdatasync", flush.Fdatasync(f, path)
	case 10:
		return "Syncdir", flush.Syncdir(f, path)
	case 11:
		return "Barrier", flush.Barrier(f)
	case 12:
		return "Truncate", f.Truncate(path, next(size+3)-1)
	case 13, 14, 15:
		return "Rename", f.Rename(path, somePath(next))
	}
	return "Unlink", f.Unlink(path)
}

// stays fails the test if the disk of f is not mounted and clean.
func stays(t *testing.T, what string, f *sfs.FS) {
	t.Helper()
	if l := check.Check(f.Disk()); len(l) != 0 || !check.Clean(f.Disk()) || !look.Mounted(f.Disk()) {
		t.Fatalf("%s leaves the problems %v", what, l)
	}
}

// starts are images that are mounted and clean: Empty, one with a tree and inodes in no entry, and one with folders deeper than paths are.
func starts() [][]api.Sector {
	short := with(chain(), sectors{inodeAt(4): file(0), entryAt(1): {}, entryAt(2): {}, entryAt(3): {}})
	return [][]api.Sector{layout.Empty(), world(), chain(), short}
}

// P1303: a disk that is mounted and clean remains so after every call on files and every sync that does not return ErrIO.
func TestStaysClean(t *testing.T) {
	results := map[string]int{}
	for seed := range 120 {
		next := story(uint64(seed))
		f := mount(t, starts()[seed/2%4])
		stays(t, "Mount", f)
		for range 150 {
			name, e := someCall(next, f, seed%2 == 0)
			stays(t, name, f)
			results[name+string(rune('0'+e))]++
		}
	}
	// The calls must have met all that they can meet, or the promise says nothing of it.
	for _, call := range []string{"Create012456", "Mkdir012456", "Write01246", "Append0246", "Truncate0146", "Rename01456", "Unlink01467", "Fsync0469", "Fdatasync0469", "Syncdir0469", "Barrier0"} {
		end := slices.IndexFunc([]byte(call), func(c byte) bool { return c >= '0' && c <= '9' })
		for _, e := range call[end:] {
			if n := results[call[:end]+string(e)]; n < 3 {
				t.Errorf("%s has returned %c %d times", call[:end], e, n)
			}
		}
	}
}

// P1303: a call on a disk with faults that returns another error than ErrIO, or none, leaves a clean disk clean; one that returns ErrIO can make problems.
func TestStaysCleanDespiteFaults(t *testing.T) {
	failed, kinds := 0, map[int]int{}
	for seed := range 300 {
		next := story(uint64(seed) + 1000)
		f := mount(t, starts()[seed%4])
		for range 60 {
			f.Disk().Fail(next(4), 2+next(4))
			name, e := someCall(next, f, seed%5 == 0)
			if e != api.ErrIO {
				stays(t, name, f)
				continue
			}
			failed++
			for _, p := range check.Check(f.Disk()) {
				kinds[p.Kind]++
			}
			if !check.Clean(f.Disk()) {
				break
			}
		}
	}
	if failed < 300 || kinds[check.Linked] < 10 || len(kinds) != 1 {
		t.Errorf("%d calls failed, and left problems %v", failed, kinds)
	}
}

// P1303 says nothing of a crash: it can keep a name and lose its inode, or the folder that it is in.
func TestProblemsAfterACrash(t *testing.T) {
	f := mount(t, layout.Empty())
	if a, b := f.Mkdir("/d"), f.Create("/d/f"); a != api.OK || b != api.OK {
		t.Fatalf("Mkdir = %d, Create = %d", a, b)
	}
	log := f.Disk().Log()
	state, there := crash.At(layout.Empty(), log, len(log))
	choices, whole := crash.All(state, false, 100)
	if !there || !whole || len(choices) != 16 {
		t.Fatal("not all crashes are known")
	}
	clean := 0
	seen := map[int]int{}
	for _, kept := range choices {
		image, _ := crash.Image(state, kept)
		d := from(t, image)
		agrees(t, "after a crash", d, image)
		if check.Clean(d) {
			clean++
		}
		for _, p := range check.Check(d) {
			seen[p.Kind]++
		}
	}
	// Clean are: neither name, with whatever inodes (4); /d with its inode, with or without the other inode (2); and both with both inodes.
	if clean != 7 || len(seen) != 2 || seen[check.Dangling] == 0 || seen[check.Lost] == 0 {
		t.Errorf("%d crashes leave a clean disk, the others problems of the kinds %v", clean, seen)
	}
}
