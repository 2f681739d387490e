package sfs_test

import (
	"slices"
	"strings"
	"testing"

	"flotsam/api"
	"flotsam/bdisk"
	"flotsam/crash"
	"flotsam/layout"
	"flotsam/sfs"
)

// tree is the model of P1110: what is at each path, without inodes, entries and blocks. The root directory is at "/".
type tree map[string]thing

// thing is a folder, or a file with its bytes.
type thing struct {
	folder bool
	data   string
}

func newTree() tree { return tree{"/": {folder: true}} }

// names are those of a path, or false if it is none.
func names(path string) ([]string, bool) {
	if path == "/" {
		return nil, true
	}
	l := strings.Split(path, "/")
	if l[0] != "" || len(l) < 2 || len(l) > 5 {
		return nil, false
	}
	for _, name := range l[1:] {
		if len(name) < 1 || len(name) > 8 || name == "." || name == ".." || strings.Trim(name, "abcdefghijklmnopqrstuvwxyz0123456789._") != "" {
			return nil, false
		}
	}
	return l[1:], true
}

// find is what is at a path.
func (m tree) find(path string) (thing, api.Errno) {
	l, ok := names(path)
	if !ok {
		return thing{}, api.ErrName
	}
	x, at := m["/"], ""
	for _, name := range l {
		if !x.folder {
			return thing{}, api.ErrKind
		}
		at += "/" + name
		if x, ok = m[at]; !ok {
			return thing{}, api.ErrNone
		}
	}
	return x, api.OK
}

// above is the path of the folder of a path, or an error if it has none.
func above(path string) (string, api.Errno) {
	l, ok := names(path)
	if !ok {
		return "", api.ErrName
	}
	if len(l) == 0 {
		return "", api.ErrArg
	}
	return "/" + strings.Join(l[:len(l)-1], "/"), api.OK
}

// place is the error of the location of a path, and whether something is there.
func (m tree) place(path string) (bool, api.Errno) {
	parent, e := above(path)
	if e != api.OK {
		return false, e
	}
	x, e := m.find(parent)
	if e != api.OK {
		return false, e
	}
	if !x.folder {
		return false, api.ErrKind
	}
	_, there := m[path]
	return there, api.OK
}

// file is the file at a path.
func (m tree) file(path string) (thing, api.Errno) {
	x, e := m.find(path)
	if e == api.OK && x.folder {
		return thing{}, api.ErrKind
	}
	return x, e
}

// blocks are how many blocks all files have together.
func (m tree) blocks() int {
	n := 0
	for _, x := range m {
		n += (len(x.data) + 31) / 32
	}
	return n
}

func (m tree) add(path string, x thing) api.Errno {
	there, e := m.place(path)
	if e != api.OK {
		return e
	}
	if there {
		return api.ErrThere
	}
	if len(m) == 16 {
		return api.ErrFull
	}
	m[path] = x
	return api.OK
}

func (m tree) write(path string, off int, b string) api.Errno {
	x, e := m.file(path)
	if e != api.OK {
		return e
	}
	if off < 0 || off > len(x.data) {
		return api.ErrArg
	}
	if off+len(b) > 128 {
		return api.ErrFull
	}
	now := x.data[:off] + b
	if len(now) < len(x.data) {
		now += x.data[len(now):]
	}
	if m.blocks()-(len(x.data)+31)/32+(len(now)+31)/32 > 24 {
		return api.ErrFull
	}
	m[path] = thing{data: now}
	return api.OK
}

func (m tree) append(path string, b string) api.Errno {
	x, e := m.file(path)
	if e != api.OK {
		return e
	}
	return m.write(path, len(x.data), b)
}

func (m tree) truncate(path string, n int) api.Errno {
	x, e := m.file(path)
	if e != api.OK {
		return e
	}
	if n < 0 || n > len(x.data) {
		return api.ErrArg
	}
	m[path] = thing{data: x.data[:n]}
	return api.OK
}

func (m tree) rename(from, to string) api.Errno {
	for _, path := range []string{from, to} {
		if _, e := above(path); e != api.OK {
			return e
		}
	}
	there, e := m.place(from)
	if e != api.OK {
		return e
	}
	if !there {
		return api.ErrNone
	}
	taken, e := m.place(to)
	if e != api.OK || from == to {
		return e
	}
	if m[from].folder && strings.Count(to, "/") > strings.Count(from, "/") {
		return api.ErrArg
	}
	if taken && (m[from].folder || m[to].folder) {
		return api.ErrThere
	}
	moved := tree{}
	for path, x := range m {
		if rest, ok := strings.CutPrefix(path, from); ok && (rest == "" || rest[0] == '/') {
			moved[to+rest] = x
			delete(m, path)
		}
	}
	for path, x := range moved {
		m[path] = x
	}
	return api.OK
}

func (m tree) unlink(path string) api.Errno {
	there, e := m.place(path)
	if e != api.OK {
		return e
	}
	if !there {
		return api.ErrNone
	}
	for other := range m {
		if strings.HasPrefix(other, path+"/") {
			return api.ErrBusy
		}
	}
	delete(m, path)
	return api.OK
}

// story is a source of numbers from 0 to n - 1, the same ones for the same seed.
func story(seed uint64) func(n int) int {
	return func(n int) int {
		seed = seed*6364136223846793005 + 1442695040888963407
		return int(seed>>33) % n
	}
}

// somePath is a path of few names, so that the same ones come again, or sometimes none.
func somePath(next func(int) int) string {
	if next(40) == 0 {
		return []string{"/", "", "/A", "/a/", "/a/b/a/b/a", "/.."}[next(6)]
	}
	path := ""
	for range 1 + next(4)*next(2) {
		path += "/" + string("aabbc"[next(5)])
	}
	if next(5) == 0 {
		path += string(rune('a' + next(6)))
	}
	return path
}

// someBytes are up to 140 bytes, mostly few.
func someBytes(next func(int) int) string {
	b := make([]byte, next(1+[]int{4, 40, 140}[next(3)]))
	for i := range b {
		b[i] = byte(1 + next(255))
	}
	return string(b)
}

// someCall makes a call on files, and on the model, and returns how it is told and both results.
func someCall(next func(int) int, f *sfs.FS, m tree, heavy bool) (string, api.Errno, api.Errno) {
	path, kind := somePath(next), next(12)
	if heavy && kind > 6 {
		kind = next(7)
	}
	switch kind {
	case 0, 1:
		return "Create " + path, f.Create(path), m.add(path, thing{})
	case 2:
		return "Mkdir " + path, f.Mkdir(path), m.add(path, thing{folder: true})
	case 3, 4:
		off, b := next(140)-5, someBytes(next)
		if x, e := m.file(path); e == api.OK && next(4) > 0 {
			off = next(len(x.data) + 2)
		}
		return "Write " + path, f.Write(path, off, []byte(b)), m.write(path, off, b)
	case 5, 6:
		b := someBytes(next)
		return "Append " + path, f.Append(path, []byte(b)), m.append(path, b)
	case 7:
		n := next(140) - 5
		return "Truncate " + path, f.Truncate(path, n), m.truncate(path, n)
	case 8, 9:
		to := somePath(next)
		return "Rename " + path + " " + to, f.Rename(path, to), m.rename(path, to)
	}
	return "Unlink " + path, f.Unlink(path), m.unlink(path)
}

// compare compares what is read at a path.
func compare(t *testing.T, f *sfs.FS, m tree, path string) {
	t.Helper()
	_, foundE := m.find(path)
	want, wantE := m.file(path)
	if f.Exists(path) != (foundE == api.OK) {
		t.Errorf("Exists %s = %v", path, f.Exists(path))
	}
	if b, e := f.Read(path); string(b) != want.data || e != wantE {
		t.Errorf("Read %s = %q, %d, want %q, %d", path, b, e, want.data, wantE)
	}
	if n, e := f.Size(path); n != len(want.data) || e != wantE {
		t.Errorf("Size %s = %d, %d, want %d, %d", path, n, e, len(want.data), wantE)
	}
}

// P1110: all calls behave like operations on a tree of paths; the disk gets neither Syncs nor writes for what is refused.
func TestTree(t *testing.T) {
	results := map[string]int{}
	for seed := range 150 {
		next := story(uint64(seed))
		f, m := mount(t, layout.Empty()), newTree()
		for step := range 150 {
			before := len(f.Disk().Waiting())
			what, got, want := someCall(next, f, m, seed%3 == 0)
			if got != want {
				t.Fatalf("seed %d, step %d: %s = %d, want %d", seed, step, what, got, want)
			}
			if after := len(f.Disk().Waiting()); got != api.OK && after != before {
				t.Fatalf("seed %d, step %d: %s is refused, but writes", seed, step, what)
			}
			results[strings.Fields(what)[0]+string(rune('0'+got))]++
			compare(t, f, m, somePath(next))
		}
		for path := range m {
			compare(t, f, m, path)
		}
		if t.Failed() {
			t.Fatalf("seed %d", seed)
		}
	}
	// The calls must have met all that they can meet, or the model has said nothing of it.
	for _, call := range []string{"Create012456", "Mkdir012456", "Write01246", "Append0246", "Truncate0146", "Rename01456", "Unlink01467"} {
		name := strings.TrimRight(call, "0123456789")
		for _, e := range call[len(name):] {
			if results[name+string(e)] < 3 {
				t.Errorf("%s has returned %c %d times", name, e, results[name+string(e)])
			}
		}
	}
}

// settled is the file system of a new disk with the files of f, all of them durable.
func settled(t *testing.T, f *sfs.FS) *sfs.FS {
	t.Helper()
	d := f.Disk()
	for _, w := range d.Waiting() {
		d.Sync(w.Tag)
	}
	return mount(t, d.Safe())
}

// crashes calls with the file system after each crash, at each point of the log of f and with each choice without torn writes.
func crashes(t *testing.T, f *sfs.FS, base []api.Sector, with func(f *sfs.FS)) {
	t.Helper()
	log := f.Disk().Log()
	for point := range len(log) + 1 {
		s, ok := crash.At(base, log, point)
		choices, all := crash.All(s, false, 1000)
		if !ok || !all {
			t.Fatal("not all crashes are known")
		}
		for _, kept := range choices {
			image, ok := crash.Image(s, kept)
			d, e := bdisk.From(image)
			g, mountE := sfs.Mount(d)
			if !ok || e != api.OK || mountE != api.OK {
				t.Fatalf("no file system after a crash at %d, %d", point, kept)
			}
			with(g)
		}
	}
}

// P1111: a file that is renamed is found by one of both names after a crash, with its bytes; and a name that existed has the bytes of one of both files.
func TestRenameAndCrashes(t *testing.T) {
	over, moved, kept := 0, 0, 0
	for seed := range 1000 {
		next := story(uint64(seed) + 1000)
		f, m := mount(t, layout.Empty()), newTree()
		for range 60 {
			someCall(next, f, m, true)
		}
		f = settled(t, f)
		base := f.Disk().Safe()
		from, to := somePath(next), somePath(next)
		source, e := m.file(from)
		goal, goalE := m.file(to)
		if e != api.OK || f.Rename(from, to) != api.OK {
			continue
		}
		crashes(t, f, base, func(g *sfs.FS) {
			atFrom, fromE := g.Read(from)
			atTo, toE := g.Read(to)
			found := fromE == api.OK && string(atFrom) == source.data || toE == api.OK && string(atTo) == source.data
			if !found {
				t.Errorf("seed %d: %s to %s: neither name has the bytes", seed, from, to)
			}
			if goalE == api.OK && (toE != api.OK || string(atTo) != source.data && string(atTo) != goal.data) {
				t.Errorf("seed %d: %s to %s: the name of another file has %q", seed, from, to, atTo)
			}
		})
		switch {
		case from == to:
			kept++
		case goalE == api.OK:
			over++
		default:
			moved++
		}
	}
	if over < 30 || moved < 30 || kept < 30 {
		t.Errorf("only %d, %d, %d files were renamed", over, moved, kept)
	}
}

// P1111: what a crash can leave of each kind of Rename, by hand: one of both names, or both, but never neither.
func TestRenameCrashByHand(t *testing.T) {
	data := world()[blockAt(5)]
	rest := world()[blockAt(3)]
	bytes := string(data[:]) + string(rest[:8])
	for _, c := range []struct{ to, states string }{{"/d/h", "from to"}, {"/y/a", "both from to"}, {"/e", "both from to"}} {
		f := mount(t, world())
		if e := f.Rename("/d/f", c.to); e != api.OK {
			t.Fatal(e)
		}
		var states []string
		crashes(t, f, world(), func(g *sfs.FS) {
			from, _ := g.Read("/d/f")
			to, _ := g.Read(c.to)
			switch {
			case string(from) == bytes && string(to) == bytes:
				states = append(states, "both")
			case string(from) == bytes && len(to) == 0:
				states = append(states, "from")
			case len(from) == 0 && string(to) == bytes:
				states = append(states, "to")
			default:
				t.Errorf("to %s: %q, %q", c.to, from, to)
			}
		})
		slices.Sort(states)
		if got := strings.Join(slices.Compact(states), " "); got != c.states {
			t.Errorf("to %s: %s", c.to, got)
		}
	}
}
