package flush_test

import (
	"slices"
	"strings"
	"testing"

	"flotsam/api"
	"flotsam/crash"
	"flotsam/flush"
	"flotsam/layout"
	"flotsam/sfs"
)

// folders are those on a path, from / on.
func folders(path string) []string {
	l := []string{"/"}
	for i := range path {
		if i > 0 && path[i] == '/' {
			l = append(l, path[:i])
		}
	}
	return l
}

// crashed are the images after a crash at the end of the log of f, without torn writes: all of them.
func crashed(t *testing.T, f *sfs.FS) [][]api.Sector {
	t.Helper()
	log := f.Disk().Log()
	s, there := crash.At(layout.Empty(), log, len(log))
	choices, all := crash.All(s, false, 1<<api.MaxPending)
	if !there || !all {
		t.Fatal("not all crashes are known")
	}
	var l [][]api.Sector
	for _, kept := range choices {
		image, there := crash.Image(s, kept)
		if !there {
			t.Fatalf("no image of %d", kept)
		}
		l = append(l, image)
	}
	return l
}

// The example of the chapter: whatever a crash keeps, /a has the content x.
func TestExample(t *testing.T) {
	f := mount(t, layout.Empty())
	ok(t, f.Create("/a"), f.Append("/a", []byte("x")), flush.Fsync(f, "/a"), flush.Syncdir(f, "/"))
	for _, image := range crashed(t, f) {
		if b, e := mount(t, image).Read("/a"); string(b) != "x" || e != api.OK {
			t.Errorf("Read = %q, %d", b, e)
		}
	}
}

// P1205 by hand: a file is certain to be there after Fsync and each Syncdir, and not if one of them is missing, or is only an Fdatasync.
func TestEachSyncIsNeeded(t *testing.T) {
	const path, data = "/d/x/f", "bytes"
	steps := []call{{"Fsync", flush.Fsync}, {"Syncdir", flush.Syncdir}, {"Syncdir", flush.Syncdir}, {"Syncdir", flush.Syncdir}}
	paths := append([]string{path}, folders(path)...)
	for without := -1; without <= len(steps); without++ {
		f := mount(t, layout.Empty())
		// A Barrier would make a Sync of the last epoch settle all earlier ones.
		ok(t, f.Mkdir("/d"), f.Mkdir("/d/x"), f.Create(path), f.Append(path, []byte(data)))
		for i, s := range steps {
			switch {
			case i == without:
			case i == 0 && without == len(steps):
				ok(t, flush.Fdatasync(f, path))
			default:
				ok(t, s.do(f, paths[i]))
			}
		}
		lost := false
		for _, image := range crashed(t, f) {
			b, e := mount(t, image).Read(path)
			lost = lost || string(b) != data || e != api.OK
		}
		if lost != (without >= 0) {
			t.Errorf("without sync %d: lost = %v", without, lost)
		}
	}
}

// story is calls that chance picks, on the files of a disk that was Empty.
type story struct {
	t    *testing.T
	f    *sfs.FS
	seed uint64
	// certain are the files that P1205 promises, with their bytes.
	certain map[string]string
	// judged counts the files that were looked for after a crash, and lost those among the others that were not there.
	judged, lost int
}

// next is a number from 0 to n - 1, the same ones for the same seed.
func (s *story) next(n int) int {
	s.seed = s.seed*6364136223846793005 + 1442695040888963407
	return int(s.seed>>33) % n
}

// somePath is a path of few names, so that the same ones come again.
func (s *story) somePath() string {
	path := ""
	for range 1 + s.next(3) {
		path += "/" + string("aabc"[s.next(4)])
	}
	return path
}

// change makes a call that can change files, and returns the paths that it names.
func (s *story) change() ([]string, api.Errno) {
	path := s.somePath()
	b := make([]byte, 1+s.next(50))
	for i := range b {
		b[i] = byte(1 + s.next(255))
	}
	one := []string{path}
	switch s.next(12) {
	case 0, 1, 2:
		return one, s.f.Create(path)
	case 3, 4:
		return one, s.f.Mkdir(path)
	case 5:
		return one, s.f.Append(path, b)
	case 6:
		size, _ := s.f.Size(path)
		return one, s.f.Write(path, s.next(size+1), b)
	case 7:
		size, _ := s.f.Size(path)
		return one, s.f.Truncate(path, s.next(size+1))
	case 8, 9:
		to := s.somePath()
		return []string{path, to}, s.f.Rename(path, to)
	}
	return one, s.f.Unlink(path)
}

// sync makes a call of package flush, judges each crash, and checks P1204: it does not change what is read, and what it names is no longer pending.
func (s *story) sync(kind int, path string) api.Errno {
	d := s.f.Disk()
	first, now, before := len(d.Log()), image(d), len(d.Waiting())
	e := calls()[kind].do(s.f, path)
	if !slices.Equal(image(d), now) || len(d.Waiting()) > before {
		s.t.Fatalf("%s %s changes what is read", calls()[kind].name, path)
	}
	kinds := [][]int{{api.Data, api.Meta}, {api.Data}, {api.Dir, api.Meta}, nil, nil}[kind]
	for _, w := range d.Waiting() {
		if e == api.OK && slices.Contains(kinds, w.Tag.Kind) && w.Tag.ID == s.inode(path) {
			s.t.Fatalf("%s %s leaves %v", calls()[kind].name, path, w)
		}
	}
	s.judge(first)
	return e
}

// inode is the number of what is at a path, from the entries of the disk alone.
func (s *story) inode(path string) int {
	n := 0
	for _, name := range strings.Split(path, "/")[1:] {
		for k := range api.MaxEntries {
			b, _ := s.f.Disk().Read(api.Entries + k)
			if x, _ := layout.EntryOf(b); x.Used && x.Parent == n && x.Name == name {
				n = x.Target
				break
			}
		}
	}
	return n
}

// step makes one call, and judges each crash at its events. It returns the paths that the call names, if it has changed what is there.
func (s *story) step() []string {
	if s.next(4) == 0 {
		s.sync(s.next(len(calls())), s.somePath())
		return nil
	}
	first := len(s.f.Disk().Log())
	named, e := s.change()
	if e != api.OK {
		return nil
	}
	for path := range s.certain {
		if concerns(named, path) {
			delete(s.certain, path)
		}
	}
	s.judge(first)
	return named
}

// concerns reports whether one of the paths is the path or a folder on it.
func concerns(named []string, path string) bool {
	return slices.ContainsFunc(named, func(p string) bool { return p == path || slices.Contains(folders(path), p) })
}

// secure makes a file certain, with other calls between, unless one of them names it.
func (s *story) secure() {
	path := s.somePath()
	data, e := s.f.Read(path)
	for try := 0; try < 20 && e != api.OK; try++ {
		path = s.somePath()
		data, e = s.f.Read(path)
	}
	if e != api.OK {
		return
	}
	ok(s.t, s.sync(fsync, path))
	for _, folder := range folders(path) {
		for range s.next(3) {
			if concerns(s.step(), path) {
				return
			}
		}
		ok(s.t, s.sync(syncdir, folder))
	}
	s.certain[path] = string(data)
	s.judge(len(s.f.Disk().Log()) - 1)
}

// judge looks for the certain files after crashes at all points of the log behind the first one.
func (s *story) judge(first int) {
	log := s.f.Disk().Log()
	for point := first + 1; point <= len(log); point++ {
		state, there := crash.At(layout.Empty(), log, point)
		if !there {
			s.t.Fatalf("no state at %d", point)
		}
		for range 6 {
			g := mount(s.t, s.leave(state))
			for path, data := range s.certain {
				s.judged++
				if b, e := g.Read(path); string(b) != data || e != api.OK {
					s.t.Fatalf("%s is %q, %d after a crash at %d, want %q", path, b, e, point, data)
				}
			}
			if path := s.somePath(); s.f.Exists(path) && !g.Exists(path) {
				s.lost++
			}
		}
	}
}

// leave is an image after a crash, without torn writes. Pending writes are more here than crash.All takes.
func (s *story) leave(state crash.State) []api.Sector {
	image, n := slices.Clone(state.Safe), len(state.Waiting)
	if n == 0 {
		return image
	}
	last, one, how := state.Waiting[s.next(n)].Epoch, s.next(n), s.next(4)
	for i, w := range state.Waiting {
		kept := [...]bool{s.next(2) == 0, i == one, i != one, false}[how]
		if w.Epoch < last || w.Epoch == last && kept {
			image[w.At] = w.S
		}
	}
	return image
}

// P1205: what was Fsynced, and all folders on its path synced after that, is there after each crash, whatever else was called before, between and since.
func TestDurability(t *testing.T) {
	judged, deep, lost := 0, 0, 0
	for seed := range 300 {
		s := &story{t: t, f: mount(t, layout.Empty()), seed: uint64(seed), certain: map[string]string{}}
		for range 80 {
			s.step()
			if s.next(4) == 0 {
				s.secure()
			}
			for path := range s.certain {
				deep += min(len(folders(path))-1, 1)
			}
		}
		judged += s.judged
		lost += s.lost
	}
	// The story must have come to what it tells of, or it has said nothing.
	if judged < 10000 || deep < 5000 || lost < 1000 {
		t.Errorf("judged %d files, %d in folders, and %d others were lost", judged, deep, lost)
	}
}
