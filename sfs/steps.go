package sfs

import (
	"flotsam/api"
	"flotsam/layout"
)

// step is one change of a call: a write, whose Epoch is the disk's business, and whether a Barrier precedes it.
type step struct {
	api.Write
	barrier bool
}

// perform makes the steps one by one, until the first one that fails.
func (f *FS) perform(steps ...step) api.Errno {
	for _, s := range steps {
		if s.barrier {
			if e := f.disk.Barrier(); e != api.OK {
				return e
			}
		}
		if e := f.disk.Write(s.At, s.S, s.Tag); e != api.OK {
			return e
		}
	}
	return api.OK
}

// stepTo returns the step that writes s to a sector, with the tag of that kind and number.
func stepTo(at int, s api.Sector, kind, id int) step {
	return step{Write: api.Write{At: at, S: s, Tag: api.Tag{Kind: kind, ID: id}}}
}

// inodeStep returns the step that makes x inode n.
func inodeStep(n int, x api.Inode) step {
	// No call makes an inode that is not valid.
	s, _ := layout.Inode(x)
	return stepTo(api.Inodes+n, s, api.Meta, n)
}

// entryStep returns the step that makes x entry k.
func entryStep(k int, x api.Entry) step {
	// No call makes an entry that is not valid.
	s, _ := layout.Entry(x)
	return stepTo(api.Entries+k, s, api.Dir, x.Parent)
}

// clearStep returns the step after which entry k, which is one of that folder, is not used.
func clearStep(k, folder int) step {
	s, _ := layout.Entry(api.Entry{})
	return stepTo(api.Entries+k, s, api.Dir, folder)
}

// later returns s with a Barrier before it, so that no crash keeps it and loses a write of an earlier step.
func later(s step) step {
	s.barrier = true
	return s
}

// blockStep returns the step that writes s to block b of inode n.
func blockStep(n, b int, s api.Sector) step {
	return stepTo(sectorOf(b), s, api.Data, n)
}

// sectorOf returns the sector in which block b is stored: blocks are counted from 1 on.
func sectorOf(b int) int {
	return api.Blocks + b - 1
}
