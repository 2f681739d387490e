package sfs

import (
	"flotsam/alloc"
	"flotsam/api"
	"flotsam/look"
	"flotsam/sector"
)

// file returns the number of the file at a path, and its inode.
func (f *FS) file(path string) (int, api.Inode, api.Errno) {
	if !f.made() {
		return 0, api.Inode{}, api.ErrArg
	}
	n, e := look.Lookup(f.disk, path)
	if e != api.OK {
		return 0, api.Inode{}, e
	}
	x := look.Inode(f.disk, n)
	if x.Kind != api.File {
		return 0, api.Inode{}, api.ErrKind
	}
	return n, x, api.OK
}

// Write replaces the bytes of a file from off on by b, and lengthens it if they go past its end.
func (f *FS) Write(path string, off int, b []byte) api.Errno {
	n, x, e := f.file(path)
	if e != api.OK {
		return e
	}
	return f.put(n, x, off, b)
}

// Append writes b at the end of a file.
func (f *FS) Append(path string, b []byte) api.Errno {
	n, x, e := f.file(path)
	if e != api.OK {
		return e
	}
	return f.put(n, x, x.Size, b)
}

// put writes b from off on to file n, whose inode is x.
func (f *FS) put(n int, x api.Inode, off int, b []byte) api.Errno {
	if off < 0 || off > x.Size {
		return api.ErrArg
	}
	if off+len(b) > api.MaxFile {
		return api.ErrFull
	}
	grown, ok := f.grow(x, off+len(b))
	if !ok {
		return api.ErrFull
	}
	steps := f.fill(n, x.Blocks, grown.Blocks, off, b)
	if grown != x {
		steps = append(steps, inodeStep(n, grown))
	}
	return f.perform(steps...)
}

// grow returns x with at least that size, and with as many more blocks as it requires, or false if they are not free.
func (f *FS) grow(x api.Inode, size int) (api.Inode, bool) {
	if size <= x.Size {
		return x, true
	}
	has := required(x.Size)
	free, ok := alloc.Blocks(f.disk, required(size)-has)
	if !ok {
		return x, false
	}
	copy(x.Blocks[has:], free)
	x.Size = size
	return x, true
}

// required returns how many blocks a file of that size has.
func required(size int) int {
	return (size + api.Size - 1) / api.Size
}

// fill returns the steps that write b from off on to the blocks now of file n, of which it had those in old.
func (f *FS) fill(n int, old, now [api.FileBlocks]int, off int, b []byte) []step {
	var steps []step
	for len(b) > 0 {
		i, at := off/api.Size, off%api.Size
		part := b[:min(len(b), api.Size-at)]
		// The part is cut so that it fits.
		s, _ := sector.Put(f.content(old[i]), at, part)
		steps = append(steps, blockStep(n, now[i], s))
		off += len(part)
		b = b[len(part):]
	}
	return steps
}

// content returns the sector of block b, or all 0 if b is 0: then there is no block yet, whatever a deleted file has left where it will be.
func (f *FS) content(b int) api.Sector {
	if b == 0 {
		return api.Sector{}
	}
	// A disk that is mounted has the sectors of all blocks.
	s, _ := f.disk.Read(sectorOf(b))
	return s
}

// Truncate shortens a file to n bytes, and gives up the blocks that it no longer requires.
func (f *FS) Truncate(path string, n int) api.Errno {
	i, x, e := f.file(path)
	if e != api.OK {
		return e
	}
	if n < 0 || n > x.Size {
		return api.ErrArg
	}
	if n == x.Size {
		return api.OK
	}
	x.Size = n
	clear(x.Blocks[required(n):])
	return f.perform(inodeStep(i, x))
}

// Read returns the bytes of a file.
func (f *FS) Read(path string) ([]byte, api.Errno) {
	_, x, e := f.file(path)
	if e != api.OK {
		return nil, e
	}
	var l []api.Sector
	for _, b := range x.Blocks[:required(x.Size)] {
		l = append(l, f.content(b))
	}
	// The blocks of a file always have as many bytes as its size says.
	b, _ := sector.Gather(l, x.Size)
	return b, api.OK
}

// Size returns how many bytes a file has.
func (f *FS) Size(path string) (int, api.Errno) {
	_, x, e := f.file(path)
	return x.Size, e
}
