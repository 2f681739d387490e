package sfs_test

import (
	"math"
	"strings"
	"testing"

	"flotsam/api"
	"flotsam/sfs"
)

// The blocks of the file that most tests here write to, in its order; the lowest free ones are then 1, 4, 5 and 6.
var own = []int{7, 3, 20, 2}

// oneFile is an image with a file /d/a of that size at inode 5, with its blocks from own. All blocks of the disk have bytes that are not 0.
func oneFile(size int) []api.Sector {
	l := sectors{inodeAt(1): folder, entryAt(4): in(0, "d", 1), inodeAt(5): file(size, own[:(size+31)/32]...), entryAt(9): in(1, "a", 5)}
	for b := 1; b <= 24; b++ {
		l[blockAt(b)] = content(b)
	}
	return imageWith(l)
}

// content is what a block of oneFile has: each has other bytes.
func content(b int) api.Sector {
	return api.Sector([]byte(row(251))[8*b : 8*b+32])
}

// written are the operations of P1105: what the chapter says, byte by byte.
func written(size, off int, b string) []op {
	blocks := append([]int{}, own[:(size+31)/32]...)
	now := max(size, off+len(b))
	for _, free := range lowestBut(blocks) {
		if 32*len(blocks) < now {
			blocks = append(blocks, free)
		}
	}
	var l []op
	for i, block := range blocks {
		var s api.Sector
		if 32*i < size {
			s = content(block)
		}
		receives := false
		for j := range s {
			if at := 32*i + j; at >= off && at < off+len(b) {
				s[j] = b[at-off]
				receives = true
			}
		}
		if receives {
			l = append(l, blockOp(5, block, s))
		}
	}
	if now != size {
		l = append(l, inodeOp(5, file(now, blocks...)))
	}
	return l
}

// lowestBut are the four lowest blocks that are not among those.
func lowestBut(blocks []int) []int {
	var l []int
	for b := 1; len(l) < 4; b++ {
		taken := false
		for _, other := range blocks {
			taken = taken || other == b
		}
		if !taken {
			l = append(l, b)
		}
	}
	return l
}

// sizes are sizes of files, at and next to the ends of blocks.
func sizes() []int {
	return []int{0, 1, 15, 31, 32, 33, 63, 64, 65, 96, 97, 127, 128}
}

// P1105: every size, place and length, as the definition says.
func TestWrite(t *testing.T) {
	for _, size := range sizes() {
		for _, off := range append(sizes(), 16, 40, 100, 126) {
			for _, n := range append(sizes(), 2, 30, 34, 66, 95) {
				b := strings.Repeat("-#", n)[:n]
				switch {
				case off > size:
					refuses(t, oneFile(size), write("/d/a", off, b), api.ErrArg)
				case off+n > 128:
					refuses(t, oneFile(size), write("/d/a", off, b), api.ErrFull)
				default:
					does(t, oneFile(size), write("/d/a", off, b), written(size, off, b)...)
				}
			}
		}
	}
}

// P1105: what is written by hand: the previous content stays around the bytes, but a new block has 0 there, whatever was on the disk.
func TestWriteByHand(t *testing.T) {
	image := world()
	old5, old3 := image[blockAt(5)], image[blockAt(3)]
	inFirst := old5
	inFirst[4] = 'a'
	does(t, image, write("/d/f", 4, "a"), blockOp(2, 5, inFirst))
	atEnd, atStart := old5, old3
	atEnd[31], atStart[0] = 'b', 'c'
	does(t, image, write("/d/f", 31, "bc"), blockOp(2, 5, atEnd), blockOp(2, 3, atStart))
	// Behind the end of the file its last block has bytes too: they are previous content.
	longer := old3
	longer[8] = 'd'
	does(t, image, write("/d/f", 40, "d"), blockOp(2, 3, longer), inodeOp(2, file(41, 5, 3)))
	does(t, image, write("/e", 0, "x"), blockOp(3, 2, api.Sector{'x'}), inodeOp(3, file(1, 2)))
	does(t, image, write("/d/x/g", 64, "x"), blockOp(6, 2, api.Sector{'x'}), inodeOp(6, file(65, 1, 24, 2)))
	does(t, image, write("/d/x/g", 64, row(64)), blockOp(6, 2, api.Sector([]byte(row(32)))), blockOp(6, 4, api.Sector([]byte(row(64)[32:]))), inodeOp(6, file(128, 1, 24, 2, 4)))
}

// P1105: nothing is written for no bytes, and no inode if its size and its blocks stay.
func TestWriteNothing(t *testing.T) {
	for _, size := range sizes() {
		for off := range size + 1 {
			does(t, oneFile(size), write("/d/a", off, ""))
		}
		does(t, oneFile(size), appendTo("/d/a", ""))
		if size > 0 {
			s := content(own[0])
			does(t, oneFile(size), write("/d/a", 0, string(s[:1])), blockOp(5, own[0], s))
		}
	}
}

// P1105: Append is Write at the end, with its errors.
func TestAppend(t *testing.T) {
	for _, size := range sizes() {
		for n := range 135 {
			b := strings.Repeat("*", n)
			if size+n > 128 {
				refuses(t, oneFile(size), appendTo("/d/a", b), api.ErrFull)
			} else {
				does(t, oneFile(size), appendTo("/d/a", b), written(size, size, b)...)
			}
		}
	}
}

// P1105: places and lengths of all kinds, those among them whose sum no int can be. ErrArg comes before ErrFull.
func TestWriteRefuses(t *testing.T) {
	long := strings.Repeat("x", 100000)
	for _, size := range []int{0, 40, 128} {
		for _, off := range numbers() {
			if off >= 0 && off <= size {
				refuses(t, oneFile(size), write("/d/a", off, long), api.ErrFull)
				continue
			}
			for _, b := range []string{"", "x", long} {
				refuses(t, oneFile(size), write("/d/a", off, b), api.ErrArg)
			}
		}
		refuses(t, oneFile(size), appendTo("/d/a", long), api.ErrFull)
	}
}

// fewBlocks is oneFile of 33 bytes on a disk where other files leave only as many blocks free: 24, 23 ..
func fewBlocks(free int) []api.Sector {
	image := oneFile(33)
	next, inode := 1, 6
	for left := 22 - free; left > 0; inode++ {
		var blocks []int
		for ; len(blocks) < min(4, left); next++ {
			if next != own[0] && next != own[1] {
				blocks = append(blocks, next)
			}
		}
		left -= len(blocks)
		image[inodeAt(inode)] = file(32*len(blocks), blocks...)
		image[entryAt(inode+5)] = in(1, "n"+string(rune('a'+inode)), inode)
	}
	return image
}

// P1105: ErrFull if not enough blocks are free, without a write; what needs no more blocks than are free is done.
func TestWriteOnAFullDisk(t *testing.T) {
	for free := range 4 {
		image := fewBlocks(free)
		for _, off := range []int{0, 31, 33} {
			for n := range 129 - off {
				c := write("/d/a", off, strings.Repeat("*", n))
				if (off+n+31)/32-2 > free {
					refuses(t, image, c, api.ErrFull)
					continue
				}
				f := mount(t, image)
				if e := c.do(f); e != api.OK {
					t.Errorf("%d free: %d bytes at %d: %d", free, n, off, e)
				}
				want := max(33, off+n)
				if got, e := f.Size("/d/a"); got != want || e != api.OK {
					t.Errorf("%d free: %d bytes at %d: Size = %d, %d", free, n, off, got, e)
				}
			}
		}
		for _, off := range []int{-1, 34, math.MaxInt} {
			refuses(t, image, write("/d/a", off, row(100)), api.ErrArg)
		}
		does(t, image, truncate("/d/a", 32), inodeOp(5, file(32, own[0])))
	}
	// The highest block is given too.
	does(t, fewBlocks(1), write("/d/a", 33, row(63)), written33()...)
}

// written33 is what 63 bytes at 33 write if only block 24 is free.
func written33() []op {
	s := content(own[1])
	copy(s[1:], row(31))
	last := api.Sector([]byte(row(63)[31:]))
	return []op{blockOp(5, own[1], s), blockOp(5, 24, last), inodeOp(5, file(96, own[0], own[1], 24))}
}

// P1106: one write of the inode, without the blocks that are no longer needed, and none if the size stays.
func TestTruncate(t *testing.T) {
	for size := range 129 {
		for n := range size {
			does(t, oneFile(size), truncate("/d/a", n), inodeOp(5, file(n, own[:(n+31)/32]...)))
		}
		does(t, oneFile(size), truncate("/d/a", size))
	}
	for _, size := range sizes() {
		for _, n := range numbers() {
			if n < 0 || n > size {
				refuses(t, oneFile(size), truncate("/d/a", n), api.ErrArg)
			}
		}
	}
}

// P1106, P1105: the blocks that a file gives up are free for others, and what it had there does not come back.
func TestTruncateAndWriteAgain(t *testing.T) {
	f := mount(t, oneFile(128))
	for _, c := range []call{truncate("/d/a", 32), create("/b"), appendTo("/b", "b"), appendTo("/d/a", "a"), truncate("/d/a", 5), appendTo("/d/a", "cc")} {
		if e := c.do(f); e != api.OK {
			t.Errorf("%s: %d", c.what, e)
		}
	}
	s := content(own[0])
	reads(t, f, "/d/a", string(s[:5])+"cc")
	reads(t, f, "/b", "b")
	if x, _ := f.Disk().Read(blockAt(1)); x != (api.Sector{'b'}) {
		t.Errorf("block 1 is %v", x)
	}
	if x, _ := f.Disk().Read(blockAt(2)); x != (api.Sector{'a'}) {
		t.Errorf("block 2 is %v", x)
	}
	s[5], s[6] = 'c', 'c'
	if x, _ := f.Disk().Read(blockAt(own[0])); x != s {
		t.Errorf("block %d is %v", own[0], x)
	}
}

// reads checks what Read and Size return for a file.
func reads(t *testing.T, f *sfs.FS, path, want string) {
	t.Helper()
	if b, e := f.Read(path); string(b) != want || e != api.OK {
		t.Errorf("Read %s = %q, %d, want %q", path, b, e, want)
	}
	if n, e := f.Size(path); n != len(want) || e != api.OK {
		t.Errorf("Size %s = %d, %d, want %d", path, n, e, len(want))
	}
}

// P1109: the bytes of the blocks in the order of the file, up to its size.
func TestRead(t *testing.T) {
	for size := range 129 {
		want := ""
		for _, b := range own {
			s := content(b)
			want += string(s[:])
		}
		reads(t, mount(t, oneFile(size)), "/d/a", want[:size])
		reads(t, mountPending(t, oneFile(size)), "/d/a", want[:size])
	}
}

// P1105, P1109: two files with the same block, on a disk that something else has written, share its bytes.
func TestSharedBlock(t *testing.T) {
	image := oneFile(40)
	image[inodeAt(8)] = file(2, own[1])
	image[entryAt(0)] = in(0, "b", 8)
	s := content(own[1])
	s[1] = '!'
	does(t, image, write("/b", 1, "!"), blockOp(8, own[1], s))
	f := mount(t, image)
	f.Write("/b", 0, []byte("??"))
	b, _ := f.Read("/d/a")
	if string(b[32:34]) != "??" {
		t.Errorf("Read = %q", b)
	}
}

// P1105: a sector that is not that of an inode is Free, so a name with such an inode does not exist.
func TestInodesOfNoSector(t *testing.T) {
	for _, s := range []api.Sector{{}, {3}, {1, 129, 1, 2, 3, 4}, {1, 33, 1}, {1, 33, 1, 1}, {1, 1, 25}, {1, 0, 1}, {1, 1, 1, 31: 1}, {2, 1, 1}} {
		image := oneFile(40)
		image[inodeAt(5)] = s
		refuses(t, image, write("/d/a", 0, ""), api.ErrNone)
		refuses(t, image, truncate("/d/a", 0), api.ErrNone)
		refuses(t, image, unlink("/d/a"), api.ErrNone)
		does(t, image, create("/d/a"), inodeOp(2, file(0)), entryOp(0, 1, in(1, "a", 2)))
	}
}
