package bdisk

import (
	"math"
	"slices"
	"testing"

	"flotsam/api"
)

// The tags of a file, of another one, and of a folder.
var (
	data  = api.Tag{Kind: api.Data, ID: 1}
	meta  = api.Tag{Kind: api.Meta, ID: 1}
	other = api.Tag{Kind: api.Data, ID: 2}
	dir   = api.Tag{Kind: api.Dir, ID: 0}
)

// full is a sector with the same byte everywhere.
func full(b byte) api.Sector {
	var s api.Sector
	for i := range s {
		s[i] = b
	}
	return s
}

// row is sectors of which each has another byte, from 101 on.
func row(sectors int) []api.Sector {
	var l []api.Sector
	for i := range sectors {
		l = append(l, full(byte(101+i)))
	}
	return l
}

// places are numbers of sectors of all kinds: those next to the limits, and the ends of int.
func places() []int {
	l := []int{-1 << 32, -65, -2, -1, 0, 1, 2, 63, 64, 65, 66, 67, 1 << 31, 1 << 32, 1<<32 + 1, 1 << 62, math.MaxInt - 1, math.MaxInt, math.MinInt, math.MinInt + 1}
	for n := 3; n < 63; n++ {
		l = append(l, n)
	}
	return l
}

// mustMake is a disk with that many sectors, all of them 0.
func mustMake(t *testing.T, sectors int) *Disk {
	t.Helper()
	d, e := New(sectors)
	if d == nil || e != api.OK {
		t.Fatalf("New(%d) = %v, %v", sectors, d, e)
	}
	return d
}

// want fails the test if the result of a call is another one.
func want(t *testing.T, call string, got, want api.Errno) {
	t.Helper()
	if got != want {
		t.Errorf("%s = %d, want %d", call, got, want)
	}
}

// letters shows sectors by their first bytes, as letters from a on; 0 is a dot.
func letters(l []api.Sector) string {
	var text []byte
	for _, s := range l {
		if s[0] == 0 {
			text = append(text, '.')
			continue
		}
		text = append(text, 'a'+s[0]-1)
	}
	return string(text)
}

// contents shows what the writes have written, in their order.
func contents(writes []api.Write) string {
	var l []api.Sector
	for _, w := range writes {
		l = append(l, w.S)
	}
	return letters(l)
}

// sameEvent compares events, with their tags one by one.
func sameEvent(a, b api.Event) bool {
	return a.Kind == b.Kind && a.W == b.W && slices.Equal(a.Tags, b.Tags)
}

// seen is what Read returns for all sectors.
func seen(t *testing.T, d *Disk) []api.Sector {
	t.Helper()
	var l []api.Sector
	for at := range d.Safe() {
		s, e := d.Read(at)
		want(t, "Read", e, api.OK)
		l = append(l, s)
	}
	return l
}

// model is a disk as the chapter defines it, without anything kept for speed.
type model struct {
	safe    []api.Sector
	waiting []api.Write
	epoch   int
	log     []api.Event
}

func (m *model) write(at int, s api.Sector, tag api.Tag) {
	w := api.Write{At: at, S: s, Tag: tag, Epoch: m.epoch}
	m.waiting = append(m.waiting, w)
	m.log = append(m.log, api.Event{Kind: api.EvWrite, W: w})
}

func (m *model) sync(tags ...api.Tag) {
	durable := make([]bool, len(m.waiting))
	for i, w := range m.waiting {
		durable[i] = slices.Contains(tags, w.Tag)
		for _, v := range m.waiting {
			if slices.Contains(tags, v.Tag) && w.Epoch < v.Epoch {
				durable[i] = true
			}
		}
	}
	var left []api.Write
	for i, w := range m.waiting {
		pending := !durable[i]
		for j := i + 1; j < len(m.waiting); j++ {
			if durable[j] && m.waiting[j].At == w.At {
				pending = false
			}
		}
		if durable[i] {
			m.safe[w.At] = w.S
		}
		if pending {
			left = append(left, w)
		}
	}
	m.waiting = left
	m.log = append(m.log, api.Event{Kind: api.EvSync, Tags: tags})
}

func (m *model) barrier() {
	m.epoch++
	m.log = append(m.log, api.Event{Kind: api.EvBarrier})
}

func (m *model) read(at int) api.Sector {
	for _, w := range slices.Backward(m.waiting) {
		if w.At == at {
			return w.S
		}
	}
	return m.safe[at]
}

// compare fails the test if d is not the disk that m is.
func compare(t *testing.T, d *Disk, m *model) {
	t.Helper()
	if !slices.Equal(d.Safe(), m.safe) {
		t.Errorf("Safe is %q, want %q", letters(d.Safe()), letters(m.safe))
	}
	if !slices.Equal(d.Waiting(), m.waiting) {
		t.Errorf("Waiting is %v, want %v", d.Waiting(), m.waiting)
	}
	if !slices.EqualFunc(d.Log(), m.log, sameEvent) {
		t.Errorf("Log is %v, want %v", d.Log(), m.log)
	}
	if d.Epoch() != m.epoch {
		t.Errorf("Epoch is %d, want %d", d.Epoch(), m.epoch)
	}
	for at := range m.safe {
		if s, e := d.Read(at); s != m.read(at) || e != api.OK {
			t.Errorf("Read(%d) = %v, %d, want %v", at, s, e, m.read(at))
		}
	}
}

// story yields numbers below n that depend on nothing but the seed.
func story(seed uint64) func(n int) int {
	return func(n int) int {
		seed = seed*6364136223846793005 + 1442695040888963407
		return int(seed >> 33 % uint64(n))
	}
}

// step makes the same operation on a disk and on a model.
func step(t *testing.T, next func(int) int, d *Disk, m *model) {
	t.Helper()
	tags := []api.Tag{data, meta, other, dir}
	switch next(8) {
	case 0:
		want(t, "Barrier", d.Barrier(), api.OK)
		m.barrier()
	case 1:
		from := next(len(tags) + 1)
		chosen := tags[from : from+next(len(tags)+1-from)]
		want(t, "Sync", d.Sync(chosen...), api.OK)
		m.sync(chosen...)
	default:
		at, s, tag := next(len(m.safe)), full(byte(1+next(255))), tags[next(len(tags))]
		want(t, "Write", d.Write(at, s, tag), api.OK)
		m.write(at, s, tag)
	}
}

// P503 to P506: a disk agrees with the definition after each operation of many sequences.
func TestDiskAgreesWithDefinition(t *testing.T) {
	for seed := range uint64(60) {
		next := story(seed)
		image := row(1 + next(6))
		d, e := From(image)
		want(t, "From", e, api.OK)
		m := &model{safe: slices.Clone(image)}
		for range 120 {
			step(t, next, d, m)
			compare(t, d, m)
		}
		if t.Failed() {
			t.Fatalf("with the seed %d", seed)
		}
	}
}

// P501: whatever is called on a disk that no constructor has returned, the results are ErrArg, nothing and 0.
func TestDisksOfNoConstructor(t *testing.T) {
	made := mustMake(t, 3)
	made.Write(1, full(1), data)
	made.Barrier()
	copied := *made
	for name, d := range map[string]*Disk{"nil": nil, "zero": {}, "new": new(Disk), "copied": &copied} {
		for range 2 {
			d.Fail(0, 1, 2)
			d.Fail()
			want(t, name+" Write", d.Write(0, full(2), data), api.ErrArg)
			want(t, name+" Write", d.Write(-1, full(2), data), api.ErrArg)
			want(t, name+" Sync", d.Sync(), api.ErrArg)
			want(t, name+" Sync", d.Sync(data, dir), api.ErrArg)
			want(t, name+" Barrier", d.Barrier(), api.ErrArg)
			for _, at := range places() {
				if s, e := d.Read(at); s != (api.Sector{}) || e != api.ErrArg {
					t.Errorf("%s Read(%d) = %v, %d", name, at, s, e)
				}
			}
			if len(d.Safe()) != 0 || len(d.Waiting()) != 0 || len(d.Log()) != 0 || d.Epoch() != 0 || d.Clone() != nil {
				t.Errorf("a disk that is %s has %v, %v, %v, %d, %v", name, d.Safe(), d.Waiting(), d.Log(), d.Epoch(), d.Clone())
			}
		}
	}
	compare(t, made, &model{
		safe:    make([]api.Sector, 3),
		waiting: []api.Write{{At: 1, S: full(1), Tag: data}},
		epoch:   1,
		log:     []api.Event{{Kind: api.EvWrite, W: api.Write{At: 1, S: full(1), Tag: data}}, {Kind: api.EvBarrier}},
	})
}

// P502: New makes disks of 1 to 65 sectors, all of them 0.
func TestNew(t *testing.T) {
	for _, n := range places() {
		d, e := New(n)
		if n < 1 || n > 65 {
			if d != nil || e != api.ErrArg {
				t.Errorf("New(%d) = %v, %d", n, d, e)
			}
			continue
		}
		if d == nil || e != api.OK {
			t.Errorf("New(%d) = %v, %d", n, d, e)
			continue
		}
		compare(t, d, &model{safe: make([]api.Sector, n)})
	}
}

// P502: From makes disks of 1 to 65 sectors, with their content.
func TestFrom(t *testing.T) {
	for n := range 140 {
		d, e := From(row(n))
		if n < 1 || n > 65 {
			if d != nil || e != api.ErrArg {
				t.Errorf("From %d sectors = %v, %d", n, d, e)
			}
			continue
		}
		if d == nil || e != api.OK {
			t.Errorf("From %d sectors = %v, %d", n, d, e)
			continue
		}
		compare(t, d, &model{safe: row(n)})
	}
	for _, image := range [][]api.Sector{nil, {}, row(100)[:0], make([]api.Sector, 100000)} {
		if d, e := From(image); d != nil || e != api.ErrArg {
			t.Errorf("From %d sectors = %v, %d", len(image), d, e)
		}
	}
}

// P502: the sectors behind the slice are not of the disk.
func TestFromTakesNoSectorsBehindTheSlice(t *testing.T) {
	d, e := From(row(65)[:2])
	want(t, "From", e, api.OK)
	want(t, "Write", d.Write(2, full(1), data), api.ErrArg)
	compare(t, d, &model{safe: row(2)})
}

// P503: what is written is read, and is not durable.
func TestWriteAndRead(t *testing.T) {
	d := mustMake(t, 5)
	want(t, "Write", d.Write(3, full(1), data), api.OK)
	if s, e := d.Read(3); s != full(1) || e != api.OK {
		t.Errorf("Read(3) = %v, %d", s, e)
	}
	if got := letters(d.Safe()); got != "....." {
		t.Errorf("Safe is %s", got)
	}
	want(t, "Write", d.Write(3, full(2), dir), api.OK)
	want(t, "Write", d.Write(4, full(3), data), api.OK)
	want(t, "Write", d.Write(3, full(0), data), api.OK)
	if got := letters(seen(t, d)); got != "....c" {
		t.Errorf("the sectors read %s", got)
	}
	wanted := []api.Write{{At: 3, S: full(1), Tag: data}, {At: 3, S: full(2), Tag: dir}, {At: 4, S: full(3), Tag: data}, {At: 3, S: full(0), Tag: data}}
	if !slices.Equal(d.Waiting(), wanted) {
		t.Errorf("Waiting is %v", d.Waiting())
	}
}

// P503: a sector that was not written reads its durable content.
func TestReadOfTheImage(t *testing.T) {
	d, e := From(row(3))
	want(t, "From", e, api.OK)
	want(t, "Write", d.Write(1, full(1), data), api.OK)
	if got := seen(t, d); !slices.Equal(got, []api.Sector{full(101), full(1), full(103)}) {
		t.Errorf("the sectors read %v", got)
	}
	if got := d.Safe(); !slices.Equal(got, row(3)) {
		t.Errorf("Safe is %v", got)
	}
}

// P503: there is no sector below 0, nor from the number of sectors on; a refused Write has no effect.
func TestWriteAndReadRefuse(t *testing.T) {
	for _, n := range []int{1, 4, 65} {
		d := mustMake(t, n)
		for _, at := range places() {
			if at >= 0 && at < n {
				continue
			}
			want(t, "Write", d.Write(at, full(1), data), api.ErrArg)
			if s, e := d.Read(at); s != (api.Sector{}) || e != api.ErrArg {
				t.Errorf("Read(%d) of %d sectors = %v, %d", at, n, s, e)
			}
		}
		compare(t, d, &model{safe: make([]api.Sector, n)})
		want(t, "Write", d.Write(n-1, full(1), data), api.OK)
		want(t, "Write", d.Write(0, full(1), data), api.OK)
	}
}

// P503, P504: any numbers make a tag, and tags are the same only if both numbers are.
func TestTags(t *testing.T) {
	tags := []api.Tag{{}, {Kind: 1, ID: 0}, {Kind: 0, ID: 1}, {Kind: 1, ID: 1}, {Kind: 2, ID: 1}, {Kind: 1, ID: 2}, {Kind: -1, ID: -1}, {Kind: math.MaxInt, ID: math.MinInt}, {Kind: math.MinInt, ID: math.MaxInt}, {Kind: 1 << 32, ID: 1}}
	for chosen, tag := range tags {
		d := mustMake(t, len(tags))
		for at, w := range tags {
			want(t, "Write", d.Write(at, full(1), w), api.OK)
		}
		want(t, "Sync", d.Sync(tag), api.OK)
		for at, s := range d.Safe() {
			if (s == full(1)) != (at == chosen) {
				t.Errorf("after a Sync of %v the write of %v is %v", tag, tags[at], s)
			}
		}
		if len(d.Waiting()) != len(tags)-1 {
			t.Errorf("after a Sync of %v, %d writes are pending", tag, len(d.Waiting()))
		}
	}
}

// tagOf are the tags by the letters that the stories below give them.
func tagOf(letter byte) api.Tag {
	switch letter {
	case 'd':
		return data
	case 'm':
		return meta
	case 'o':
		return other
	}
	return dir
}

func tagsOf(letters string) []api.Tag {
	var tags []api.Tag
	for _, letter := range []byte(letters) {
		tags = append(tags, tagOf(letter))
	}
	return tags
}

// told is a disk of 4 sectors after some operations: a number and a letter are a Write of the next of a, b, c .. to that sector with that tag; | is a Barrier; ! and letters are a Sync of their tags.
func told(t *testing.T, operations ...string) *Disk {
	t.Helper()
	d, next := mustMake(t, 4), byte(1)
	for _, operation := range operations {
		switch operation[0] {
		case '|':
			want(t, "Barrier", d.Barrier(), api.OK)
		case '!':
			want(t, "Sync", d.Sync(tagsOf(operation[1:])...), api.OK)
		default:
			want(t, "Write", d.Write(int(operation[0]-'0'), full(next), tagOf(operation[1])), api.OK)
			next++
		}
	}
	return d
}

// P504: what a Sync makes durable, what it drops, and what stays pending.
func TestSync(t *testing.T) {
	for _, c := range []struct {
		operations    []string
		safe, waiting string
	}{
		// Without pending writes, and without tags.
		{[]string{"!d"}, "....", ""},
		{[]string{"0d", "!"}, "....", "a"},
		{[]string{"0d", "|", "1d", "!"}, "....", "ab"},
		// The writes with the tag, wherever they stand, and no others.
		{[]string{"0d", "!d"}, "a...", ""},
		{[]string{"0d", "!m"}, "....", "a"},
		{[]string{"0d", "1m", "2d", "3r", "!d"}, "a.c.", "bd"},
		{[]string{"0d", "1m", "2o", "3r", "!mr"}, ".b.d", "ac"},
		{[]string{"0d", "1m", "2o", "3r", "!rm"}, ".b.d", "ac"},
		{[]string{"0d", "1m", "2o", "3r", "!rrmr"}, ".b.d", "ac"},
		{[]string{"0d", "1m", "2o", "3r", "!dmor"}, "abcd", ""},
		// Writes that come after a Sync are not of it, nor is a Sync repeated.
		{[]string{"0d", "!d", "1d"}, "a...", "b"},
		{[]string{"0d", "!d", "1d", "!m"}, "a...", "b"},
		{[]string{"0d", "!d", "1d", "!d"}, "ab..", ""},
		// All writes of earlier epochs, but only those of earlier ones.
		{[]string{"0m", "|", "1d", "!d"}, "ab..", ""},
		{[]string{"0m", "|", "1d", "2m", "!d"}, "ab..", "c"},
		{[]string{"0m", "|", "2m", "1d", "!d"}, "ac..", "b"},
		{[]string{"0m", "1d", "|", "2m", "!d"}, ".b..", "ac"},
		{[]string{"0m", "|", "1r", "|", "2d", "|", "3m", "!d"}, "abc.", "d"},
		// The greatest epoch counts, whichever tag it is of, and whether or not other tags have writes.
		{[]string{"0d", "1m", "|", "2m", "|", "3r", "!d"}, "a...", "bcd"},
		{[]string{"0d", "1m", "|", "2o", "|", "3r", "!dr"}, "abcd", ""},
		{[]string{"0d", "1m", "|", "2d", "3o", "!dr"}, "abc.", "d"},
		{[]string{"0d", "1m", "|", "2o", "|", "3r", "!ro"}, "abcd", ""},
		{[]string{"0m", "|", "|", "|", "1d", "!d"}, "ab..", ""},
		// A Barrier after the last write of the tags adds nothing.
		{[]string{"0m", "1d", "|", "!d"}, ".b..", "a"},
		{[]string{"0m", "|", "!d"}, "....", "a"},
		// The last write to a sector wins; an earlier one is dropped with it.
		{[]string{"0d", "0d", "!d"}, "b...", ""},
		{[]string{"0m", "0d", "!d"}, "b...", ""},
		{[]string{"0m", "0r", "0d", "!d"}, "c...", ""},
		{[]string{"0m", "1m", "0d", "1r", "!d"}, "c...", "bd"},
		{[]string{"0m", "0d", "0o", "!dm"}, "b...", "c"},
		// A later one that does not become durable stays pending, and so does an earlier one to another sector.
		{[]string{"0d", "0m", "!d"}, "a...", "b"},
		{[]string{"0d", "0m", "0d", "0m", "!d"}, "c...", "d"},
		{[]string{"1m", "0m", "0d", "!d"}, "c...", "a"},
		// The same across epochs.
		{[]string{"0m", "|", "0d", "!d"}, "b...", ""},
		{[]string{"0d", "|", "0m", "!d"}, "a...", "b"},
		{[]string{"0m", "|", "0r", "0d", "!d"}, "c...", ""},
		{[]string{"0m", "|", "0d", "0r", "!d"}, "b...", "c"},
		{[]string{"0m", "|", "0r", "1d", "!d"}, "ac..", "b"},
		// What was dropped does not come back.
		{[]string{"0m", "0d", "!d", "!m"}, "b...", ""},
		{[]string{"0m", "0d", "!d", "0d", "!m"}, "b...", "c"},
		// What became durable is replaced by a later Sync only.
		{[]string{"0d", "!d", "0d"}, "a...", "b"},
		{[]string{"0d", "!d", "0m", "!d"}, "a...", "b"},
		{[]string{"0d", "!d", "0m", "!m"}, "b...", ""},
	} {
		d := told(t, c.operations...)
		if got := letters(d.Safe()); got != c.safe {
			t.Errorf("after %v Safe is %s, want %s", c.operations, got, c.safe)
		}
		if got := contents(d.Waiting()); got != c.waiting {
			t.Errorf("after %v the pending writes are %q, want %q", c.operations, got, c.waiting)
		}
	}
}

// P504: a Barrier increases the epoch by one, whether or not anything is pending; a Sync does not; a pending write keeps its epoch.
func TestBarrier(t *testing.T) {
	d := mustMake(t, 2)
	for epoch := range 100 {
		if d.Epoch() != epoch {
			t.Errorf("after %d Barriers the epoch is %d", epoch, d.Epoch())
		}
		want(t, "Write", d.Write(epoch%2, full(byte(epoch)), dir), api.OK)
		want(t, "Sync", d.Sync(data), api.OK)
		want(t, "Barrier", d.Barrier(), api.OK)
	}
	for i, w := range d.Waiting() {
		if wanted := (api.Write{At: i % 2, S: full(byte(i)), Tag: dir, Epoch: i}); w != wanted {
			t.Errorf("pending write %d is %v, want %v", i, w, wanted)
		}
	}
	if len(d.Waiting()) != 100 {
		t.Errorf("%d writes are pending", len(d.Waiting()))
	}
	want(t, "Sync", d.Sync(dir), api.OK)
	if d.Epoch() != 100 {
		t.Errorf("after a Sync the epoch is %d", d.Epoch())
	}
}

// P505: the log has the operations that returned OK, with their epochs, and the tags as they were given; no Read is in it.
func TestLog(t *testing.T) {
	d := mustMake(t, 2)
	want(t, "Write", d.Write(1, full(1), data), api.OK)
	want(t, "Write", d.Write(2, full(2), data), api.ErrArg)
	want(t, "Sync", d.Sync(), api.OK)
	d.Read(1)
	d.Read(2)
	d.Safe()
	want(t, "Barrier", d.Barrier(), api.OK)
	d.Fail(0, 1, 2)
	want(t, "Write", d.Write(1, full(3), data), api.ErrIO)
	want(t, "Sync", d.Sync(dir), api.ErrIO)
	want(t, "Barrier", d.Barrier(), api.ErrIO)
	want(t, "Write", d.Write(0, full(4), dir), api.OK)
	want(t, "Sync", d.Sync(meta, dir, meta, other), api.OK)
	wanted := []api.Event{
		{Kind: api.EvWrite, W: api.Write{At: 1, S: full(1), Tag: data}},
		{Kind: api.EvSync},
		{Kind: api.EvBarrier},
		{Kind: api.EvWrite, W: api.Write{At: 0, S: full(4), Tag: dir, Epoch: 1}},
		{Kind: api.EvSync, Tags: []api.Tag{meta, dir, meta, other}},
	}
	if got := d.Log(); !slices.EqualFunc(got, wanted, sameEvent) {
		t.Errorf("Log is %v, want %v", got, wanted)
	}
}

// request makes operation i of a row in which Writes, Syncs and Barriers take turns.
func request(d *Disk, i int) api.Errno {
	switch i % 3 {
	case 0:
		return d.Write(0, full(byte(i)), data)
	case 1:
		return d.Sync(data)
	}
	return d.Barrier()
}

// P505: the operations with the given numbers fail, and no others.
func TestFail(t *testing.T) {
	for _, numbers := range [][]int{
		nil,
		{0},
		{1},
		{2},
		{0, 1, 2},
		{5, 3},
		{4, 4, 4},
		{-1},
		{-1, 0, -2, math.MinInt},
		{math.MaxInt, 7},
		{1 << 32, -1 << 32, 1<<32 + 1},
		{0, 1, 2, 3, 4, 5, 6, 7, 8, 9, 10, 11},
	} {
		d := mustMake(t, 1)
		request(d, 0)
		d.Fail(numbers...)
		for i := range 12 {
			wanted := api.OK
			if slices.Contains(numbers, i) {
				wanted = api.ErrIO
			}
			if got := request(d, i); got != wanted {
				t.Errorf("after Fail(%v), operation %d returns %d", numbers, i, got)
			}
		}
	}
}

// P505: an operation that fails has no effect on anything that can be asked for.
func TestFailedOperationsHaveNoEffect(t *testing.T) {
	for i := range 3 {
		d := told(t, "0d", "1m", "!m", "|", "2r", "0o")
		before := d.Clone()
		d.Fail(0)
		want(t, "a failing operation", request(d, i), api.ErrIO)
		compare(t, d, &model{safe: before.Safe(), waiting: before.Waiting(), epoch: before.Epoch(), log: before.Log()})
	}
}

// P505: a refused operation has a number too, and stays refused; Reads and the other calls have none.
func TestFailCountsWhatIsRequested(t *testing.T) {
	d := mustMake(t, 1)
	d.Fail(0, 3, 5)
	want(t, "Write 0", d.Write(1, full(1), data), api.ErrArg)
	want(t, "Write 1", d.Write(-1, full(1), data), api.ErrArg)
	d.Read(0)
	d.Read(9)
	d.Safe()
	d.Waiting()
	d.Log()
	d.Epoch()
	d.Clone()
	want(t, "Barrier 2", d.Barrier(), api.OK)
	want(t, "Barrier 3", d.Barrier(), api.ErrIO)
	want(t, "Sync 4", d.Sync(), api.OK)
	want(t, "Sync 5", d.Sync(), api.ErrIO)
	want(t, "Sync 6", d.Sync(), api.OK)
}

// P505: a further Fail replaces the numbers, and counts from then on.
func TestFailReplaces(t *testing.T) {
	d := mustMake(t, 1)
	d.Fail(1, 3)
	want(t, "operation 0", d.Barrier(), api.OK)
	d.Fail(1)
	want(t, "operation 0", d.Barrier(), api.OK)
	want(t, "operation 1", d.Barrier(), api.ErrIO)
	want(t, "operation 2", d.Barrier(), api.OK)
	want(t, "operation 3", d.Barrier(), api.OK)
	for _, none := range [][]int{nil, {}, {-1}} {
		d.Fail(0, 1)
		d.Fail(none...)
		want(t, "operation 0", d.Barrier(), api.OK)
		want(t, "operation 1", d.Barrier(), api.OK)
	}
}

// P505: a copy is what the disk is, and each of both goes on alone; so do a copy of the copy and the disk.
func TestClone(t *testing.T) {
	for seed := range uint64(20) {
		next := story(seed)
		d, e := From(row(3))
		want(t, "From", e, api.OK)
		m := &model{safe: row(3)}
		for range 20 + seed {
			step(t, next, d, m)
		}
		c := d.Clone().Clone()
		n := &model{safe: slices.Clone(m.safe), waiting: slices.Clone(m.waiting), epoch: m.epoch, log: slices.Clone(m.log)}
		compare(t, c, n)
		for range 30 {
			step(t, next, d, m)
			compare(t, c, n)
		}
		for range 30 {
			step(t, next, c, n)
			compare(t, d, m)
			compare(t, c, n)
		}
	}
}

// P505: a copy that goes on in turns with the disk does not write to the same memory.
func TestCloneInTurns(t *testing.T) {
	for count := range 40 {
		d, m := mustMake(t, 2), &model{safe: make([]api.Sector, 2)}
		for i := range count {
			want(t, "Write", d.Write(0, full(byte(i)), data), api.OK)
			m.write(0, full(byte(i)), data)
		}
		c := d.Clone()
		n := &model{safe: slices.Clone(m.safe), waiting: slices.Clone(m.waiting), log: slices.Clone(m.log)}
		want(t, "Write", d.Write(0, full(101), data), api.OK)
		m.write(0, full(101), data)
		want(t, "Write", c.Write(1, full(102), dir), api.OK)
		n.write(1, full(102), dir)
		compare(t, d, m)
		compare(t, c, n)
	}
}

// P505: the operations that will fail do so in a copy too, and Fail of one of both does not change the other.
func TestCloneFails(t *testing.T) {
	d := mustMake(t, 1)
	d.Fail(0, 2)
	want(t, "operation 0", d.Barrier(), api.ErrIO)
	c, other := d.Clone(), d.Clone()
	other.Fail(0)
	for _, disk := range []*Disk{d, c} {
		want(t, "operation 1", disk.Barrier(), api.OK)
		want(t, "operation 2", disk.Barrier(), api.ErrIO)
		want(t, "operation 3", disk.Barrier(), api.OK)
	}
	want(t, "operation 0 of another copy", other.Barrier(), api.ErrIO)
	want(t, "operation 1 of another copy", other.Barrier(), api.OK)
}

// P506: Sync and Barrier do not change what is read; what was synced is durable, or a later write to its sector is.
func TestSyncsAndReads(t *testing.T) {
	for seed := range uint64(60) {
		next := story(seed + 1000)
		d := mustMake(t, 3)
		for range 60 {
			tag := tagsOf("dmor")[next(4)]
			want(t, "Write", d.Write(next(3), full(byte(1+next(255))), tag), api.OK)
			if next(4) > 0 {
				continue
			}
			before, writes := seen(t, d), d.Waiting()
			want(t, "Barrier", d.Barrier(), api.OK)
			want(t, "Sync", d.Sync(tag), api.OK)
			if got := seen(t, d); !slices.Equal(got, before) {
				t.Fatalf("before a Sync the sectors read %v, and then %v", before, got)
			}
			for i, w := range writes {
				if w.Tag == tag && !durableSince(d, writes[i:]) {
					t.Fatalf("after a Sync of %v, %v is not durable, nor is a later write", tag, w)
				}
			}
		}
	}
}

// durableSince reports whether the first write, or a later one to its sector, is the durable content there, and the first one is no longer pending.
func durableSince(d *Disk, writes []api.Write) bool {
	if slices.Contains(d.Waiting(), writes[0]) {
		return false
	}
	return slices.ContainsFunc(writes, func(w api.Write) bool {
		return w.At == writes[0].At && d.Safe()[w.At] == w.S
	})
}

// P501: the arguments are not modified, nor what is behind them, and not kept.
func TestArgumentsAreNotShared(t *testing.T) {
	image, tags, numbers := row(5), tagsOf("dmor"), []int{3, 5, 0, 0}
	d, e := From(image[:3])
	want(t, "From", e, api.OK)
	want(t, "Write", d.Write(0, full(1), data), api.OK)
	want(t, "Sync", d.Sync(tags[:2]...), api.OK)
	d.Fail(numbers[:2]...)
	want(t, "Write", d.Write(1, full(2), data), api.OK)
	if !slices.Equal(image, row(5)) || !slices.Equal(tags, tagsOf("dmor")) || !slices.Equal(numbers, []int{3, 5, 0, 0}) {
		t.Errorf("the arguments are %v, %v, %v", image, tags, numbers)
	}
	clear(image)
	clear(tags)
	clear(numbers)
	if got := d.Safe(); !slices.Equal(got, []api.Sector{full(1), full(102), full(103)}) {
		t.Errorf("Safe is %v", got)
	}
	if got := seen(t, d); !slices.Equal(got, []api.Sector{full(1), full(2), full(103)}) {
		t.Errorf("the sectors read %v", got)
	}
	if got := d.Log()[1].Tags; !slices.Equal(got, tagsOf("dm")) {
		t.Errorf("the tags in the log are %v", got)
	}
	for i, wanted := range []api.Errno{api.OK, api.OK, api.ErrIO, api.OK, api.ErrIO} {
		if got := d.Barrier(); got != wanted {
			t.Errorf("operation %d returns %d", 1+i, got)
		}
	}
}

// wipe clears the results and all that is behind them.
func wipe(sectors []api.Sector, writes []api.Write, log []api.Event) {
	clear(sectors[:cap(sectors)])
	clear(writes[:cap(writes)])
	for _, event := range log {
		clear(event.Tags[:cap(event.Tags)])
	}
	clear(log[:cap(log)])
}

// P501: the results share no memory with the disk, with its copies, or with each other.
func TestResultsAreNotShared(t *testing.T) {
	operations := []string{"0d", "1m", "!mo", "|", "2r", "0o", "!d", "1d", "3r"}
	d, untouched := told(t, operations...), told(t, operations...)
	wanted := &model{safe: untouched.Safe(), waiting: untouched.Waiting(), epoch: untouched.Epoch(), log: untouched.Log()}
	c := d.Clone()
	for range 3 {
		wipe(d.Safe(), d.Waiting(), d.Log())
		compare(t, d, wanted)
		compare(t, c, wanted)
		wipe(c.Safe(), c.Waiting(), c.Log())
		compare(t, d, wanted)
		compare(t, c, wanted)
	}
	safe, waiting, log := d.Safe(), d.Waiting(), d.Log()
	wipe(d.Safe(), d.Waiting(), d.Log())
	want(t, "Write", d.Write(0, full(99), data), api.OK)
	want(t, "Sync", d.Sync(data, meta, other, dir), api.OK)
	want(t, "Write", d.Write(0, full(98), data), api.OK)
	if !slices.Equal(safe, wanted.safe) || !slices.Equal(waiting, wanted.waiting) || !slices.EqualFunc(log, wanted.log, sameEvent) {
		t.Errorf("results change with the disk to %v, %v, %v", safe, waiting, log)
	}
}

// P501: the slices of tags in one log share no memory, whichever Sync they are of.
func TestTagsOfOneLogAreSeparate(t *testing.T) {
	d, tags := mustMake(t, 1), tagsOf("dm")
	want(t, "Sync", d.Sync(tags...), api.OK)
	want(t, "Sync", d.Sync(tags...), api.OK)
	log := d.Log()
	clear(log[0].Tags[:cap(log[0].Tags)])
	if !slices.Equal(log[1].Tags, tagsOf("dm")) {
		t.Errorf("the tags of the second Sync are %v", log[1].Tags)
	}
}

// P501: a disk that has many pending writes, and a long log, still answers.
func TestManyOperations(t *testing.T) {
	d := mustMake(t, 65)
	for i := range 50000 {
		want(t, "Write", d.Write(i%64, full(byte(i%251)), data), api.OK)
		if s, e := d.Read(64); s != (api.Sector{}) || e != api.OK {
			t.Fatalf("Read(64) = %v, %d", s, e)
		}
	}
	want(t, "Sync", d.Sync(make([]api.Tag, 100000)...), api.OK)
	if len(d.Waiting()) != 50000 || len(d.Log()) != 50001 || len(d.Log()[50000].Tags) != 100000 {
		t.Errorf("%d writes are pending, %d events are in the log", len(d.Waiting()), len(d.Log()))
	}
	want(t, "Sync", d.Sync(data), api.OK)
	if len(d.Waiting()) != 0 || !slices.Equal(d.Safe(), seen(t, d)) {
		t.Error("after a Sync of everything something is pending, or is not durable")
	}
}
