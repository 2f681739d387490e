package crash

import (
	"math"
	"slices"
	"strconv"
	"testing"

	"flotsam/api"
	"flotsam/bdisk"
	"flotsam/choice"
	"flotsam/sector"
)

// The tags of a file, of another one, and of a folder.
var (
	data  = api.Tag{Kind: api.Data, ID: 1}
	meta  = api.Tag{Kind: api.Meta, ID: 1}
	other = api.Tag{Kind: api.Data, ID: 2}
	dir   = api.Tag{Kind: api.Dir, ID: 0}
)

// tagsOf are the tags by the letters that the stories below give them.
func tagsOf(letters string) []api.Tag {
	var tags []api.Tag
	for _, letter := range letters {
		tags = append(tags, map[rune]api.Tag{'d': data, 'm': meta, 'o': other, 'r': dir}[letter])
	}
	return tags
}

// halves is a sector that has one byte in its first half and another one in its second.
func halves(first, second byte) api.Sector {
	var s api.Sector
	for i := range 16 {
		s[i], s[16+i] = first, second
	}
	return s
}

// letter is a sector that has the same letter everywhere; a dot stands for 0.
func letter(l byte) api.Sector {
	if l == '.' {
		l = 0
	}
	return halves(l, l)
}

// show shows each sector by a letter, or by two if its halves are different.
func show(l []api.Sector) string {
	var text []byte
	for _, s := range l {
		first, second := max(s[0], '.'), max(s[31], '.')
		text = append(text, first)
		if first != second {
			text = append(text, second)
		}
	}
	return string(text)
}

// disk is sectors with these letters.
func disk(letters string) []api.Sector {
	var l []api.Sector
	for i := range len(letters) {
		l = append(l, letter(letters[i]))
	}
	return l
}

// contents shows what the writes have written, in their order.
func contents(writes []api.Write) string {
	var l []api.Sector
	for _, w := range writes {
		l = append(l, w.S)
	}
	return show(l)
}

// told is a log: a number and a letter are a write of the next of a, b, c .. to that sector with that tag; | is a barrier; ! and letters are a sync of their tags. The epoch of a write is the number of barriers before it, or the number that comes after the letter.
func told(t *testing.T, operations ...string) []api.Event {
	t.Helper()
	var log []api.Event
	next, epoch := byte('a'), 0
	for _, operation := range operations {
		switch operation[0] {
		case '|':
			log = append(log, api.Event{Kind: api.EvBarrier})
			epoch++
		case '!':
			log = append(log, api.Event{Kind: api.EvSync, Tags: tagsOf(operation[1:])})
		default:
			w := api.Write{At: int(operation[0] - '0'), S: letter(next), Tag: tagsOf(operation[1:2])[0], Epoch: epoch}
			if own := operation[2:]; own != "" {
				n, err := strconv.Atoi(own)
				if err != nil {
					t.Fatal(err)
				}
				w.Epoch = n
			}
			log = append(log, api.Event{Kind: api.EvWrite, W: w})
			next++
		}
	}
	return log
}

// mustBe is the state at the end of a log.
func mustBe(t *testing.T, base []api.Sector, log []api.Event) State {
	t.Helper()
	s, ok := At(base, log, len(log))
	if !ok {
		t.Fatalf("At the end of %v there is no state", log)
	}
	return s
}

// same compares states.
func same(a, b State) bool {
	return slices.Equal(a.Safe, b.Safe) && slices.Equal(a.Waiting, b.Waiting)
}

// after is what the definitions of the chapters say of a log: each pending write is held against each other one.
func after(base []api.Sector, log []api.Event) State {
	s := State{Safe: slices.Clone(base)}
	for _, e := range log {
		if e.Kind == api.EvWrite {
			s.Waiting = append(s.Waiting, e.W)
		}
		if e.Kind == api.EvSync {
			s = synced(s, e.Tags)
		}
	}
	return s
}

func synced(s State, tags []api.Tag) State {
	durable := func(w api.Write) bool {
		return slices.Contains(tags, w.Tag) || slices.ContainsFunc(s.Waiting, func(v api.Write) bool {
			return slices.Contains(tags, v.Tag) && w.Epoch < v.Epoch
		})
	}
	n := State{Safe: slices.Clone(s.Safe)}
	for i, w := range s.Waiting {
		settled := slices.ContainsFunc(s.Waiting[i:], func(v api.Write) bool { return v.At == w.At && durable(v) })
		if durable(w) {
			n.Safe[w.At] = w.S
		}
		if !settled {
			n.Waiting = append(n.Waiting, w)
		}
	}
	return n
}

// permitted is the definition of an allowed choice: nothing of a later epoch is kept or torn without all of the earlier ones.
func permitted(s State, kept uint64) bool {
	if !choice.Right(kept, len(s.Waiting)) {
		return false
	}
	for i, w := range s.Waiting {
		for j, v := range s.Waiting {
			if choice.Fate(kept, i) != 0 && v.Epoch < w.Epoch && choice.Fate(kept, j) != 1 {
				return false
			}
		}
	}
	return true
}

// permittedOf are all allowed choices in the order of their numbers.
func permittedOf(s State, tear bool) []uint64 {
	var l []uint64
	for k := range choice.Count(len(s.Waiting), tear) {
		if c := choice.Nth(k, len(s.Waiting), tear); permitted(s, c) {
			l = append(l, c)
		}
	}
	return l
}

// leaves is what a choice leaves on a disk, half by half: the last write that reached a half has its bytes there.
func leaves(s State, kept uint64) []api.Sector {
	l := slices.Clone(s.Safe)
	for at := range l {
		for i, w := range s.Waiting {
			reached := []int{0, 32, 16}[choice.Fate(kept, i)]
			if w.At == at {
				copy(l[at][:reached], w.S[:reached])
			}
		}
	}
	return l
}

// story yields numbers below n that depend on nothing but the seed.
func story(seed uint64) func(n int) int {
	return func(n int) int {
		seed = seed*6364136223846793005 + 1442695040888963407
		return int(seed >> 33 % uint64(n))
	}
}

// someTags are some of the four tags: none, some or all.
func someTags(next func(int) int) []api.Tag {
	all := tagsOf("dmor")
	from := next(len(all) + 1)
	return all[from : from+next(len(all)+1-from)]
}

// someLog is a log for a disk of that many sectors, with epochs that are in no order.
func someLog(next func(int) int, sectors, events int) []api.Event {
	epochs := []int{0, 1, 2, 3, -1, -2, math.MinInt, math.MaxInt, math.MinInt + 1, 1 << 32}
	epochs = epochs[:1+next(len(epochs))]
	var log []api.Event
	for i := range events {
		switch next(8) {
		case 0:
			log = append(log, api.Event{Kind: api.EvBarrier})
		case 1:
			log = append(log, api.Event{Kind: api.EvSync, Tags: someTags(next)})
		default:
			w := api.Write{At: next(sectors), S: halves(byte(i), byte(next(256))), Tag: tagsOf("dmor")[next(4)], Epoch: epochs[next(len(epochs))]}
			log = append(log, api.Event{Kind: api.EvWrite, W: w})
		}
	}
	return log
}

// someState is a state with that many pending writes, whose epochs are of the given number of epochs.
func someState(next func(int) int, sectors, pending, epochs int) State {
	s := State{}
	for i := range sectors {
		s.Safe = append(s.Safe, halves(byte(101+i), byte(151+i)))
	}
	for i := range pending {
		w := api.Write{At: next(sectors), S: halves(byte(1+i), byte(51+i)), Tag: tagsOf("dmor")[next(4)], Epoch: next(epochs) - epochs/2}
		s.Waiting = append(s.Waiting, w)
	}
	return s
}

// inEpochs is a state of three sectors with one pending write for each of the epochs.
func inEpochs(epochs ...int) State {
	s := State{Safe: disk("xyz")}
	for i, epoch := range epochs {
		s.Waiting = append(s.Waiting, api.Write{At: i % 3, S: letter('a' + byte(i)), Tag: data, Epoch: epoch})
	}
	return s
}

// mustRead is the choice that a text shows.
func mustRead(t *testing.T, text string) uint64 {
	t.Helper()
	c, _, ok := choice.Read(text)
	if !ok {
		t.Fatalf("%q is no choice", text)
	}
	return c
}

// shown shows choices for n writes.
func shown(l []uint64, n int) []string {
	var texts []string
	for _, c := range l {
		texts = append(texts, choice.Show(c, n))
	}
	return texts
}

// ends are numbers that no place of a slice has.
var ends = []int{math.MinInt, math.MinInt + 1, -1 << 32, -1 << 31, -66, -65, -2, -1, 66, 1 << 31, 1 << 32, 1<<32 + 1, math.MaxInt - 1, math.MaxInt}

// P602: what is written, synced and separated by barriers has the durable content and the pending writes that it has on a disk.
func TestAt(t *testing.T) {
	for _, c := range []struct {
		operations    []string
		safe, waiting string
	}{
		{nil, "wxyz", ""},
		{[]string{"0d"}, "wxyz", "a"},
		{[]string{"3r", "0d", "3r"}, "wxyz", "abc"},
		{[]string{"0d", "!d"}, "axyz", ""},
		{[]string{"0d", "1m", "2d", "!d"}, "axcz", "b"},
		{[]string{"0d", "1m", "2o", "3r", "!mr"}, "wbyd", "ac"},
		{[]string{"0d", "1m", "2o", "3r", "!rodmmm"}, "abcd", ""},
		{[]string{"0d", "1m", "!"}, "wxyz", "ab"},
		{[]string{"0d", "1m", "!o"}, "wxyz", "ab"},
		{[]string{"!d", "0d"}, "wxyz", "a"},
		{[]string{"|", "|"}, "wxyz", ""},
		// A write of a later epoch is not durable without those of the earlier ones.
		{[]string{"0m", "|", "1d", "2m", "!d"}, "abyz", "c"},
		{[]string{"0m", "1d", "|", "2m", "!d"}, "wbyz", "ac"},
		{[]string{"0m", "|", "1r", "|", "2d", "|", "3m", "!d"}, "abcz", "d"},
		{[]string{"0d", "1m", "|", "2o", "|", "3r", "!dr"}, "abcd", ""},
		{[]string{"0d", "1m", "|", "2o", "|", "3r", "!rd"}, "abcd", ""},
		{[]string{"0m", "1d", "|", "!d"}, "wbyz", "a"},
		{[]string{"0m", "|", "!d"}, "wxyz", "a"},
		// The last durable write to a sector wins, and settles the earlier ones.
		{[]string{"0d", "0d", "!d"}, "bxyz", ""},
		{[]string{"0m", "0r", "0d", "!d"}, "cxyz", ""},
		{[]string{"0d", "0m", "!d"}, "axyz", "b"},
		{[]string{"0d", "0m", "0d", "0m", "!d"}, "cxyz", "d"},
		{[]string{"1m", "0m", "0d", "1m", "!d"}, "cxyz", "ad"},
		{[]string{"0m", "|", "0d", "!d"}, "bxyz", ""},
		{[]string{"0m", "|", "0r", "1d", "!d"}, "acyz", "b"},
		{[]string{"0m", "0d", "!d", "0d", "!m"}, "bxyz", "c"},
		{[]string{"0d", "!d", "0m", "!m"}, "bxyz", ""},
		// The epochs are those of the log, whatever barriers there are.
		{[]string{"0m0", "1d1", "!d"}, "abyz", ""},
		{[]string{"0m1", "|", "1d1", "!d"}, "wbyz", "a"},
		{[]string{"0m7", "|", "1d0", "!d"}, "wbyz", "a"},
		{[]string{"0d9", "1m8", "2m9", "3m10", "!d"}, "abyz", "cd"},
		{[]string{"0m8", "0d9", "1m9", "1m8", "!d"}, "bdyz", ""},
		{[]string{"0d9", "0m8", "!d"}, "bxyz", ""},
		{[]string{"0m-3", "1d-2", "2m-1", "!d"}, "abyz", "c"},
		{[]string{"0m-3", "1r-2", "2m-1", "!d"}, "wxyz", "abc"},
		{[]string{"0d-2", "1d-1", "2m-2", "3m-1", "!d"}, "abcz", "d"},
		{[]string{"0m-9223372036854775808", "1d-9223372036854775807", "!d"}, "abyz", ""},
		{[]string{"0m-9223372036854775808", "1d-9223372036854775808", "!d"}, "wbyz", "a"},
		{[]string{"0m9223372036854775806", "1d9223372036854775807", "!d"}, "abyz", ""},
	} {
		s := mustBe(t, disk("wxyz"), told(t, c.operations...))
		if show(s.Safe) != c.safe || contents(s.Waiting) != c.waiting {
			t.Errorf("after %v the state is %s, %q, want %s, %q", c.operations, show(s.Safe), contents(s.Waiting), c.safe, c.waiting)
		}
	}
}

// P602: the state agrees with the definitions at each point of many logs, whose epochs are in no order.
func TestAtAgreesWithDefinition(t *testing.T) {
	for seed := range uint64(200) {
		next := story(seed)
		base := someState(next, 1+next(6), 0, 1).Safe
		log := someLog(next, len(base), 50)
		for point := range len(log) + 1 {
			s, ok := At(base, log, point)
			if want := after(base, log[:point]); !ok || !same(s, want) {
				t.Fatalf("with the seed %d, at %d: %v, %v, want %v", seed, point, s, ok, want)
			}
		}
	}
}

// P602: for the log of a disk, the state at each point is that of the disk when it had executed as many events.
func TestAtIsTheDisk(t *testing.T) {
	for seed := range uint64(60) {
		next := story(seed)
		base := someState(next, 1+next(65), 0, 1).Safe
		d, _ := bdisk.From(base)
		states := []State{{Safe: d.Safe()}}
		for range 80 {
			switch next(8) {
			case 0:
				d.Barrier()
			case 1:
				d.Sync(someTags(next)...)
			default:
				d.Write(next(min(len(base), 5)), halves(byte(next(256)), byte(next(256))), tagsOf("dmor")[next(4)])
			}
			states = append(states, State{d.Safe(), d.Waiting()})
		}
		for point, want := range states {
			if s, ok := At(base, d.Log(), point); !ok || !same(s, want) {
				t.Fatalf("with the seed %d, at %d: %v, %v, want %v", seed, point, s, ok, want)
			}
		}
	}
}

// P602: a base has 1 to 65 sectors.
func TestAtRefusesBases(t *testing.T) {
	for n := range 140 {
		s, ok := At(make([]api.Sector, n), []api.Event{{Kind: api.EvBarrier}}, 1)
		if want := n >= 1 && n <= 65; ok != want || len(s.Safe) != n && want || !ok && s.Safe != nil {
			t.Errorf("At of %d sectors = %v, %v", n, s, ok)
		}
	}
	for _, base := range [][]api.Sector{nil, {}, disk("wxyz")[:0], make([]api.Sector, 100000)} {
		if s, ok := At(base, nil, 0); ok || s.Safe != nil || s.Waiting != nil {
			t.Errorf("At of %d sectors = %v, %v", len(base), s, ok)
		}
	}
}

// P602: crash points are the numbers from 0 to that of the events.
func TestAtRefusesPoints(t *testing.T) {
	for _, log := range [][]api.Event{nil, told(t, "0d"), told(t, "0d", "|", "1m", "!d", "0r")} {
		for point := -9; point <= 9; point++ {
			s, ok := At(disk("wxyz"), log, point)
			if want := point >= 0 && point <= len(log); ok != want || !ok && (s.Safe != nil || s.Waiting != nil) {
				t.Errorf("At(%d) of %d events = %v, %v", point, len(log), s, ok)
			}
		}
		for _, point := range ends {
			if s, ok := At(disk("wxyz"), log, point); ok || s.Safe != nil || s.Waiting != nil {
				t.Errorf("At(%d) of %d events = %v, %v", point, len(log), s, ok)
			}
		}
	}
	// The events behind the slice are not of the log.
	if s, ok := At(disk("wxyz"), told(t, "0d", "|")[:1], 2); ok || s.Safe != nil {
		t.Errorf("At(2) of one event = %v, %v", s, ok)
	}
}

// P602: an event of an unknown kind is refused wherever it is in the log.
func TestAtRefusesKinds(t *testing.T) {
	for _, kind := range append([]int{0, 4, 5, 1<<32 + 1, 1<<32 + 2, 1<<32 + 3, 257}, ends...) {
		for at := range 4 {
			log := slices.Insert(told(t, "0d", "|", "!d"), at, api.Event{Kind: kind})
			for point := range 5 {
				if s, ok := At(disk("wxyz"), log, point); ok || s.Safe != nil || s.Waiting != nil {
					t.Errorf("At(%d) with the kind %d at %d = %v, %v", point, kind, at, s, ok)
				}
			}
		}
	}
}

// P602: a write to a sector that the base does not have is refused wherever it is in the log; a sync or a barrier has no write.
func TestAtRefusesSectors(t *testing.T) {
	for _, sectors := range []int{1, 4, 65} {
		base := make([]api.Sector, sectors)
		for _, to := range append([]int{sectors, sectors + 1}, ends...) {
			for at := range 4 {
				log := slices.Insert(told(t, "0d", "|", "!d"), at, api.Event{Kind: api.EvWrite, W: api.Write{At: to, Tag: data}})
				for point := range 5 {
					if s, ok := At(base, log, point); ok || s.Safe != nil || s.Waiting != nil {
						t.Errorf("At(%d) of %d sectors with a write to %d at %d = %v, %v", point, sectors, to, at, s, ok)
					}
				}
			}
			log := told(t, "0d", "|", "!d", "0d")
			log[1].W.At, log[2].W.At = to, to
			if s, ok := At(base, log, 4); !ok || show(s.Safe[:1]) != "a" || contents(s.Waiting) != "b" {
				t.Errorf("At of %d sectors with a sync that has a write to %d = %v, %v", sectors, to, s, ok)
			}
		}
		log := []api.Event{{Kind: api.EvWrite, W: api.Write{At: sectors - 1}}, {Kind: api.EvWrite, W: api.Write{At: 0}}}
		if s, ok := At(base, log, 2); !ok || len(s.Waiting) != 2 {
			t.Errorf("At of %d sectors with writes to all ends = %v, %v", sectors, s, ok)
		}
	}
}

// P602: tags are the same only if both of their numbers are.
func TestAtTellsTagsApart(t *testing.T) {
	tags := []api.Tag{{}, {Kind: 1, ID: 0}, {Kind: 0, ID: 1}, {Kind: 1, ID: 1}, {Kind: 2, ID: 1}, {Kind: -1, ID: -1}, {Kind: math.MaxInt, ID: math.MinInt}, {Kind: 1 << 32, ID: 1}}
	for chosen, tag := range tags {
		var log []api.Event
		for at, w := range tags {
			log = append(log, api.Event{Kind: api.EvWrite, W: api.Write{At: at, S: letter('a'), Tag: w}})
		}
		s := mustBe(t, make([]api.Sector, len(tags)), append(log, api.Event{Kind: api.EvSync, Tags: []api.Tag{tag}}))
		for at := range tags {
			if (s.Safe[at] == letter('a')) != (at == chosen) {
				t.Errorf("after a sync of %v the sectors are %s", tag, show(s.Safe))
			}
		}
		if len(s.Waiting) != len(tags)-1 {
			t.Errorf("after a sync of %v, %d writes are pending", tag, len(s.Waiting))
		}
	}
}

// P602: Epochs are those of the pending writes, in their order.
func TestEpochs(t *testing.T) {
	for _, epochs := range [][]int{nil, {0}, {0, 0, 1}, {5, 3, 3, -1, math.MaxInt, math.MinInt}, make([]int, 100)} {
		if got := Epochs(inEpochs(epochs...)); !slices.Equal(got, epochs) {
			t.Errorf("Epochs = %v, want %v", got, epochs)
		}
	}
	s := mustBe(t, disk("wxyz"), told(t, "0d", "1m", "|", "|", "2d", "!m", "3r", "|", "0o"))
	if got := Epochs(s); !slices.Equal(got, []int{0, 2, 2, 3}) {
		t.Errorf("Epochs = %v", got)
	}
}

// P603: what of a later epoch is kept or torn needs all writes of the earlier ones.
func TestAllowed(t *testing.T) {
	for _, c := range []struct {
		epochs []int
		kept   string
		want   bool
	}{
		{nil, "", true},
		{[]int{0}, "l", true},
		{[]int{0}, "k", true},
		{[]int{0}, "t", true},
		{[]int{3}, "t", true},
		{[]int{0, 0}, "lk", true},
		{[]int{0, 0}, "tt", true},
		{[]int{0, 1}, "lk", false},
		{[]int{0, 1}, "lt", false},
		{[]int{0, 1}, "tk", false},
		{[]int{0, 1}, "tt", false},
		{[]int{0, 1}, "kl", true},
		{[]int{0, 1}, "kt", true},
		{[]int{0, 1}, "tl", true},
		{[]int{0, 0, 7}, "lkk", false},
		{[]int{0, 0, 7}, "klk", false},
		{[]int{0, 0, 7}, "kkk", true},
		// The epochs count by their values, in whatever order they are.
		{[]int{1, 0}, "kl", false},
		{[]int{1, 0}, "lk", true},
		{[]int{1, 0}, "tk", true},
		{[]int{-1, -2}, "kl", false},
		{[]int{-1, -2}, "lk", true},
		{[]int{math.MaxInt, math.MinInt}, "kl", false},
		{[]int{math.MinInt, math.MaxInt}, "kt", true},
		{[]int{0, 1, 0}, "kkl", false},
		{[]int{0, 1, 0}, "ktk", true},
	} {
		if got := Allowed(inEpochs(c.epochs...), mustRead(t, c.kept)); got != c.want {
			t.Errorf("Allowed(%v, %s) = %v", c.epochs, c.kept, got)
		}
	}
}

// P603: what is no choice for as many writes as are pending is not allowed.
func TestAllowedRefuses(t *testing.T) {
	for _, c := range []struct {
		pending int
		kept    uint64
		want    bool
	}{
		{0, 0, true},
		{0, 1, false},
		{1, 3, false},
		{1, 4, false},
		{2, 4, true},
		{2, 16, false},
		{2, 12, false},
		{2, 1 << 63, false},
		{8, 1 << 15, true},
		{8, 1 << 16, false},
		{9, 1 << 16, true},
		{31, 1 << 62, false},
		{32, 1 << 63, true},
		{32, math.MaxUint64, false},
		{33, 0, false},
		{33, 1, false},
		{1000, 0, false},
	} {
		s := inEpochs(make([]int, c.pending)...)
		if got := Allowed(s, c.kept); got != c.want {
			t.Errorf("Allowed of %d pending writes and %d is %v", c.pending, c.kept, got)
		}
		if l, ok := Image(s, c.kept); ok != c.want || ok != (len(l) == 3) || !ok && l != nil {
			t.Errorf("Image of %d pending writes and %d is %v, %v", c.pending, c.kept, l, ok)
		}
	}
}

// P603: a kept write has all its bytes in the image, a torn one its first half, a lost one none.
func TestImage(t *testing.T) {
	for _, c := range []struct {
		operations []string
		kept, want string
	}{
		{nil, "", "wxyz"},
		{[]string{"0d"}, "l", "wxyz"},
		{[]string{"0d"}, "k", "axyz"},
		{[]string{"0d"}, "t", "awxyz"},
		{[]string{"3d", "1m"}, "kk", "wbya"},
		{[]string{"3d", "1m"}, "tk", "wbyaz"},
		{[]string{"3d", "1m"}, "lt", "wbxyz"},
		// Writes to one sector are applied one over the other.
		{[]string{"0d", "0d"}, "kk", "bxyz"},
		{[]string{"0d", "0d"}, "kl", "axyz"},
		{[]string{"0d", "0d"}, "lk", "bxyz"},
		{[]string{"0d", "0d"}, "kt", "baxyz"},
		{[]string{"0d", "0d"}, "tk", "bxyz"},
		{[]string{"0d", "0d"}, "tt", "bwxyz"},
		{[]string{"0d", "0d"}, "tl", "awxyz"},
		{[]string{"0d", "1m", "0r", "0o"}, "klkt", "dcxyz"},
		// A write that is durable is there in any case; its sector can be torn again.
		{[]string{"0d", "!d", "0d"}, "l", "axyz"},
		{[]string{"0d", "!d", "0d"}, "t", "baxyz"},
		{[]string{"0d", "|", "1m", "2r"}, "tll", "awxyz"},
		{[]string{"0d", "|", "1m", "2r"}, "klt", "axcyz"},
	} {
		s := mustBe(t, disk("wxyz"), told(t, c.operations...))
		if l, ok := Image(s, mustRead(t, c.kept)); !ok || show(l) != c.want {
			t.Errorf("after %v and %s the image is %s, %v, want %s", c.operations, c.kept, show(l), ok, c.want)
		}
	}
}

// P603: a tear is in the middle of the bytes.
func TestImageTearsInTheMiddle(t *testing.T) {
	var old, fresh api.Sector
	for i := range old {
		old[i], fresh[i] = byte(1+i), byte(101+i)
	}
	s := State{Safe: []api.Sector{old}, Waiting: []api.Write{{S: fresh}}}
	want := old
	copy(want[:], fresh[:16])
	if l, ok := Image(s, 2); !ok || !slices.Equal(l, []api.Sector{want}) {
		t.Errorf("Image = %v, %v", l, ok)
	}
}

// P603: there is no image for a choice that is not allowed.
func TestImageRefusesChoices(t *testing.T) {
	s := mustBe(t, disk("wxyz"), told(t, "0d", "|", "1m", "2r"))
	for kept := range uint64(1 << 8) {
		l, ok := Image(s, kept)
		if want := permitted(s, kept); ok != want || !ok && l != nil {
			t.Errorf("Image of %s = %s, %v", choice.Show(kept, 4), show(l), ok)
		}
	}
}

// P603: there is no image if a pending write is to a sector that does not exist, whatever becomes of that write.
func TestImageRefusesSectors(t *testing.T) {
	for _, sectors := range []int{0, 1, 4, 65} {
		for _, to := range append([]int{sectors, sectors + 1}, ends...) {
			for i := range 3 {
				s := State{Safe: make([]api.Sector, sectors)}
				for range min(2, sectors) {
					s.Waiting = append(s.Waiting, api.Write{At: sectors - 1, S: letter('a')})
				}
				s.Waiting = slices.Insert(s.Waiting, min(i, len(s.Waiting)), api.Write{At: to, S: letter('b')})
				for _, kept := range permittedOf(s, true) {
					if l, ok := Image(s, kept); ok || l != nil {
						t.Errorf("Image of %d sectors and %s with write %d to %d = %v, %v", sectors, choice.Show(kept, 3), i, to, l, ok)
					}
				}
			}
		}
	}
}

// P603: a state need not be one that At returns: it can have no sectors, or more than a disk.
func TestImageOfOtherSizes(t *testing.T) {
	if l, ok := Image(State{}, 0); !ok || len(l) != 0 {
		t.Errorf("Image of nothing = %v, %v", l, ok)
	}
	s := State{Safe: make([]api.Sector, 200), Waiting: []api.Write{{At: 199, S: letter('a')}}}
	if l, ok := Image(s, 1); !ok || len(l) != 200 || l[199] != letter('a') {
		t.Errorf("Image of 200 sectors = %v, %v", l, ok)
	}
}

// P603, P604: choices, images and their numbers agree with the definitions for many states.
func TestChoicesAgreeWithDefinition(t *testing.T) {
	for seed := range uint64(60) {
		next := story(seed)
		s := someState(next, 1+next(4), next(7), 1+next(4))
		for kept := range uint64(1) << (2*len(s.Waiting) + 1) {
			want := permitted(s, kept)
			if got := Allowed(s, kept); got != want {
				t.Fatalf("with the seed %d, Allowed(%d) = %v", seed, kept, got)
			}
			l, ok := Image(s, kept)
			if ok != want || ok && !slices.Equal(l, leaves(s, kept)) {
				t.Fatalf("with the seed %d, Image(%d) = %v, %v", seed, kept, l, ok)
			}
		}
		for _, tear := range []bool{false, true} {
			want := permittedOf(s, tear)
			if l, all := All(s, tear, math.MaxInt); !all || !slices.Equal(l, want) {
				t.Fatalf("with the seed %d, All is %v, %v, want %v", seed, l, all, want)
			}
			if n, all := Count(s, tear, math.MaxInt); !all || n != len(want) {
				t.Fatalf("with the seed %d, Count is %d, %v, want %d", seed, n, all, len(want))
			}
		}
	}
}

// P604: the allowed choices in their order, without and with torn writes.
func TestAll(t *testing.T) {
	for _, c := range []struct {
		epochs []int
		tear   bool
		want   []string
	}{
		{nil, false, []string{""}},
		{nil, true, []string{""}},
		{[]int{0}, false, []string{"l", "k"}},
		{[]int{0}, true, []string{"l", "k", "t"}},
		{[]int{0, 0}, false, []string{"ll", "kl", "lk", "kk"}},
		{[]int{0, 0}, true, []string{"ll", "kl", "tl", "lk", "kk", "tk", "lt", "kt", "tt"}},
		{[]int{0, 1}, false, []string{"ll", "kl", "kk"}},
		{[]int{0, 1}, true, []string{"ll", "kl", "tl", "kk", "kt"}},
		{[]int{1, 0}, false, []string{"ll", "lk", "kk"}},
		{[]int{1, 0}, true, []string{"ll", "lk", "kk", "tk", "lt"}},
		{[]int{0, 0, 1}, false, []string{"lll", "kll", "lkl", "kkl", "kkk"}},
		{[]int{0, 1, 2}, false, []string{"lll", "kll", "kkl", "kkk"}},
		{[]int{-5, -4, -4}, false, []string{"lll", "kll", "kkl", "klk", "kkk"}},
	} {
		l, all := All(inEpochs(c.epochs...), c.tear, 99)
		if got := shown(l, len(c.epochs)); !all || !slices.Equal(got, c.want) {
			t.Errorf("All(%v, %v) = %v, %v, want %v", c.epochs, c.tear, got, all, c.want)
		}
		if n, all := Count(inEpochs(c.epochs...), c.tear, 99); !all || n != len(c.want) {
			t.Errorf("Count(%v, %v) = %d, %v, want %d", c.epochs, c.tear, n, all, len(c.want))
		}
	}
}

// P604: at most most choices are returned, the first ones, and it is said whether they are all.
func TestAllStops(t *testing.T) {
	for _, s := range []State{{}, inEpochs(0), inEpochs(0, 0), inEpochs(0, 1, 0, 2), inEpochs(0, 0, 0, 0)} {
		for _, tear := range []bool{false, true} {
			want := permittedOf(s, tear)
			for most := -3; most < len(want)+4; most++ {
				kept := min(max(0, most), len(want))
				l, all := All(s, tear, most)
				if all != (most >= len(want)) || !slices.Equal(l, want[:kept]) {
					t.Errorf("All of %v, %v and %d = %v, %v", Epochs(s), tear, most, l, all)
				}
				if n, all := Count(s, tear, most); all != (most >= len(want)) || n != kept {
					t.Errorf("Count of %v, %v and %d = %d, %v", Epochs(s), tear, most, n, all)
				}
			}
			for _, most := range []int{math.MinInt, math.MinInt + 1, -1 << 32} {
				if l, all := All(s, tear, most); len(l) != 0 || all {
					t.Errorf("All of %d = %v, %v", most, l, all)
				}
				if n, all := Count(s, tear, most); n != 0 || all {
					t.Errorf("Count of %d = %d, %v", most, n, all)
				}
			}
		}
	}
}

// P604: for up to 8 pending writes there are choices, for more there are none.
func TestAllOfManyWrites(t *testing.T) {
	for _, c := range []struct{ pending, whole, torn int }{{7, 128, 2187}, {8, 256, 6561}, {9, 0, 0}, {10, 0, 0}, {32, 0, 0}, {33, 0, 0}, {100000, 0, 0}} {
		s, deep := inEpochs(make([]int, c.pending)...), inEpochs(make([]int, c.pending)...)
		for i := range deep.Waiting {
			deep.Waiting[i].Epoch = i
		}
		for _, most := range []int{0, 1, math.MaxInt} {
			if n, all := Count(s, false, most); n != min(c.whole, most) || all != (c.pending <= 8 && most > 1) {
				t.Errorf("Count of %d writes without tears, at most %d, is %d, %v", c.pending, most, n, all)
			}
			if n, all := Count(s, true, most); n != min(c.torn, most) || all != (c.pending <= 8 && most > 1) {
				t.Errorf("Count of %d writes with tears, at most %d, is %d, %v", c.pending, most, n, all)
			}
			if l, all := All(s, true, most); len(l) != min(c.torn, most) || all != (c.pending <= 8 && most > 1) {
				t.Errorf("All of %d writes, at most %d, has %d, %v", c.pending, most, len(l), all)
			}
		}
		if n, all := Count(deep, false, 1000); c.pending <= 8 && (n != c.pending+1 || !all) || c.pending > 8 && (n != 0 || all) {
			t.Errorf("Count of %d epochs without tears is %d, %v", c.pending, n, all)
		}
		if n, all := Count(deep, true, 1000); c.pending <= 8 && (n != 2*c.pending+1 || !all) || c.pending > 8 && (n != 0 || all) {
			t.Errorf("Count of %d epochs with tears is %d, %v", c.pending, n, all)
		}
	}
}

// P604: the sectors of the writes do not matter to their choices.
func TestAllOfMissingSectors(t *testing.T) {
	s := State{Waiting: []api.Write{{At: -1}, {At: math.MaxInt, Epoch: 1}}}
	if l, all := All(s, false, 9); !all || !slices.Equal(shown(l, 2), []string{"ll", "kl", "kk"}) {
		t.Errorf("All = %v, %v", l, all)
	}
}

// P605: without pending writes there is one image, the durable content.
func TestNothingPending(t *testing.T) {
	for _, tear := range []bool{false, true} {
		s := mustBe(t, disk("wxyz"), told(t, "0d", "1m", "0d", "!dm", "|"))
		l, all := All(s, tear, 99)
		if !all || !slices.Equal(l, []uint64{0}) {
			t.Errorf("All = %v, %v", l, all)
		}
		if image, ok := Image(s, 0); !ok || show(image) != "cbyz" || !slices.Equal(image, s.Safe) {
			t.Errorf("the image is %s, %v", show(image), ok)
		}
	}
}

// P605: the images are those of the allowed choices; keeping all writes gives what the disk reads; an image differs from the durable content only by pending writes.
func TestImagesOfADisk(t *testing.T) {
	for seed := range uint64(200) {
		next := story(seed)
		d, _ := bdisk.From(someState(next, 5, 0, 1).Safe)
		base := d.Safe()
		for range 6 + next(20) {
			d.Write(next(5), halves(byte(next(256)), byte(next(256))), tagsOf("dmor")[next(4)])
			if next(3) == 0 {
				d.Barrier()
			}
			if next(2) == 0 {
				d.Sync(someTags(next)...)
			}
		}
		s := mustBe(t, base, d.Log())
		all := uint64(0)
		for i := range min(32, len(s.Waiting)) {
			all = choice.With(all, i, 1)
		}
		image, ok := Image(s, all)
		for at := range image {
			if want, _ := d.Read(at); !ok || image[at] != want {
				t.Errorf("with the seed %d, sector %d has %v, want %v", seed, at, image[at], want)
			}
		}
		choices, _ := All(s, true, 99)
		for _, kept := range choices {
			image, ok := Image(s, kept)
			for _, at := range sector.Unlike(image, s.Safe) {
				written := slices.ContainsFunc(s.Waiting, func(w api.Write) bool { return w.At == at })
				if !ok || !written {
					t.Errorf("with the seed %d, %d changes sector %d", seed, kept, at)
				}
			}
		}
	}
}

// copied is an independent copy of a log.
func copied(log []api.Event) []api.Event {
	l := slices.Clone(log)
	for i := range l {
		l[i].Tags = slices.Clone(l[i].Tags)
	}
	return l
}

// sameEvent compares events, with their tags one by one.
func sameEvent(a, b api.Event) bool {
	return a.Kind == b.Kind && a.W == b.W && slices.Equal(a.Tags, b.Tags)
}

// P601: no call modifies its arguments or what is behind them, and a second call returns the same.
func TestCallsArePure(t *testing.T) {
	base, log := disk("wxyz...."), told(t, "0d", "1m", "|", "2o", "!m", "0r", "3m", "0d", "!d", "1r", "2d")
	for i := range log {
		log[i].Tags = append(log[i].Tags, dir)[:len(log[i].Tags)]
	}
	before, events := slices.Clone(base), copied(log)
	for point := range 10 {
		s, ok := At(base[:4], log[:9], point)
		again, _ := At(base[:4], log[:9], point)
		if !ok || !same(s, again) {
			t.Errorf("At(%d) = %v, and then %v", point, s, again)
		}
		if !slices.Equal(base, before) || !slices.EqualFunc(log, events, sameEvent) {
			t.Fatalf("At(%d) changes its arguments to %v, %v", point, base, log)
		}
	}
	for i := range log {
		if tags := log[i].Tags; tags[:len(tags)+1][len(tags)] != dir {
			t.Errorf("At changes what is behind the tags of event %d", i)
		}
	}
	s := someState(story(1), 4, 6, 3)
	s = State{Safe: append(s.Safe, disk("..")...)[:4], Waiting: append(s.Waiting, make([]api.Write, 3)...)[:6]}
	safe, waiting := slices.Clone(s.Safe[:6]), slices.Clone(s.Waiting[:9])
	for kept := range uint64(1 << 12) {
		first, _ := Image(s, kept)
		second, _ := Image(s, kept)
		if Allowed(s, kept) != Allowed(s, kept) || !slices.Equal(first, second) {
			t.Errorf("for %d a second call returns something else", kept)
		}
	}
	All(s, true, 99)
	Count(s, true, 99)
	Epochs(s)
	if !slices.Equal(s.Safe[:6], safe) || !slices.Equal(s.Waiting[:9], waiting) {
		t.Errorf("the state is changed to %v", s)
	}
}

// P601: results share no memory with arguments, or with each other.
func TestResultsAreNotShared(t *testing.T) {
	base, log := disk("wxyz"), told(t, "0d", "1m", "|", "2o", "!m", "0r", "3m")
	for point := range len(log) + 1 {
		s, _ := At(base, log, point)
		want, _ := At(base, log, point)
		again, _ := At(base, log, point)
		clear(s.Safe[:cap(s.Safe)])
		clear(s.Waiting[:cap(s.Waiting)])
		if !slices.Equal(base, disk("wxyz")) || !same(again, want) {
			t.Errorf("the result of At(%d) shares memory", point)
		}
	}
	s := mustBe(t, base, log)
	want := State{slices.Clone(s.Safe), slices.Clone(s.Waiting)}
	clear(base)
	clear(log)
	if !same(s, want) {
		t.Errorf("with the arguments the state changes to %v", s)
	}
	for _, kept := range []uint64{0, 1} {
		image, _ := Image(s, kept)
		second, _ := Image(s, kept)
		clear(image[:cap(image)])
		if !same(s, want) || show(second) == "...." {
			t.Error("an image shares memory")
		}
	}
	epochs, choices := Epochs(s), permittedOf(s, true)
	clear(epochs[:cap(epochs)])
	l, _ := All(s, true, 99)
	clear(l[:cap(l)])
	if l, _ := All(s, true, 99); !same(s, want) || !slices.Equal(l, choices) {
		t.Error("the epochs or the choices share memory")
	}
}

// P601: long logs end, too, and so do states with many pending writes.
func TestLongLogs(t *testing.T) {
	var log []api.Event
	for i := range 100000 {
		log = append(log, api.Event{Kind: api.EvWrite, W: api.Write{At: i % 65, S: letter(byte(i)), Tag: api.Tag{ID: i % 1000}, Epoch: i / 50000}})
	}
	log = append(log, api.Event{Kind: api.EvSync, Tags: make([]api.Tag, 100000)})
	base := make([]api.Sector, 65)
	s, ok := At(base, log, 100000)
	if !ok || len(s.Waiting) != 100000 || len(Epochs(s)) != 100000 || Allowed(s, 0) {
		t.Errorf("before the sync %d writes are pending, %v", len(s.Waiting), ok)
	}
	if l, ok := Image(s, 0); ok || l != nil {
		t.Errorf("the image has %d sectors", len(l))
	}
	s, ok = At(base, log, 100001)
	// The sync is of the tag 0, and the last write with it is number 99000, to sector 5.
	if !ok || s.Safe[5] != log[99000].W.S || slices.ContainsFunc(s.Waiting, func(w api.Write) bool { return w.Tag == api.Tag{} || w.Epoch == 0 }) {
		t.Errorf("after the sync %d writes are pending, %v", len(s.Waiting), ok)
	}
}

// P602, P603, P604: the examples of the document.
func TestExamples(t *testing.T) {
	for _, c := range []struct {
		operations []string
		want       int
	}{{[]string{"0d", "1d"}, 4}, {[]string{"0d", "|", "1d"}, 3}} {
		s := mustBe(t, disk("wxyz"), told(t, c.operations...))
		if n, all := Count(s, false, 99); n != c.want || !all {
			t.Errorf("after %v there are %d choices, %v", c.operations, n, all)
		}
	}
}
