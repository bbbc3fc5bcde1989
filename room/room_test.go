package room_test

import (
	"bytes"
	"math"
	"slices"
	"testing"

	"scionry/api"
	"scionry/count"
	"scionry/dev"
	"scionry/node"
	"scionry/ring"
	"scionry/room"
	"scionry/sum"
)

// The signatures are the chapter's, to the letter.
var (
	_ func() api.Store                                                     = room.New
	_ func(s api.Store) api.Errno                                          = room.Check
	_ func(s api.Store) ([]int, api.Errno)                                 = room.Free
	_ func(s api.Store, block []byte) (out api.Store, at int, e api.Errno) = room.Take
	_ func(s api.Store, at int) (api.Store, api.Errno)                     = room.Share
	_ func(s api.Store, at int) (api.Node, api.Errno)                      = room.Node
	_ func(a, b api.Store) bool                                            = room.Same
	_ func(s api.Store) api.Store                                          = room.Twin
)

// strayPlaces are those of no block that may be taken: one beyond each end first, then those of which some bytes are right.
var strayPlaces = []int{-1, 0, 7, 256, 1, 3, 4, 6, 257, -8, -248, 256 + 8, 255 + 256, 1<<16 + 9, 1 << 32, 1<<32 + 8, -1<<32 + 9, math.MaxInt, math.MinInt, math.MinInt + 8}

// noughts is many of them.
func noughts(many int) []byte { return make([]byte, many) }

// filled is a block of one byte, again and again.
func filled(c byte) []byte { return bytes.Repeat([]byte{c}, 128) }

// some is many bytes that differ from place to place, and by seed.
func some(many, seed int) []byte {
	b := noughts(many)
	for i := range b {
		b[i] = byte(i*i*31 + i*seed + i>>3 + seed*97)
	}
	return b
}

// level is the table whose counts are all the same.
func level(c byte) []byte { return append(noughts(8), bytes.Repeat([]byte{c}, 248)...) }

// sparse is a table in which about every third count is a nought, which ones differs by seed; others are at both ends, and between.
func sparse(seed int) []byte {
	t := noughts(256)
	for at := 8; at < 256; at++ {
		if (at*at+seed*at+seed)%7 > 2 {
			t[at] = []byte{1, 2, 254, 255, 128}[(at*3+seed)%5]
		}
	}
	return t
}

// disk is one whose blocks all differ, and for which these wait, each with other bytes.
func disk(ats ...int) api.Disk {
	d := api.Disk{Blocks: make([][]byte, 256)}
	for at := range d.Blocks {
		d.Blocks[at] = append(some(127, at), byte(at))
	}
	for i, at := range ats {
		d.Waits = append(d.Waits, api.Write{At: at, Data: some(128, 1000+i)})
	}
	return d
}

// store is one with counts of each sort, on a disk for which some wait.
func store(seed int) api.Store {
	return api.Store{Disk: disk(9, 200, 9, 4), Now: sparse(seed), Last: sparse(seed + 3)}
}

// waiting is a store for whose disk many writes wait, and in which the blocks from 100 on are free.
func waiting(many int) api.Store {
	s, b := api.Store{Disk: disk(), Now: noughts(256), Last: noughts(256)}, filled(1)
	for at := 8; at < 100; at++ {
		s.Now[at], s.Last[at] = byte(at%2), byte((at+1)%2)
	}
	for i := range many {
		s.Disk.Waits = append(s.Disk.Waits, api.Write{At: 8 + i%90, Data: b})
	}
	return s
}

// only is a store in which just these blocks are free: others are counted now, or were, or both.
func only(ats ...int) api.Store {
	s := api.Store{Disk: disk(8, 9), Now: noughts(256), Last: noughts(256)}
	for at := 8; at < 256; at++ {
		if !slices.Contains(ats, at) {
			s.Now[at], s.Last[at] = []byte{1, 0, 255}[at%3], []byte{0, 255, 1}[at%3]
		}
	}
	return s
}

// stores are some that may be.
func stores() []api.Store {
	l := []api.Store{room.New(), only(), only(8), only(255), only(100, 101), waiting(0), waiting(3), waiting(4095), waiting(4096)}
	for seed := range 9 {
		l = append(l, store(seed))
	}
	for _, a := range []byte{0, 1, 254, 255} {
		for _, b := range []byte{0, 1, 254, 255} {
			l = append(l, api.Store{Disk: disk(8, 255), Now: level(a), Last: level(b)})
		}
	}
	return append(l, roomy(), api.Store{Disk: dev.New(), Now: noughts(999)[:256], Last: noughts(256)[:256:256]})
}

// wrongTables are tables that may not be.
func wrongTables() [][]byte {
	l := [][]byte{nil, {}, bytes.Repeat([]byte{1}, 256)}
	for _, many := range []int{0, 1, 7, 8, 9, 128, 248, 255, 257, 264, 512} {
		l = append(l, noughts(many), append(sparse(1), noughts(999)...)[:many])
	}
	for at := range 8 {
		for _, c := range []byte{1, 255} {
			t := sparse(at)
			t[at] = c
			l = append(l, t)
		}
	}
	return l
}

// wrongDisks are disks that may not be.
func wrongDisks() []api.Disk {
	l := []api.Disk{{}, {Blocks: [][]byte{}, Waits: []api.Write{}}, waiting(4097).Disk, {Blocks: make([][]byte, 256)}}
	turn := func(f func(d *api.Disk)) {
		d := disk(9, 8, 9)
		f(&d)
		l = append(l, d)
	}
	turn(func(d *api.Disk) { d.Blocks = d.Blocks[:255] })
	turn(func(d *api.Disk) { d.Blocks = append(d.Blocks, filled(1)) })
	for _, at := range []int{0, 7, 8, 9, 255} {
		turn(func(d *api.Disk) { d.Blocks[at] = d.Blocks[at][:127] })
		turn(func(d *api.Disk) { d.Blocks[at] = append(d.Blocks[at], 0) })
		turn(func(d *api.Disk) { d.Blocks[at] = nil })
	}
	for i := range 3 {
		for _, at := range []int{-1, 256, math.MinInt, math.MaxInt} {
			turn(func(d *api.Disk) { d.Waits[i].At = at })
		}
		for _, many := range []int{0, 127, 129} {
			turn(func(d *api.Disk) { d.Waits[i].Data = noughts(many) })
		}
	}
	return l
}

// odds are stores that may not be: for one of their fields alone, for two, for all.
func odds() []api.Store {
	var l []api.Store
	for _, d := range wrongDisks() {
		l = append(l, api.Store{Disk: d, Now: sparse(1), Last: sparse(2)}, api.Store{Disk: d, Now: level(1), Last: noughts(256)})
		l = append(l, api.Store{Disk: d}, api.Store{Disk: d, Now: sparse(1)}, api.Store{Disk: d, Last: sparse(1)})
	}
	for _, t := range wrongTables() {
		l = append(l, api.Store{Disk: disk(9, 8), Now: t, Last: sparse(2)}, api.Store{Disk: disk(9, 8), Now: sparse(2), Last: t})
		l = append(l, api.Store{Disk: dev.New(), Now: t, Last: t}, api.Store{Disk: dev.New(), Now: t, Last: noughts(256)}, api.Store{Disk: dev.New(), Now: level(1), Last: t})
		l = append(l, api.Store{Disk: waiting(4096).Disk, Now: t, Last: level(1)}, api.Store{Now: t, Last: sparse(1)})
	}
	return append(l, api.Store{})
}

// nothing tells whether s is as it stands beside an error.
func nothing(s api.Store) bool {
	return len(s.Disk.Blocks) == 0 && len(s.Disk.Waits) == 0 && len(s.Now) == 0 && len(s.Last) == 0
}

// copied is d in other memory, list by list.
func copied(d api.Disk) api.Disk {
	out := api.Disk{}
	for _, b := range d.Blocks {
		out.Blocks = append(out.Blocks, bytes.Clone(b))
	}
	for _, w := range d.Waits {
		out.Waits = append(out.Waits, api.Write{At: w.At, Data: bytes.Clone(w.Data)})
	}
	return out
}

// kept is s in other memory, list by list.
func kept(s api.Store) api.Store {
	return api.Store{Disk: copied(s.Disk), Now: bytes.Clone(s.Now), Last: bytes.Clone(s.Last)}
}

// bared is s, its spare room shown as elements, in other memory.
func bared(s api.Store) api.Store {
	d := api.Disk{Blocks: slices.Clone(s.Disk.Blocks[:cap(s.Disk.Blocks)]), Waits: slices.Clone(s.Disk.Waits[:cap(s.Disk.Waits)])}
	for at, b := range d.Blocks {
		d.Blocks[at] = b[:cap(b)]
	}
	for i, w := range d.Waits {
		d.Waits[i].Data = w.Data[:cap(w.Data)]
	}
	return kept(api.Store{Disk: d, Now: s.Now[:cap(s.Now)], Last: s.Last[:cap(s.Last)]})
}

// alike tells by the word, field by field, whether two stores are the same.
func alike(a, b api.Store) bool {
	if len(a.Disk.Blocks) != len(b.Disk.Blocks) || len(a.Disk.Waits) != len(b.Disk.Waits) {
		return false
	}
	for i := range a.Disk.Blocks {
		if string(a.Disk.Blocks[i]) != string(b.Disk.Blocks[i]) {
			return false
		}
	}
	for i, v := range a.Disk.Waits {
		if v.At != b.Disk.Waits[i].At || string(v.Data) != string(b.Disk.Waits[i].Data) {
			return false
		}
	}
	return string(a.Now) == string(b.Now) && string(a.Last) == string(b.Last)
}

// spoil turns every byte of b and of its spare room.
func spoil(b []byte) {
	b = b[:cap(b)]
	for i := range b {
		b[i] ^= 0xff
	}
}

// wreck turns all that s has, with all its spare room.
func wreck(s api.Store) {
	blocks, waits := s.Disk.Blocks[:cap(s.Disk.Blocks)], s.Disk.Waits[:cap(s.Disk.Waits)]
	for at, b := range blocks {
		spoil(b)
		blocks[at] = nil
	}
	for i, w := range waits {
		spoil(w.Data)
		waits[i] = api.Write{At: -7}
	}
	spoil(s.Now)
	spoil(s.Last)
}

// freeOf is the blocks that are free, told by the words, from the last one on.
func freeOf(s api.Store) []int {
	var l []int
	for at := 255; at >= 8; at-- {
		if s.Now[at] == 0 && s.Last[at] == 0 {
			l = append([]int{at}, l...)
		}
	}
	return l
}

// roomy is a store whose lists all have spare room; 8 is free, 9 is a node that is referred to once, 10 to 13 are pinned or taken.
func roomy() api.Store {
	grow := func(b []byte) []byte { return append(b[:len(b):len(b)], some(9, 3)...)[:len(b)] }
	s := api.Store{Disk: disk(9, 20, 30, 31, 32), Now: grow(sparse(1)), Last: grow(sparse(2))}
	copy(s.Now[8:], []byte{0, 1, 0, 2, 1, 0})
	copy(s.Last[8:], []byte{0, 0, 1, 2, 0, 255})
	s.Disk.Waits[0].Data = block(leaf(3))
	for at := range s.Disk.Blocks {
		s.Disk.Blocks[at] = grow(s.Disk.Blocks[at])
	}
	for i := range s.Disk.Waits {
		s.Disk.Waits[i].Data = grow(s.Disk.Waits[i].Data)
	}
	s.Disk.Blocks = append(s.Disk.Blocks, filled(5), filled(6))[:256]
	s.Disk.Waits = s.Disk.Waits[:3]
	return s
}

// leaf is a node with many items, at most five.
func leaf(many int) api.Node {
	n := api.Node{}
	for i := range many {
		n.Items = append(n.Items, api.Item{Key: api.Key{Kind: 2, Id: uint32(i), Off: 7}, Ref: 8 + i*3, Val: some(12-i, i)})
	}
	return n
}

// above is a node of that level with many items.
func above(level, many int) api.Node {
	n := leaf(many)
	n.Level = level
	for i := range n.Items {
		n.Items[i].Val = nil
	}
	return n
}

// block is n's block.
func block(n api.Node) []byte {
	b, e := node.Write(n)
	if e != api.OK {
		panic(e)
	}
	return b
}

// P8.1: an empty disk, and two tables of noughts; what is done to one store is not seen in the next one.
func TestNew(t *testing.T) {
	for range 2 {
		s := room.New()
		if len(s.Disk.Blocks) != 256 || len(s.Disk.Waits) != 0 || !bytes.Equal(s.Now, noughts(256)) || !bytes.Equal(s.Last, noughts(256)) {
			t.Fatal(len(s.Disk.Blocks), len(s.Disk.Waits), s.Now, s.Last)
		}
		for at, b := range s.Disk.Blocks {
			if !bytes.Equal(b, noughts(128)) {
				t.Fatalf("block %d is %v", at, b)
			}
		}
		if e := room.Check(s); e != api.OK {
			t.Error(e)
		}
		wreck(s)
	}
}

// P8.1: stores that may be, whatever their counts are, and others.
func TestCheck(t *testing.T) {
	for i, s := range stores() {
		if e := room.Check(s); e != api.OK {
			t.Errorf("%d: Check = %d, want OK", i, e)
		}
	}
	for i, s := range odds() {
		if e := room.Check(s); e != api.ErrBad {
			t.Errorf("%d: Check = %d, want ErrBad", i, e)
		}
	}
}

// P8.2, P8.3: Check's error first, whatever else may not be, and beside it nothing.
func TestCheckedFirst(t *testing.T) {
	for i, s := range odds() {
		was := kept(s)
		if l, e := room.Free(s); e != api.ErrBad || len(l) != 0 {
			t.Errorf("%d: Free = %v, %d, want ErrBad", i, l, e)
		}
		for _, b := range [][]byte{filled(1), nil, noughts(127), noughts(129)} {
			if out, at, e := room.Take(s, b); e != api.ErrBad || at != 0 || !nothing(out) {
				t.Errorf("%d: Take of %d bytes: at %d, %d, want ErrBad", i, len(b), at, e)
			}
		}
		for _, at := range append([]int{8, 9, 100, 255}, strayPlaces...) {
			if out, e := room.Share(s, at); e != api.ErrBad || !nothing(out) {
				t.Errorf("%d: Share at %d: %d, want ErrBad", i, at, e)
			}
			if n, e := room.Node(s, at); e != api.ErrBad || n.Level != 0 || len(n.Items) != 0 {
				t.Errorf("%d: Node at %d: %v, %d, want ErrBad", i, at, n, e)
			}
		}
		if !alike(s, was) {
			t.Errorf("%d: was turned", i)
		}
	}
}

// P8.2: all that are free, rising: none, one, two, all from 8 to 255, and what plain words tell.
func TestFree(t *testing.T) {
	ask := func(what string, s api.Store, want []int) {
		t.Helper()
		if l, e := room.Free(s); e != api.OK || !slices.Equal(l, want) {
			t.Errorf("%s: Free = %v, %d, want %v", what, l, e, want)
		}
	}
	var all []int
	for at := 8; at < 256; at++ {
		all = append(all, at)
	}
	ask("a new store", room.New(), all)
	ask("no count, though something waits", api.Store{Disk: waiting(4096).Disk, Now: noughts(256), Last: noughts(256)}, all)
	ask("none free", only(), nil)
	for a := 8; a < 256; a++ {
		ask("one free", only(a), []int{a})
		if b := 8 + (a*a*7+a*11)%248; a < b {
			ask("two free", only(a, b), []int{a, b})
			ask("two free", only(b, a), []int{a, b})
		}
	}
	for _, s := range stores() {
		ask("by the words", s, freeOf(s))
	}
}

// P8.2: a block whose count is not 0 is not free, be that in Now, in Last, or in both, whatever the count; all others are.
func TestFreeByEach(t *testing.T) {
	for at := 8; at < 256; at++ {
		for _, c := range [][2]byte{{1, 0}, {0, 1}, {1, 1}, {255, 0}, {0, 255}, {255, 1}, {128, 128}, {255, 255}} {
			s := room.New()
			s.Now[at], s.Last[at] = c[0], c[1]
			l, e := room.Free(s)
			if e != api.OK || len(l) != 247 || slices.Contains(l, at) || !slices.IsSorted(l) {
				t.Errorf("%d now, %d then, at %d: Free = %v, %d", c[0], c[1], at, l, e)
			}
		}
	}
}

// takes fails, unless Take of b writes to that place, and turns its count to 1, and nothing else.
func takes(t *testing.T, what string, s api.Store, b []byte, want int) api.Store {
	t.Helper()
	is := kept(s)
	is.Disk.Waits = append(is.Disk.Waits, api.Write{At: want, Data: bytes.Clone(b)})
	is.Now[want] = 1
	out, at, e := room.Take(s, b)
	if e != api.OK || at != want || !alike(out, is) {
		t.Fatalf("%s: Take: at %d, %d, want %d, or another store", what, at, e, want)
	}
	if x, e := dev.Read(out.Disk, at); e != api.OK || !bytes.Equal(x, b) {
		t.Fatalf("%s: behind Take %d has %v, %d, want %v", what, at, x, e, b)
	}
	return out
}

// takeRefused fails, unless Take of b has that error, beside nothing.
func takeRefused(t *testing.T, what string, s api.Store, b []byte, want api.Errno) {
	t.Helper()
	was := kept(s)
	if out, at, e := room.Take(s, b); e != want || at != 0 || !nothing(out) {
		t.Errorf("%s: Take of %d bytes: at %d, %d, want %d", what, len(b), at, e, want)
	}
	if !alike(s, was) {
		t.Errorf("%s: Take of %d bytes turned the store", what, len(b))
	}
}

// P8.2: the first one that is free is taken, wherever that is; no other count, no other block, and nothing of Last is turned.
func TestTake(t *testing.T) {
	for a := 8; a < 256; a++ {
		takes(t, "one free", only(a), some(128, a), a)
		for b := a + 1; b < 256; b += 1 + b%29 {
			takes(t, "two free", only(b, a), some(128, b), a)
		}
	}
	for i, s := range stores() {
		if l := freeOf(s); len(l) > 0 && len(s.Disk.Waits) < 4096 {
			for _, b := range [][]byte{some(128, i), noughts(128), filled(255), some(999, i)[:128], block(leaf(2))} {
				takes(t, "by the words", s, b, l[0])
			}
		}
	}
}

// P8.2: of a new store all are taken, one by one, and then none.
func TestTakeAll(t *testing.T) {
	s := room.New()
	for at := 8; at < 256; at++ {
		s = takes(t, "one by one", s, some(128, at), at)
		if l, e := room.Free(s); e != api.OK || len(l) != 255-at || !slices.Equal(l, freeOf(s)) {
			t.Fatalf("behind %d: Free = %v, %d", at, l, e)
		}
	}
	takeRefused(t, "none is free", s, filled(1), api.ErrFull)
	if len(s.Disk.Waits) != 248 || !bytes.Equal(s.Now, level(1)) || !bytes.Equal(s.Last, noughts(256)) {
		t.Error(len(s.Disk.Waits), s.Now, s.Last)
	}
}

// P8.2: what is pinned is not taken, nor what is counted now; a block that is neither any more is taken again.
func TestTakePassesPinned(t *testing.T) {
	s := room.New()
	s.Last[8], s.Now[9], s.Now[10], s.Last[10], s.Last[12] = 1, 1, 255, 255, 255
	s = takes(t, "behind pinned ones", s, filled(1), 11)
	s = takes(t, "behind pinned ones", s, filled(2), 13)
	// All is committed: what was pinned is free.
	s.Last = bytes.Clone(s.Now)
	s = takes(t, "pinned once", s, filled(3), 8)
	s = takes(t, "pinned once", s, filled(4), 12)
	s.Now[9], s.Now[12] = 0, 0
	s = takes(t, "left, and not there then", s, filled(5), 12)
	s = takes(t, "the next one", s, filled(6), 14)
	if x, e := dev.Read(s.Disk, 9); e != api.OK || !bytes.Equal(x, noughts(128)) {
		t.Error("a pinned block was written", x, e)
	}
}

// P8.2: ErrText, unless there are 128 bytes, whatever is free or waits, and whatever spare room there is; then ErrFull.
func TestTakeRefuses(t *testing.T) {
	full := waiting(4096)
	both := only()
	both.Disk = waiting(4096).Disk
	for i, s := range []api.Store{room.New(), store(3), only(255), only(), full, both} {
		for _, many := range []int{0, 127, 129, 1, 124, 126, 130, 255, 256, 384, 1 << 16, 128 + 1<<16} {
			takeRefused(t, "another size", s, noughts(many), api.ErrText)
			takeRefused(t, "another size, and spare room", s, make([]byte, many, 128+1<<17), api.ErrText)
		}
		takeRefused(t, "nil", s, nil, api.ErrText)
		if i > 2 {
			takeRefused(t, "no room", s, filled(1), api.ErrFull)
			takeRefused(t, "no room", s, some(300, 1)[:128], api.ErrFull)
		}
	}
	for _, c := range [][2]byte{{1, 0}, {0, 1}, {255, 255}} {
		takeRefused(t, "none is free", api.Store{Disk: dev.New(), Now: level(c[0]), Last: level(c[1])}, filled(1), api.ErrFull)
	}
}

// P8.2: where there is room for one write alone, that waits, and then no other one, whatever is free.
func TestTakeFills(t *testing.T) {
	s := takes(t, "room for two writes", waiting(4094), filled(7), 100)
	s = takes(t, "room for one write", s, filled(8), 101)
	takeRefused(t, "no room", s, filled(9), api.ErrFull)
	if l, e := room.Free(s); e != api.OK || len(l) != 154 || l[0] != 102 {
		t.Error(l, e)
	}
	// Behind a barrier there is room again.
	s.Disk, _ = dev.Barrier(s.Disk)
	takes(t, "behind a barrier", s, filled(9), 102)
}

// shares fails, unless Share turns the count there to one more, and nothing else.
func shares(t *testing.T, what string, s api.Store, at int) api.Store {
	t.Helper()
	is := kept(s)
	is.Now[at]++
	out, e := room.Share(s, at)
	if e != api.OK || !alike(out, is) {
		t.Fatalf("%s: Share at %d, of count %d: %d, or another store", what, at, s.Now[at], e)
	}
	return out
}

// shareRefused fails, unless Share has that error, beside nothing.
func shareRefused(t *testing.T, what string, s api.Store, at int, want api.Errno) {
	t.Helper()
	was := kept(s)
	if out, e := room.Share(s, at); e != want || !nothing(out) {
		t.Errorf("%s: Share at %d: %d, want %d", what, at, e, want)
	}
	if !alike(s, was) {
		t.Errorf("%s: Share at %d turned the store", what, at)
	}
}

// P8.3: each block, at the counts it may have, whatever it was when all was committed: one more, but of 0 and of 255.
func TestShare(t *testing.T) {
	for at := 8; at < 256; at++ {
		s := store(at)
		for _, c := range []byte{0, 1, 2, 127, 128, 253, 254, 255} {
			s.Now[at] = c
			for _, then := range []byte{0, 1, 255} {
				switch s.Last[at] = then; c {
				case 0:
					shareRefused(t, "none", s, at, api.ErrNone)
				case 255:
					shareRefused(t, "as many as may be", s, at, api.ErrCount)
				default:
					shares(t, "between", s, at)
				}
			}
		}
	}
	// The others' counts are no hindrance, nor is what waits.
	for _, at := range []int{8, 9, 127, 128, 254, 255} {
		s := api.Store{Disk: waiting(4096).Disk, Now: level(255), Last: level(0)}
		s.Now[at] = 254
		shares(t, "all others at 255", s, at)
		s.Now = level(0)
		s.Now[at] = 1
		shares(t, "all others at 0", s, at)
		shareRefused(t, "beside it", s, 263-at, api.ErrNone)
	}
}

// P8.3: ErrArg, unless the place is from 8 to 255, whatever the counts are.
func TestShareRefuses(t *testing.T) {
	for _, c := range []byte{0, 1, 254, 255} {
		s := api.Store{Disk: disk(9), Now: level(c), Last: level(255 - c)}
		for _, at := range strayPlaces {
			shareRefused(t, "no such block", s, at, api.ErrArg)
		}
		for at := -300; at < 600; at++ {
			if _, e := room.Share(s, at); (e == api.ErrArg) != (at < 8 || at > 255) {
				t.Errorf("Share at %d: %d", at, e)
			}
		}
	}
}

// P8.3: from its first reference up to the last one that may be.
func TestShareUpToTheEnd(t *testing.T) {
	s := takes(t, "one free", only(200), filled(3), 200)
	for range 254 {
		s = shares(t, "one by one", s, 200)
	}
	shareRefused(t, "as many as may be", s, 200, api.ErrCount)
	if x, e := dev.Read(s.Disk, 200); e != api.OK || !bytes.Equal(x, filled(3)) {
		t.Error(x, e)
	}
}

// P8.3: the node that lasts there, or of the last write that waits for it, at each count but 0.
func TestNode(t *testing.T) {
	all := []api.Node{{}}
	for many := 1; many < 6; many++ {
		all = append(all, leaf(many), above(many, many), above(6-many, 1))
	}
	for i, n := range all {
		other := all[(i+1)%len(all)]
		for _, at := range []int{8, 9, 128, 254, 255} {
			settled := api.Store{Disk: disk(7, 100), Now: sparse(i), Last: sparse(i + 1)}
			settled.Disk.Blocks[at] = block(n)
			waits := api.Store{Disk: disk(at, 100), Now: sparse(i), Last: sparse(i + 1)}
			waits.Disk.Waits = append(waits.Disk.Waits, api.Write{At: at, Data: block(n)}, api.Write{At: 100, Data: filled(1)})
			both := api.Store{Disk: disk(), Now: sparse(i), Last: sparse(i + 1)}
			both.Disk.Blocks[at] = block(other)
			both.Disk.Waits = []api.Write{{At: at, Data: block(other)}, {At: at, Data: block(n)}, {At: 263 - at, Data: block(other)}}
			for j, s := range []api.Store{settled, waits, both} {
				for _, c := range []byte{1, 2, 254, 255} {
					s.Now[at], s.Last[at] = c, c%2
					if got, e := room.Node(s, at); e != api.OK || !node.Same(got, n) {
						t.Errorf("%d, %d: Node at %d = %v, %d, want %v", i, j, at, got, e, n)
					}
				}
			}
		}
	}
}

// nodeRefused fails, unless Node has that error, beside nothing.
func nodeRefused(t *testing.T, what string, s api.Store, at int, want api.Errno) {
	t.Helper()
	if n, e := room.Node(s, at); e != want || n.Level != 0 || len(n.Items) != 0 {
		t.Errorf("%s: Node at %d = %v, %d, want %d", what, at, n, e, want)
	}
}

// P8.3: ErrArg, then ErrNone, though there is a node; ErrBad where there is none, be it that one lasts below what waits, or waited ahead of it.
func TestNodeRefuses(t *testing.T) {
	good := block(leaf(3))
	s := api.Store{Disk: disk(), Now: noughts(256), Last: level(1)}
	for at := range s.Disk.Blocks {
		s.Disk.Blocks[at] = bytes.Clone(good)
	}
	for _, c := range []byte{0, 1, 255} {
		s.Now = level(c)
		for _, at := range strayPlaces {
			nodeRefused(t, "no such block", s, at, api.ErrArg)
		}
		for at := -300; at < 600; at++ {
			if _, e := room.Node(s, at); (e == api.ErrArg) != (at < 8 || at > 255) {
				t.Errorf("Node at %d: %d", at, e)
			}
		}
	}
	s.Now = level(1)
	for at := 8; at < 256; at++ {
		s.Now[at] = 0
		nodeRefused(t, "not counted now", s, at, api.ErrNone)
		s.Now[at] = 1
	}
	sealed, _ := sum.Seal([]byte{77, 0, 0})
	super, _ := ring.Write(api.Super{Gen: 78, Root: 8})
	odd := bytes.Clone(good)
	odd[127] ^= 1
	for i, b := range [][]byte{noughts(128), filled(78), sealed, super, odd, some(128, 2)} {
		for _, at := range []int{8, 9, 128, 255} {
			lasts, waits := kept(s), kept(s)
			lasts.Disk.Blocks[at] = b
			nodeRefused(t, "none lasts", lasts, at, api.ErrBad)
			waits.Disk.Waits = []api.Write{{At: at, Data: good}, {At: at, Data: b}, {At: 263 - at, Data: good}}
			nodeRefused(t, "what waits is none", waits, at, api.ErrBad)
			lasts.Now[at] = 0
			nodeRefused(t, "nor is it counted", lasts, at, api.ErrNone)
			if n, e := room.Node(waits, 263-at); e != api.OK || !node.Same(n, leaf(3)) {
				t.Error(i, at, n, e)
			}
		}
	}
}

// P8.2, P8.3: a node whose block is taken is read there, and when it is shared.
func TestNodesTaken(t *testing.T) {
	s := store(4)
	for many := range 6 {
		out, at, e := room.Take(s, block(leaf(many)))
		if e != api.OK {
			t.Fatal(e)
		}
		if n, e := room.Node(out, at); e != api.OK || !node.Same(n, leaf(many)) {
			t.Error(many, n, e)
		}
		s = shares(t, "a node", out, at)
		if n, e := room.Node(s, at); e != api.OK || !node.Same(n, leaf(many)) {
			t.Error(many, n, e)
		}
	}
}

// turns are each one thing of a store that is another one then.
func turns() []func(s *api.Store) {
	l := []func(s *api.Store){
		func(s *api.Store) { s.Disk.Blocks = s.Disk.Blocks[:255] },
		func(s *api.Store) { s.Disk.Blocks = append(s.Disk.Blocks, nil) },
		func(s *api.Store) { s.Disk.Waits = s.Disk.Waits[1:] },
		func(s *api.Store) { s.Disk.Waits = append(s.Disk.Waits, api.Write{}) },
		func(s *api.Store) { s.Disk.Waits[0], s.Disk.Waits[1] = s.Disk.Waits[1], s.Disk.Waits[0] },
		func(s *api.Store) { s.Disk.Waits[2].At++ },
		func(s *api.Store) { s.Disk.Waits[2].Data[127]++ },
		func(s *api.Store) { s.Disk = api.Disk{} },
		func(s *api.Store) { s.Disk, _ = dev.Barrier(s.Disk) },
		func(s *api.Store) { s.Now, s.Last = s.Last, s.Now },
		func(s *api.Store) { s.Now = bytes.Clone(s.Last) },
		func(s *api.Store) { s.Last = bytes.Clone(s.Now) },
		func(s *api.Store) { s.Now = nil },
		func(s *api.Store) { s.Last = nil },
		func(s *api.Store) { s.Now = s.Now[:255] },
		func(s *api.Store) { s.Last = s.Last[:255] },
		func(s *api.Store) { s.Now = append(s.Now, 0) },
		func(s *api.Store) { s.Last = append(s.Last, 0) },
	}
	for _, at := range []int{0, 7, 8, 128, 255} {
		l = append(l,
			func(s *api.Store) { s.Disk.Blocks[at][at%128]++ },
			func(s *api.Store) { s.Disk.Blocks[at] = s.Disk.Blocks[at][:127] },
			func(s *api.Store) { s.Now[at]++ },
			func(s *api.Store) { s.Last[at]++ },
		)
	}
	return l
}

// P8.1: one thing that is another one is told, in each field, in stores that may be and in others.
func TestSame(t *testing.T) {
	for i, turn := range turns() {
		a, b, c := store(5), store(5), store(5)
		if !room.Same(a, b) || !room.Same(a, a) {
			t.Fatalf("%d: two stores made alike are not the same", i)
		}
		turn(&b)
		if room.Same(a, b) || room.Same(b, a) {
			t.Errorf("%d: a store that was turned is still the same", i)
		}
		if turn(&c); !room.Same(b, c) {
			t.Errorf("%d: two stores turned alike are not the same", i)
		}
	}
	all := append(odds(), stores()...)
	for i, a := range all {
		b := kept(a)
		if !room.Same(a, b) || !room.Same(b, a) {
			t.Errorf("%d: two stores made alike are not the same", i)
		}
		other := all[(i*7+1)%len(all)]
		if room.Same(a, other) != alike(a, other) {
			t.Errorf("%d: Same of others is not what plain words tell", i)
		}
	}
}

// P8.1, Rules ("Lists"): a list without elements may be nil or not, and spare room is not there.
func TestSameOfNothing(t *testing.T) {
	none := api.Store{Disk: api.Disk{Blocks: [][]byte{}, Waits: []api.Write{}}, Now: []byte{}, Last: []byte{}}
	spare := api.Store{Disk: api.Disk{Blocks: disk().Blocks[:0], Waits: disk(9).Waits[:0]}, Now: sparse(1)[:0], Last: sparse(2)[:0]}
	for i, a := range []api.Store{{}, none, spare} {
		for j, b := range []api.Store{{}, none, spare} {
			if !room.Same(a, b) {
				t.Errorf("%d, %d: two stores without anything are not the same", i, j)
			}
		}
		if room.Same(a, room.New()) || room.Same(room.New(), a) {
			t.Errorf("%d: a store without anything is a new one", i)
		}
	}
	if s := room.New(); !room.Same(s, room.New()) || room.Same(s, store(1)) {
		t.Error("new stores are not the same, or another one is one")
	}
}

// P8.1: any store's twin is the same, and shares nothing with it.
func TestTwin(t *testing.T) {
	for i, s := range append(odds(), stores()...) {
		want := kept(s)
		twin := room.Twin(s)
		if !alike(twin, want) || !room.Same(twin, s) {
			t.Errorf("%d: the twin is another one", i)
		}
		wreck(twin)
		if !alike(s, want) {
			t.Errorf("%d: what is done to the twin is seen", i)
		}
		twin = room.Twin(s)
		wreck(s)
		if !alike(twin, want) {
			t.Errorf("%d: what is done to it is seen in the twin", i)
		}
	}
}

// askers are all calls that answer a store, of roomy's or one like that.
func askers() map[string]func(s api.Store) api.Store {
	share := func(s api.Store, at int) api.Store {
		s, _ = room.Share(s, at)
		return s
	}
	take := func(s api.Store, b []byte) api.Store {
		s, _, _ = room.Take(s, b)
		return s
	}
	return map[string]func(s api.Store) api.Store{
		"New":             func(api.Store) api.Store { return room.New() },
		"Take":            func(s api.Store) api.Store { return take(s, some(128, 77)) },
		"Take of a block": func(s api.Store) api.Store { return take(s, s.Disk.Blocks[200]) },
		"Take of a write": func(s api.Store) api.Store { return take(s, s.Disk.Waits[2].Data) },
		"Take of counts":  func(s api.Store) api.Store { return take(s, s.Now[:128]) },
		"Share":           func(s api.Store) api.Store { return share(s, 9) },
		"Share once more": func(s api.Store) api.Store { return share(s, 11) },
		"Twin":            room.Twin,
	}
}

// P8.4: what is handed in, its spare room too, stays as it was.
func TestReadsAlone(t *testing.T) {
	s, other := roomy(), roomy()
	was := bared(s)
	still := func(name string) {
		t.Helper()
		if !alike(bared(s), was) || !alike(bared(other), was) {
			t.Fatalf("%s turned what was handed in", name)
		}
	}
	for name, ask := range askers() {
		ask(s)
		still(name)
	}
	room.Check(s)
	still("Check")
	room.Same(s, other)
	still("Same")
	room.Free(s)
	still("Free")
	for at := -2; at < 260; at++ {
		room.Node(s, at)
		room.Share(s, at)
	}
	still("Node, or Share")
	data := some(300, 6)
	for _, many := range []int{0, 127, 128, 129, 300} {
		room.Take(s, data[:many])
	}
	still("Take")
	if !bytes.Equal(data, some(300, 6)) {
		t.Error("bytes to write were turned", data)
	}
}

// P8.4: what is done to a store that is answered is seen nowhere, and the other way.
func TestStoresAreNewMemory(t *testing.T) {
	for name, ask := range askers() {
		s := roomy()
		was := bared(s)
		first, second := ask(s), ask(s)
		if room.Check(first) != api.OK {
			t.Fatalf("%s answers no store", name)
		}
		want := kept(first)
		wreck(second)
		if !alike(first, want) || !alike(bared(s), was) {
			t.Errorf("%s: what is done to an answer is seen in an earlier one, or in the argument", name)
		}
		if third := ask(s); !alike(third, want) {
			t.Errorf("%s: a later answer is another one", name)
		}
		wreck(s)
		if !alike(first, want) {
			t.Errorf("%s: what is done to the argument is seen in the answer", name)
		}
	}
	data := some(128, 3)
	out, at, _ := room.Take(roomy(), data)
	spoil(data)
	if b, e := dev.Read(out.Disk, at); e != api.OK || !bytes.Equal(b, some(128, 3)) {
		t.Error("what is done to the bytes that were handed in is seen")
	}
}

// P8.4: no two lists of a store that is answered share memory, their spare room neither, though those that are handed in do.
func TestStoresShareNothing(t *testing.T) {
	for name, ask := range askers() {
		counts := level(1)
		counts[8] = 0
		s := api.Store{Disk: api.Disk{Blocks: slices.Repeat([][]byte{counts[128:]}, 256)}, Now: counts, Last: counts}
		for _, at := range []int{9, 7, 9} {
			s.Disk.Waits = append(s.Disk.Waits, api.Write{At: at, Data: s.Disk.Blocks[0]})
		}
		out := ask(s)
		if room.Check(out) != api.OK {
			t.Fatalf("%s answers no store", name)
		}
		was := kept(out)
		lists, then := listsOf(out), listsOf(was)
		for i, b := range lists {
			spoil(b)
			many := 0
			for j, c := range lists {
				if !bytes.Equal(c, then[j]) {
					many++
				}
			}
			if spoil(b); many != 1 {
				t.Fatalf("%s: what is done to list %d is seen in %d", name, i, many)
			}
		}
	}
}

// listsOf is all lists of bytes that s has.
func listsOf(s api.Store) [][]byte {
	l := append(slices.Clone(s.Disk.Blocks), s.Now, s.Last)
	for _, w := range s.Disk.Waits {
		l = append(l, w.Data)
	}
	return l
}

// P8.4: blocks that are told, and a node, are new memory.
func TestAnswersAreNewMemory(t *testing.T) {
	s := roomy()
	was := bared(s)
	first, _ := room.Free(s)
	want := slices.Clone(first)
	second, _ := room.Free(s)
	for i := range second[:cap(second)] {
		second[:cap(second)][i] = -1
	}
	if third, e := room.Free(s); e != api.OK || !slices.Equal(first, want) || !slices.Equal(third, want) {
		t.Error("Free: what is done to an answer is seen", first, third, e)
	}
	n, _ := room.Node(s, 9)
	other, _ := room.Node(s, 9)
	for i := range other.Items {
		spoil(other.Items[i].Val)
		other.Items[i] = api.Item{Ref: -1}
	}
	if third, e := room.Node(s, 9); e != api.OK || !node.Same(n, leaf(3)) || !node.Same(third, leaf(3)) {
		t.Error("Node: what is done to an answer is seen", n, third, e)
	}
	if !alike(bared(s), was) {
		t.Error("what is done to an answer is seen in the store")
	}
	wreck(s)
	if !slices.Equal(first, want) || !node.Same(n, leaf(3)) {
		t.Error("what is done to the store is seen in the answer", first, n)
	}
}

// P8.5, W3: what is taken was free, and is so no more; all other counts stay, and what was free else is so still.
func TestTakenWasFree(t *testing.T) {
	for i, s := range stores() {
		if len(s.Disk.Waits) == 4096 {
			continue
		}
		for step := range 9 {
			free, _ := room.Free(s)
			out, at, e := room.Take(s, some(128, step))
			if len(free) == 0 || len(s.Disk.Waits) == 4096 {
				takeRefused(t, "no room", s, filled(1), api.ErrFull)
				break
			}
			if e != api.OK || !slices.Contains(free, at) || s.Now[at] != 0 || s.Last[at] != 0 || out.Now[at] != 1 {
				t.Fatalf("%d, %d: at %d, %d, of %v", i, step, at, e, free)
			}
			left, _ := room.Free(out)
			if !slices.Equal(left, slices.DeleteFunc(free, func(f int) bool { return f == at })) {
				t.Fatalf("%d, %d: behind Take at %d free are %v", i, step, at, left)
			}
			s = out
		}
	}
}

// P8.5, W3: free, pinned, taken and fixed blocks are all blocks, each in one of these ways, behind each of many steps.
func TestEachBlockOneWay(t *testing.T) {
	s, most := room.New(), [3]int{}
	for step := range 900 {
		s = stepped(t, s, step)
		free, e := room.Free(s)
		if e != api.OK {
			t.Fatal(step, e)
		}
		ways := [256]int{0: 1, 1: 1, 2: 1, 3: 1, 4: 1, 5: 1, 6: 1, 7: 1}
		many := [3]int{len(free)}
		for _, at := range free {
			ways[at]++
		}
		for at, c := range s.Now {
			switch {
			case c > 0: // taken
				ways[at]++
				many[1]++
			case s.Last[at] > 0: // pinned
				ways[at]++
				many[2]++
			}
		}
		for at, n := range ways {
			if n != 1 {
				t.Fatalf("step %d: block %d is told in %d ways", step, at, n)
			}
		}
		for i, n := range many {
			most[i] = max(most[i], n)
		}
	}
	if slices.Min(most[:]) < 9 {
		t.Errorf("free, taken and pinned were at most %v: too few to tell", most)
	}
}

// stepped is s behind one step of many: a block taken, one shared, one left, all committed.
func stepped(t *testing.T, s api.Store, step int) api.Store {
	t.Helper()
	at := 8 + (step*step*7+step*3)%61
	switch {
	case step%97 == 96: // what is there lasts
		s.Disk, _ = dev.Barrier(s.Disk)
		s.Last = bytes.Clone(s.Now)
	case step%9 == 5 && s.Now[at] > 0:
		s = shares(t, "many steps", s, at)
	case step%3 == 2 && s.Now[at] > 0:
		var e api.Errno
		if s.Now, e = count.Down(s.Now, at); e != api.OK {
			t.Fatal(step, e)
		}
	case step%3 != 2 && len(freeOf(s)) > 0:
		s = takes(t, "many steps", s, some(128, step), freeOf(s)[0])
	}
	return s
}

// P8.5: no block that is referred to now, or was so when all was committed last, is ever written: each is as it was as long as it is one of these.
func TestNeverWritten(t *testing.T) {
	s := room.New()
	for step := range 900 {
		out := stepped(t, s, step)
		for at := range 256 {
			a, _ := dev.Read(s.Disk, at)
			b, e := dev.Read(out.Disk, at)
			if e != api.OK || (s.Now[at] > 0 || s.Last[at] > 0 || at < 8) && !bytes.Equal(a, b) {
				t.Fatalf("step %d: block %d, of counts %d and %d, was written", step, at, s.Now[at], s.Last[at])
			}
		}
		for _, w := range out.Disk.Waits[min(len(s.Disk.Waits), len(out.Disk.Waits)):] {
			if w.At < 8 || s.Now[w.At] > 0 || s.Last[w.At] > 0 {
				t.Fatalf("step %d: a write to %d waits", step, w.At)
			}
		}
		s = out
	}
}

// P8.5, W1: whichever writes a cut keeps, each block that was referred to when all was committed last, and each fixed one, is as it lasted.
func TestCutBehindTakes(t *testing.T) {
	s := api.Store{Disk: disk(), Now: noughts(256), Last: noughts(256)}
	for _, at := range []int{8, 10, 11, 14, 200, 255} {
		s.Now[at], s.Last[at] = 1, 1
	}
	was := kept(s)
	for step := range 10 {
		// What was there is left meanwhile, and what was taken since is left too, and taken again.
		for _, at := range [][]int{{8}, {}, {10, 9}, {12}, {}, {14, 255}, {9}, {11}, {200}, {}}[step] {
			s.Now[at] = 0
		}
		out, at, e := room.Take(s, some(128, step))
		if e != api.OK || was.Last[at] != 0 {
			t.Fatal(step, at, e)
		}
		s = out
	}
	for m := range 1 << 10 {
		keep := make([]bool, 10)
		for i := range keep {
			keep[i] = m>>i&1 == 1
		}
		cut, e := dev.Crash(s.Disk, keep)
		if e != api.OK {
			t.Fatal(keep, e)
		}
		for at, b := range cut.Blocks {
			if (was.Last[at] > 0 || at < 8) && !bytes.Equal(b, was.Disk.Blocks[at]) {
				t.Fatalf("%v: block %d is another one", keep, at)
			}
		}
	}
	if !bytes.Equal(s.Last, was.Last) {
		t.Error("Last was turned", s.Last)
	}
}

// P8.5: shares may be told in either order, of two blocks, of one twice, and with a block taken between.
func TestSharesInEitherOrder(t *testing.T) {
	s := api.Store{Disk: disk(9, 20), Now: level(100), Last: level(0)}
	s.Now[30], s.Now[31] = 0, 0
	all := []int{8, 9, 10, 127, 128, 254, 255}
	for _, a := range all {
		for _, b := range all {
			one := shares(t, "one, then the other", shares(t, "one", s, a), b)
			two := shares(t, "the other way", shares(t, "the other one", s, b), a)
			if !room.Same(one, two) {
				t.Errorf("%d and %d: another store the other way round", a, b)
			}
		}
		one, at, e := room.Take(shares(t, "ahead", s, a), filled(7))
		other, to, f := room.Take(s, filled(7))
		if e != api.OK || f != api.OK || at != 30 || to != 30 || !room.Same(one, shares(t, "behind", other, a)) {
			t.Errorf("%d: another store where it is shared behind Take at %d: %d, %d", a, at, e, f)
		}
	}
}

// The chapter's examples.
func TestExamples(t *testing.T) {
	if l, e := room.Free(room.New()); e != api.OK || len(l) != 248 || l[0] != 8 {
		t.Error("Free(New)", l, e)
	}
	s, at, e := room.Take(room.New(), noughts(128))
	if e != api.OK || at != 8 {
		t.Error("Take(New, noughts)", at, e)
	}
	if l, e := room.Free(s); e != api.OK || len(l) != 247 || l[0] != 9 {
		t.Error("Free(that)", l, e)
	}
	shareRefused(t, "Share(New, 8)", room.New(), 8, api.ErrNone)
	nodeRefused(t, "Node(New, 8)", room.New(), 8, api.ErrNone)
	shareRefused(t, "Share(New, 7)", room.New(), 7, api.ErrArg)
}

// The chapter's errors, and its limits, have its numbers.
func TestErrors(t *testing.T) {
	if api.ErrArg != 2 || api.ErrText != 3 || api.ErrNone != 6 || api.ErrBad != 8 || api.ErrFull != 9 || api.ErrCount != 70 {
		t.Error(int(api.ErrArg), int(api.ErrText), int(api.ErrNone), int(api.ErrBad), int(api.ErrFull), int(api.ErrCount))
	}
	if api.Blocks != 256 || api.Size != 128 || api.First != 8 || api.MaxWaits != 4096 {
		t.Error(api.Blocks, api.Size, api.First, api.MaxWaits)
	}
}
