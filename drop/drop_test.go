package drop_test

import (
	"bytes"
	"math"
	"slices"
	"testing"

	"scionry/api"
	"scionry/dev"
	"scionry/drop"
	"scionry/item"
	"scionry/node"
	"scionry/room"
	"scionry/sum"
)

// The signatures are the chapter's, to the letter.
var (
	_ func(s api.Store, n api.Node) (out api.Store, at int, e api.Errno) = drop.Make
	_ func(s api.Store, at int) (api.Store, api.Errno)                   = drop.Leave
	_ func(s api.Store, at int) (api.Store, api.Errno)                   = drop.Loose
)

// leaver is Leave, or Loose.
type leaver = func(s api.Store, at int) (api.Store, api.Errno)

// strayPlaces are those of no block that may be taken: the chapter's first, then those of which some bytes are right.
var strayPlaces = []int{-1, 0, 7, 256, 1, 3, 4, 6, 257, -8, -248, 256 + 8, 255 + 256, 1<<16 + 9, 1 << 32, 1<<32 + 8, -1<<32 + 9, math.MaxInt, math.MinInt, math.MinInt + 8}

// someCounts are counts at both ends, and between.
var someCounts = []byte{1, 2, 3, 127, 128, 253, 254, 255}

// filled is a block of one byte, again and again.
func filled(c byte) []byte { return bytes.Repeat([]byte{c}, 128) }

// some is many bytes that differ from place to place, and by seed.
func some(many, seed int) []byte {
	b := make([]byte, many)
	for i := range b {
		b[i] = byte(i*i*29 + i*seed + i>>2 + seed*83)
	}
	return b
}

// row is a node of that level with an item for each of the Refs, their keys rising from one byte to the next.
func row(level int, refs ...int) api.Node {
	n := api.Node{Level: level}
	for i, ref := range refs {
		n.Items = append(n.Items, api.Item{Key: api.Key{Kind: 2, Id: uint32(i), Off: 9}, Ref: ref})
	}
	return n
}

// valued is a leaf like row's, each item of which has a value, too.
func valued(refs ...int) api.Node {
	n := row(0, refs...)
	for i := range n.Items {
		n.Items[i].Val = some(12-2*i, i)
	}
	return n
}

// block is n's block.
func block(n api.Node) []byte {
	b, e := node.Write(n)
	if e != api.OK {
		panic(e)
	}
	return b
}

// plan tells what a store has: nodes in blocks, and counts.
type plan struct {
	nodes map[int]api.Node
	now   map[int]byte
}

// store is what the plan tells, on a disk whose other blocks all differ; every other node waits to be written, and below it another one lasts.
func (p plan) store() api.Store {
	s := room.New()
	for at := range s.Disk.Blocks {
		s.Disk.Blocks[at] = append(some(127, at), byte(at))
	}
	for at := range 256 {
		if n, ok := p.nodes[at]; ok && at%2 == 0 {
			s.Disk.Blocks[at] = block(n)
		} else if ok {
			s.Disk.Blocks[at] = block(row(5, 8))
			s.Disk.Waits = append(s.Disk.Waits, api.Write{At: at, Data: filled(1)}, api.Write{At: at, Data: block(n)})
		}
		s.Now[at] = p.now[at]
		s.Last[at] = byte(at * 5 / 256)
	}
	copy(s.Last, make([]byte, 8))
	return s
}

// level is the table whose counts are all the same.
func level(c byte) []byte { return append(make([]byte, 8), bytes.Repeat([]byte{c}, 248)...) }

// only is a store in which just these blocks are free, and all those that are counted now are so that often.
func only(c byte, ats ...int) api.Store {
	s := plan{}.store()
	for at := 8; at < 256; at++ {
		s.Now[at], s.Last[at] = c*byte(at%2), byte((at+1)%2)
	}
	for _, at := range ats {
		s.Now[at], s.Last[at] = 0, 0
	}
	return s
}

// waiting is s, and many writes wait for its disk.
func waiting(s api.Store, many int) api.Store {
	b := filled(1)
	s.Disk.Waits = nil
	for i := range many {
		s.Disk.Waits = append(s.Disk.Waits, api.Write{At: i % 8, Data: b})
	}
	return s
}

// odds are stores that may not be: for one of their fields alone, for two, for all.
func odds() []api.Store {
	good := func() api.Store { return plan{now: map[int]byte{8: 1, 9: 255, 255: 1}}.store() }
	l := []api.Store{{}, waiting(good(), 4097), {Now: level(1), Last: level(1)}, {Disk: dev.New()}, {Disk: dev.New(), Now: level(1)}, {Disk: dev.New(), Last: level(1)}}
	for _, turn := range []func(s *api.Store){
		func(s *api.Store) { s.Disk.Blocks = s.Disk.Blocks[:255] },
		func(s *api.Store) { s.Disk.Blocks = append(s.Disk.Blocks, filled(1)) },
		func(s *api.Store) { s.Disk.Blocks[7] = nil },
		func(s *api.Store) { s.Disk.Blocks[255] = s.Disk.Blocks[255][:127] },
		func(s *api.Store) { s.Disk.Blocks[9] = append(s.Disk.Blocks[9], 0) },
		func(s *api.Store) { s.Disk.Waits = append(s.Disk.Waits, api.Write{At: 256, Data: filled(1)}) },
		func(s *api.Store) { s.Disk.Waits = append(s.Disk.Waits, api.Write{At: -1, Data: filled(1)}) },
		func(s *api.Store) { s.Disk.Waits = append(s.Disk.Waits, api.Write{At: 9, Data: filled(1)[:127]}) },
		func(s *api.Store) { s.Now = nil },
		func(s *api.Store) { s.Now = s.Now[:255] },
		func(s *api.Store) { s.Now = append(s.Now, 0) },
		func(s *api.Store) { s.Now[0] = 1 },
		func(s *api.Store) { s.Now[7] = 255 },
		func(s *api.Store) { s.Last = nil },
		func(s *api.Store) { s.Last = s.Last[:255] },
		func(s *api.Store) { s.Last = append(s.Last, 0) },
		func(s *api.Store) { s.Last[0] = 255 },
		func(s *api.Store) { s.Last[7] = 1 },
		func(s *api.Store) { s.Now, s.Last = nil, nil },
	} {
		s := good()
		turn(&s)
		l = append(l, s)
	}
	return l
}

// wrongNodes are nodes that may not be; but for what is wrong with them, each Ref is to 8.
func wrongNodes() []api.Node {
	l := []api.Node{row(6, 8), row(-1, 8), row(-1), row(6), row(math.MaxInt, 8), row(math.MinInt, 8), row(256, 8), row(0, 8, 8, 8, 8, 8, 8), row(1, 8, 8, 8, 8, 8, 8)}
	for level := 1; level < 6; level++ {
		l = append(l, row(level), row(level, 0), row(level, 8, 0), row(level, 0, 8))
		n := row(level, 8, 8)
		n.Items[1].Val = []byte{0}
		l = append(l, n)
	}
	for _, ref := range []int{-1, 1, 7, 256, -8, 1 << 16, 1<<16 + 8, 1<<32 + 8, math.MinInt, math.MaxInt} {
		l = append(l, row(0, ref), row(0, 8, ref), row(0, ref, 8), row(3, 8, 8, ref))
	}
	for _, turn := range []func(items []api.Item){
		func(items []api.Item) { items[1].Key = items[0].Key },
		func(items []api.Item) { items[0].Key, items[1].Key = items[1].Key, items[0].Key },
		func(items []api.Item) { items[2].Key.Kind = 1 },
		func(items []api.Item) { items[2].Val = make([]byte, 13) },
	} {
		n := row(0, 8, 8, 8)
		turn(n.Items)
		l = append(l, n)
	}
	return l
}

// nothing tells whether s is as it stands beside an error.
func nothing(s api.Store) bool {
	return len(s.Disk.Blocks) == 0 && len(s.Disk.Waits) == 0 && len(s.Now) == 0 && len(s.Last) == 0
}

// seen is the block at that place as the words tell it: the last write that waits for it, or what lasts.
func seen(s api.Store, at int) []byte {
	b := s.Disk.Blocks[at]
	for _, w := range s.Disk.Waits {
		if w.At == at {
			b = w.Data
		}
	}
	return b
}

// leftByWords turns now as the words tell it, one within the other; level is what the node there has to be, or -1 for any. It tells whether that went well.
func leftByWords(s api.Store, now []byte, at, level int) bool {
	if now[at] == 0 {
		return false
	}
	if now[at]--; now[at] > 0 {
		return true
	}
	n, e := node.Read(seen(s, at))
	if e != api.OK || level >= 0 && n.Level != level {
		return false
	}
	for _, x := range n.Items {
		switch {
		case n.Level > 0:
			if !leftByWords(s, now, x.Ref, n.Level-1) {
				return false
			}
		case x.Ref > 0:
			if now[x.Ref] == 0 {
				return false
			}
			now[x.Ref]--
		}
	}
	return true
}

// makes fails, unless Make has the node in that block, counts it and what it refers to, and turns nothing else.
func makes(t *testing.T, what string, s api.Store, n api.Node, want int) api.Store {
	t.Helper()
	was := room.Twin(s)
	is := room.Twin(s)
	is.Disk.Waits = append(is.Disk.Waits, api.Write{At: want, Data: block(n)})
	for _, x := range n.Items {
		if x.Ref != 0 {
			is.Now[x.Ref]++
		}
	}
	is.Now[want] = 1
	out, at, e := drop.Make(s, n)
	if e != api.OK || at != want || !room.Same(out, is) {
		t.Fatalf("%s: Make of %v: at %d, %d, want %d, or another store", what, n, at, e, want)
	}
	if got, e := room.Node(out, at); e != api.OK || !node.Same(got, n) {
		t.Fatalf("%s: behind Make of %v there is %v, %d", what, n, got, e)
	}
	if !room.Same(s, was) {
		t.Errorf("%s: Make of %v turned what was handed in", what, n)
	}
	return out
}

// makeRefused fails, unless Make has that error, beside nothing.
func makeRefused(t *testing.T, what string, s api.Store, n api.Node, want api.Errno) {
	t.Helper()
	was, is := room.Twin(s), node.Twin(n)
	if out, at, e := drop.Make(s, n); e != want || at != 0 || !nothing(out) {
		t.Errorf("%s: Make of %v: at %d, %d, want %d", what, n, at, e, want)
	}
	if !room.Same(s, was) || !node.Same(n, is) {
		t.Errorf("%s: Make of %v turned what was handed in", what, n)
	}
}

// turns fails, unless the call turns the counts there to these, and nothing else.
func turns(t *testing.T, what string, call leaver, s api.Store, at int, counts map[int]byte) api.Store {
	t.Helper()
	was, is := room.Twin(s), room.Twin(s)
	for at, c := range counts {
		is.Now[at] = c
	}
	out, e := call(s, at)
	if e != api.OK || !bytes.Equal(out.Now, is.Now) {
		t.Fatalf("%s: at %d: %d, counts %v, want %v", what, at, e, out.Now, is.Now)
	}
	if !room.Same(out, is) {
		t.Fatalf("%s: at %d: the disk, or what was when all was committed last, is another one", what, at)
	}
	if !room.Same(s, was) {
		t.Errorf("%s: at %d: what was handed in was turned", what, at)
	}
	return out
}

// refused fails, unless the call has that error, beside nothing.
func refused(t *testing.T, what string, call leaver, s api.Store, at int, want api.Errno) {
	t.Helper()
	was := room.Twin(s)
	if out, e := call(s, at); e != want || !nothing(out) {
		t.Errorf("%s: at %d: %d, want %d, and nothing beside", what, at, e, want)
	}
	if !room.Same(s, was) {
		t.Errorf("%s: at %d: what was handed in was turned", what, at)
	}
}

// shapes are nodes of each level and size that may be, whose Refs are 0, or some of 8 to 11, one of them several times.
func shapes() []api.Node {
	l := []api.Node{row(0), {Items: []api.Item{}}, row(0, 0), row(0, 0, 0, 0, 0, 0), valued(0, 8), valued(8, 0, 8, 0, 9), valued(11, 10, 9, 8, 11), valued(8, 8, 8, 8, 8)}
	for level := range 6 {
		l = append(l, row(level, 8), row(level, 9, 8), row(level, 8, 8), row(level, 11, 8, 11), row(level, 10, 10, 10, 10), row(level, 8, 9, 8, 9, 8), row(level, 9, 9, 9, 9, 9), row(level, 8, 9, 10, 11, 10))
	}
	return l
}

// held is a store in which the blocks from 8 on are counted that often; if 8 to 11 are counted, 13, behind a pinned one, is the first that is free.
func held(counts ...byte) api.Store {
	s := plan{}.store()
	copy(s.Now[8:], counts)
	s.Last[10], s.Last[12] = 1, 255
	return s
}

// P9.1, P9.2, P9.4: nodes of all shapes, at counts that are low, and that just suffice: each Ref that is not 0 counts once more, one that comes several times as often; left again, all counts are as they were.
func TestMake(t *testing.T) {
	for _, counts := range [][]byte{{1, 1, 1, 1}, {1, 2, 128, 250}, {250, 250, 250, 250}, {7, 249, 3, 1}} {
		for _, n := range shapes() {
			s := held(counts...)
			out := makes(t, "some shape", s, n, 13)
			if left, e := drop.Leave(out, 13); e != api.OK || !bytes.Equal(left.Now, s.Now) {
				t.Errorf("%v made, and left: %d, %v, want %v", n, e, left.Now, s.Now)
			}
		}
	}
}

// P9.1: one more up to 255, and no more: ErrCount of a Ref at 255, be it by those ahead of it in the node.
func TestMakeUpToTheEnd(t *testing.T) {
	for level := range 6 {
		for _, ref := range []int{8, 9, 128, 255} {
			for many := 1; many < 6; many++ {
				n := row(level, slices.Repeat([]int{ref}, many)...)
				for _, c := range []int{1, 127, 128, 255 - many} {
					s := only(1, 20)
					s.Now[ref] = byte(c)
					makes(t, "room for all", s, n, 20)
				}
				for c := 256 - many; c < 256; c++ {
					s := only(1, 20)
					s.Now[ref] = byte(c)
					makeRefused(t, "one too many", s, n, api.ErrCount)
				}
			}
		}
	}
	s := held(254, 254, 254, 254)
	makes(t, "each once at 254", s, row(0, 8, 9, 10, 11), 13)
	makeRefused(t, "one twice at 254", s, row(0, 8, 9, 10, 8), api.ErrCount)
	makeRefused(t, "one twice at 254", s, row(2, 8, 8), api.ErrCount)
}

// P9.1: ErrNone of a Ref whose count is 0, at each place: it is free, or pinned, or would be taken for this very node.
func TestMakeOfNone(t *testing.T) {
	for level := range 6 {
		for at := range 5 {
			for _, ref := range []int{12, 13, 14, 100, 255} {
				refs := []int{8, 9, 10, 11, 8}
				refs[at] = ref
				s := held(1, 1, 1, 1)
				s.Last[ref] = byte(ref % 2)
				makeRefused(t, "a Ref to none", s, row(level, refs...), api.ErrNone)
				makeRefused(t, "a Ref to none, twice", s, row(level, ref, ref), api.ErrNone)
			}
		}
	}
	for _, ref := range []int{8, 9, 255} {
		makeRefused(t, "a new store", room.New(), row(0, ref), api.ErrNone)
		makeRefused(t, "a new store", room.New(), row(1, ref), api.ErrNone)
		makeRefused(t, "a new store", room.New(), row(0, 0, ref), api.ErrNone)
	}
}

// P9.1: of several Refs that may not be counted once more the first one tells; then room.Take's error.
func TestMakeInOrder(t *testing.T) {
	full := only(1)
	copy(full.Now[8:], []byte{0, 255, 254, 1, 0, 255})
	for i, s := range []api.Store{held(0, 255, 254, 1, 0, 255), waiting(held(0, 255, 254, 1, 0, 255), 4096), full, waiting(full, 4096)} {
		for level := range 6 {
			for _, c := range []struct {
				refs []int
				want api.Errno
			}{
				{[]int{8, 9}, api.ErrNone},
				{[]int{9, 8}, api.ErrCount},
				{[]int{11, 8, 9, 11}, api.ErrNone},
				{[]int{11, 13, 8}, api.ErrCount},
				{[]int{10, 10, 8}, api.ErrCount},
				{[]int{10, 8, 10}, api.ErrNone},
				{[]int{10, 11, 10, 11, 8}, api.ErrCount},
				{[]int{11, 11, 11, 11, 8}, api.ErrNone},
				{[]int{11, 11, 11, 11, 9}, api.ErrCount},
			} {
				makeRefused(t, "several that may not", s, row(level, c.refs...), c.want)
			}
			if i > 0 {
				makeRefused(t, "no room", s, row(level, 10, 11), api.ErrFull)
			}
		}
		makeRefused(t, "behind a Ref that is 0", s, row(0, 0, 9, 8), api.ErrCount)
		makeRefused(t, "behind a Ref that is 0", s, row(0, 0, 8, 0, 9), api.ErrNone)
		if i > 0 {
			makeRefused(t, "no room", s, row(0), api.ErrFull)
		}
	}
}

// P9.1: what may not be comes first, whatever else there is: the store, then the node.
func TestMakeRefuses(t *testing.T) {
	for _, s := range odds() {
		for _, n := range append(wrongNodes(), row(0), row(0, 8), row(1, 8), row(0, 20), row(0, 9)) {
			makeRefused(t, "a store that may not be", s, n, api.ErrBad)
		}
	}
	full := only(255)
	full.Now[8] = 0
	for _, n := range wrongNodes() {
		for _, s := range []api.Store{held(1), held(0), held(255), room.New(), full, waiting(full, 4096)} {
			makeRefused(t, "a node that may not be", s, n, api.ErrBad)
		}
	}
}

// P9.1: the one block that is free, wherever that is, is taken, and then there is none; nor is there, where 4096 writes wait.
func TestMakeTakesTheLast(t *testing.T) {
	for at := 8; at < 256; at++ {
		ref := 31
		if at == 31 {
			ref = 33
		}
		s := makes(t, "one free", only(3, at), row(at%6, ref, ref), at)
		makeRefused(t, "none free", s, row(0), api.ErrFull)
		makeRefused(t, "none free", s, row(3, at), api.ErrFull)
	}
	s := makes(t, "room for one write", waiting(held(1, 1, 1, 1), 4095), row(1, 8, 9), 13)
	makeRefused(t, "no room for a write", s, row(1, 8, 9), api.ErrFull)
	makeRefused(t, "no room for a write", s, row(0), api.ErrFull)
}

// P9.4: a node that is made twice has two places, each held once; what it refers to counts for both.
func TestMakeTwice(t *testing.T) {
	s := held(1, 1, 1, 1)
	s = makes(t, "once", s, row(1, 8, 9), 13)
	s = makes(t, "twice", s, row(1, 8, 9), 14)
	s = makes(t, "a third time", s, row(1, 8, 9), 15)
	if !bytes.Equal(s.Now[8:16], []byte{4, 4, 1, 1, 0, 1, 1, 1}) {
		t.Error(s.Now[8:16])
	}
	s = turns(t, "the second one left", drop.Leave, s, 14, map[int]byte{14: 0, 8: 3, 9: 3})
	s = turns(t, "the first one left", drop.Leave, s, 13, map[int]byte{13: 0, 8: 2, 9: 2})
	makes(t, "made again, in the first one's place", s, row(1, 8, 9), 13)
}

// P9.2: at each count above 1 a block is referred to once less, whatever is in it, and nothing else is turned; so it is for Loose at each count.
func TestHeldMore(t *testing.T) {
	for i, b := range [][]byte{filled(0), filled(78), some(128, 5), block(row(0)), block(valued(9, 10, 0, 11)), block(row(1, 11, 11)), block(row(5, 9, 10))} {
		for _, at := range []int{8, 12, 128, 255} {
			for _, c := range someCounts {
				s := only(1)
				copy(s.Now[9:], []byte{1, 255, 0})
				s.Now[at], s.Last[at] = c, byte(i%2)
				lasts, waits := room.Twin(s), room.Twin(s)
				lasts.Disk.Blocks[at] = bytes.Clone(b)
				waits.Disk.Waits = []api.Write{{At: at, Data: block(row(0))}, {At: at, Data: bytes.Clone(b)}}
				for _, s := range []api.Store{lasts, waits} {
					turns(t, "Loose", drop.Loose, s, at, map[int]byte{at: c - 1})
					if c > 1 {
						turns(t, "Leave", drop.Leave, s, at, map[int]byte{at: c - 1})
					}
				}
			}
		}
	}
}

// P9.2: at each count from 255 on down to 0, and no further.
func TestDownToNone(t *testing.T) {
	for _, call := range []leaver{drop.Leave, drop.Loose} {
		for _, at := range []int{8, 20, 255} {
			s := plan{nodes: map[int]api.Node{at: row(0)}, now: map[int]byte{at: 255}}.store()
			for c := 254; c >= 0; c-- {
				s = turns(t, "one by one", call, s, at, map[int]byte{at: byte(c)})
			}
			refused(t, "none is left", call, s, at, api.ErrNone)
		}
	}
}

// P9.2: room.Check's error; ErrArg, unless the place is from 8 to 255; ErrNone of a count of 0, though a node is there, and was so when all was committed last.
func TestRefuses(t *testing.T) {
	for name, call := range map[string]leaver{"Leave": drop.Leave, "Loose": drop.Loose} {
		for _, s := range odds() {
			for _, at := range append([]int{8, 9, 10, 255}, strayPlaces...) {
				refused(t, name+", a store that may not be", call, s, at, api.ErrBad)
			}
		}
		s := plan{}.store()
		for at := range s.Disk.Blocks {
			s.Disk.Blocks[at] = block(row(0))
		}
		for _, c := range []byte{0, 1, 2, 255} {
			s.Now, s.Last = level(c), level(255-c)
			for _, at := range strayPlaces {
				refused(t, name+", no such block", call, s, at, api.ErrArg)
			}
			for at := -300; at < 600; at++ {
				if _, e := call(s, at); (e == api.ErrArg) != (at < 8 || at > 255) {
					t.Errorf("%s at %d: %d", name, at, e)
				}
			}
		}
		for at := 8; at < 256; at++ {
			s.Now = level(byte(1 + at%2*254))
			s.Now[at], s.Last[at] = 0, byte(at%3)
			refused(t, name+", none", call, s, at, api.ErrNone)
		}
	}
}

// P9.2: a leaf that goes takes one from the count of each Ref that is not 0, as often as it comes; what is there is not read, though it is a node.
func TestLeaveLeaf(t *testing.T) {
	for _, c := range []struct {
		n           api.Node
		now, behind map[int]byte
	}{
		{row(0), nil, nil},
		{row(0, 0, 0), nil, nil},
		{valued(9), map[int]byte{9: 1}, map[int]byte{9: 0}},
		{valued(0, 9, 0, 10), map[int]byte{9: 2, 10: 255}, map[int]byte{9: 1, 10: 254}},
		{valued(9, 9), map[int]byte{9: 2}, map[int]byte{9: 0}},
		{valued(10, 9, 10, 9, 10), map[int]byte{9: 2, 10: 5}, map[int]byte{9: 0, 10: 2}},
		{row(0, 8), map[int]byte{8: 1, 10: 1}, map[int]byte{8: 0}},
		{row(0, 12, 11), map[int]byte{11: 1, 12: 1, 10: 1, 8: 1}, map[int]byte{11: 0, 12: 0}},
		{row(0, 255, 254, 255), map[int]byte{254: 3, 255: 3}, map[int]byte{254: 2, 255: 1}},
	} {
		for _, at := range []int{20, 21, 128, 253} {
			p := plan{nodes: map[int]api.Node{8: row(0, 10), 11: row(1, 8), 12: row(0, 10), at: c.n}, now: map[int]byte{at: 1}}
			behind := map[int]byte{at: 0}
			for at, n := range c.now {
				p.now[at] = n
			}
			for at, n := range c.behind {
				behind[at] = n
			}
			turns(t, "a leaf", drop.Leave, p.store(), at, behind)
			turns(t, "a leaf that is loose", drop.Loose, p.store(), at, map[int]byte{at: 0})
		}
	}
}

// tall is a tree of six levels: at 15, above 14 twice, and so on down to 10, a leaf of 8 and 9; the blocks that are counted twice below are those to which two items of one node refer.
func tall() plan {
	p := plan{nodes: map[int]api.Node{10: valued(8, 9, 0, 8)}, now: map[int]byte{8: 2, 9: 1, 15: 1}}
	for level := 1; level < 6; level++ {
		p.nodes[10+level] = row(level, 9+level, 9+level)
		p.now[9+level] = 2
	}
	return p
}

// P9.2: a tree of all levels goes, whole, where nobody else holds a part: the same node is held twice by the one above it.
func TestLeaveTall(t *testing.T) {
	all := map[int]byte{}
	for at := 8; at < 16; at++ {
		all[at] = 0
	}
	turns(t, "a tall tree", drop.Leave, tall().store(), 15, all)
	turns(t, "no room", drop.Leave, waiting(settled(tall().store()), 4096), 15, all)
	for at := 10; at < 16; at++ {
		p := tall()
		p.now[at] = 1
		behind := map[int]byte{}
		for below := 8; below <= at; below++ {
			behind[below] = 0
		}
		turns(t, "a tree of any height", drop.Leave, p.store(), at, behind)
	}
}

// settled is s, for which nothing waits any more.
func settled(s api.Store) api.Store {
	s.Disk, _ = dev.Barrier(s.Disk)
	return s
}

// P9.2: what is held elsewhere too stays, and all below it, at each level.
func TestLeaveHeldElsewhere(t *testing.T) {
	for at := 8; at < 16; at++ {
		for _, more := range []byte{1, 2, 250} {
			p := tall()
			p.now[at] += more
			behind := map[int]byte{at: more}
			for above := at + 1; above < 16; above++ {
				behind[above] = 0
			}
			switch at {
			case 8:
				behind[9] = 0
			case 9:
				behind[8] = 0
			}
			turns(t, "held elsewhere", drop.Leave, p.store(), 15, behind)
		}
	}
}

// P9.2: of a tree with branches just those go that nobody else holds.
func TestLeaveBranches(t *testing.T) {
	p := plan{
		nodes: map[int]api.Node{
			20: row(2, 21, 22, 23), 21: row(1, 24, 25), 22: row(1, 25, 26), 23: row(1, 26, 26, 24),
			24: valued(8, 9), 25: valued(9, 0, 9), 26: row(0), 30: row(1, 25, 24), 31: row(2, 22),
		},
		now: map[int]byte{20: 1, 21: 1, 22: 2, 23: 1, 24: 3, 25: 3, 26: 3, 30: 1, 31: 1, 8: 1, 9: 4},
	}
	s := turns(t, "one of three", drop.Leave, p.store(), 20, map[int]byte{20: 0, 21: 0, 22: 1, 23: 0, 24: 1, 25: 2, 26: 1})
	s = turns(t, "the second one", drop.Leave, s, 30, map[int]byte{30: 0, 24: 0, 25: 1, 8: 0, 9: 3})
	s = turns(t, "the third one", drop.Leave, s, 31, map[int]byte{31: 0, 22: 0, 25: 0, 26: 0, 9: 1})
	for _, at := range []int{20, 30, 31, 24} {
		refused(t, "gone", drop.Leave, s, at, api.ErrNone)
	}
}

// notNodes are blocks of no node.
func notNodes() [][]byte {
	sealed, _ := sum.Seal([]byte{77, 0, 0})
	odd := block(row(0))
	odd[127] ^= 1
	return [][]byte{filled(0), filled(78), some(128, 2), sealed, odd}
}

// P9.2: ErrBad of a block that is no node's, at the first step and at each one deeper, be it that one lasts below what waits, or waited ahead of it; but if it is held more than once, it is not read.
func TestLeaveNoNode(t *testing.T) {
	for at := 10; at < 16; at++ {
		for _, b := range notNodes() {
			lasts := settled(tall().store())
			lasts.Disk.Blocks[at] = bytes.Clone(b)
			waits := tall().store()
			waits.Disk.Waits = append(waits.Disk.Waits, api.Write{At: at, Data: bytes.Clone(b)}, api.Write{At: 7, Data: block(row(0))})
			for _, s := range []api.Store{lasts, waits} {
				refused(t, "no node on the way", drop.Leave, s, 15, api.ErrBad)
				s.Now[at]++
				if out, e := drop.Leave(s, 15); e != api.OK || out.Now[at] != 1 {
					t.Errorf("no node at %d, which is held: %d", at, e)
				}
				s.Now[at] = 1
				refused(t, "no node at the first step", drop.Leave, s, at, api.ErrBad)
			}
		}
	}
}

// P9.2: the first node may be of any level; each one below has to be of the next one, but where it is held more than once, and so not read.
func TestLeaveOtherLevel(t *testing.T) {
	for above := 1; above < 6; above++ {
		for below := range 6 {
			p := plan{nodes: map[int]api.Node{20: row(above, 21), 21: row(below, 8)}, now: map[int]byte{20: 1, 21: 1, 8: 2}}
			deep := tall()
			deep.nodes[10+above-1] = row(below, 8)
			deep.now[8] = 255
			if below == above-1 {
				turns(t, "the level below", drop.Leave, p.store(), 20, map[int]byte{20: 0, 21: 0, 8: 1})
			} else {
				refused(t, "another level", drop.Leave, p.store(), 20, api.ErrBad)
				refused(t, "another level, deeper", drop.Leave, deep.store(), 15, api.ErrBad)
			}
			p.now[21] = 2
			turns(t, "any level, held more than once", drop.Leave, p.store(), 20, map[int]byte{20: 0, 21: 1})
			p.now[20] = 2
			turns(t, "any level, not come to", drop.Leave, p.store(), 20, map[int]byte{20: 1})
		}
	}
	for first := range 6 {
		p := plan{nodes: map[int]api.Node{20: row(first, 8)}, now: map[int]byte{20: 1, 8: 2}}
		turns(t, "the first one", drop.Leave, p.store(), 20, map[int]byte{20: 0, 8: 1})
	}
}

// P9.2: ErrBad of a Ref whose count is 0, or comes to be 0 by those ahead, at the first step and at each one deeper.
func TestLeaveOfNone(t *testing.T) {
	for at := 8; at < 15; at++ {
		for c := range tall().now[at] {
			p := tall()
			p.now[at] = c
			refused(t, "counted too few times", drop.Leave, p.store(), 15, api.ErrBad)
			above := max(at+1, 10)
			p.now[above] = 1
			refused(t, "counted too few times, at the first step", drop.Leave, p.store(), above, api.ErrBad)
		}
	}
}

// P9.2, W6: nodes that refer to themselves, or to one another, are no trees: to leave one ends.
func TestLeaveRound(t *testing.T) {
	for level := range 6 {
		self := plan{nodes: map[int]api.Node{20: row(level, 20)}, now: map[int]byte{20: 1}}
		refused(t, "itself", drop.Leave, self.store(), 20, api.ErrBad)
		self.now[20] = 2
		turns(t, "itself, held twice", drop.Leave, self.store(), 20, map[int]byte{20: 1})
		two := plan{nodes: map[int]api.Node{20: row(level, 21), 21: row(level, 20)}, now: map[int]byte{20: 1, 21: 1}}
		if level == 0 {
			turns(t, "two leaves", drop.Leave, two.store(), 20, map[int]byte{20: 0, 21: 0})
			continue
		}
		refused(t, "two of one level", drop.Leave, two.store(), 20, api.ErrBad)
		two.nodes[21] = row(level-1, 20)
		refused(t, "one another", drop.Leave, two.store(), 20, api.ErrBad)
	}
}

// P9.2: what a node refers to is left in order, one whole ahead of the next: what is left first is held still, and not read.
func TestLeaveInOrder(t *testing.T) {
	// 30 is counted twice: the one that leaves it last reads it. It has to be of the level that this one says.
	early := plan{
		nodes: map[int]api.Node{20: row(3, 21, 22), 21: row(2, 23), 22: row(2, 30), 23: row(1, 30), 30: row(1, 31), 31: row(0)},
		now:   map[int]byte{20: 1, 21: 1, 22: 1, 23: 1, 30: 2, 31: 1},
	}
	turns(t, "the right one last", drop.Leave, early.store(), 20, map[int]byte{20: 0, 21: 0, 22: 0, 23: 0, 30: 0, 31: 0})
	early.nodes[20] = row(3, 22, 21)
	refused(t, "the wrong one last", drop.Leave, early.store(), 20, api.ErrBad)
	// The wrong one is nearer to the root here, but comes first, or last.
	near := plan{
		nodes: map[int]api.Node{20: row(3, 30, 21), 21: row(2, 22), 22: row(1, 30), 30: row(0)},
		now:   map[int]byte{20: 1, 21: 1, 22: 1, 30: 2},
	}
	turns(t, "the near one first", drop.Leave, near.store(), 20, map[int]byte{20: 0, 21: 0, 22: 0, 30: 0})
	near.nodes[20] = row(3, 21, 30)
	refused(t, "the near one last", drop.Leave, near.store(), 20, api.ErrBad)
	// A leaf refers to a node's block as to any: if it is the last one, what that node refers to stays.
	leaf := plan{
		nodes: map[int]api.Node{20: row(1, 21, 30), 21: row(0, 30), 30: row(0, 8)},
		now:   map[int]byte{20: 1, 21: 1, 30: 2, 8: 1},
	}
	turns(t, "the leaf first", drop.Leave, leaf.store(), 20, map[int]byte{20: 0, 21: 0, 30: 0, 8: 0})
	leaf.nodes[20] = row(1, 30, 21)
	turns(t, "the leaf last", drop.Leave, leaf.store(), 20, map[int]byte{20: 0, 21: 0, 30: 0})
}

// roomy is a store whose lists all have spare room: of a tree at 20, at whose leaf 8 and 9 are; 10 is held thrice, 11 and more are free.
func roomy() api.Store {
	p := plan{nodes: map[int]api.Node{20: row(1, 21), 21: valued(8, 9)}, now: map[int]byte{8: 2, 9: 1, 10: 3, 20: 1, 21: 1}}
	s := p.store()
	grow := func(b []byte) []byte { return append(b[:len(b):len(b)], some(9, 3)...)[:len(b)] }
	s.Now, s.Last = grow(s.Now), grow(s.Last)
	for at := range s.Disk.Blocks {
		s.Disk.Blocks[at] = grow(s.Disk.Blocks[at])
	}
	for i := range s.Disk.Waits {
		s.Disk.Waits[i].Data = grow(s.Disk.Waits[i].Data)
	}
	s.Disk.Blocks = append(s.Disk.Blocks, filled(5), filled(6))[:256]
	s.Disk.Waits = append(s.Disk.Waits, api.Write{At: 30, Data: filled(7)})[:len(s.Disk.Waits)]
	return s
}

// bared is s, its spare room shown as elements, in other memory.
func bared(s api.Store) api.Store {
	d := api.Disk{Blocks: slices.Clone(s.Disk.Blocks[:cap(s.Disk.Blocks)]), Waits: slices.Clone(s.Disk.Waits[:cap(s.Disk.Waits)])}
	for at, b := range d.Blocks {
		d.Blocks[at] = b[:cap(b)]
	}
	for i, w := range d.Waits {
		d.Waits[i].Data = w.Data[:cap(w.Data)]
	}
	return room.Twin(api.Store{Disk: d, Now: s.Now[:cap(s.Now)], Last: s.Last[:cap(s.Last)]})
}

// spoil turns every byte of b and of its spare room.
func spoil(b []byte) {
	b = b[:cap(b)]
	for i := range b {
		b[i] ^= 0xff
	}
}

// lists is all lists of bytes that s has.
func lists(s api.Store) [][]byte {
	l := append(slices.Clone(s.Disk.Blocks), s.Now, s.Last)
	for _, w := range s.Disk.Waits {
		l = append(l, w.Data)
	}
	return l
}

// wreck turns all that s has, with all its spare room.
func wreck(s api.Store) {
	for _, b := range lists(s) {
		spoil(b)
	}
	clear(s.Disk.Blocks[:cap(s.Disk.Blocks)])
	clear(s.Disk.Waits[:cap(s.Disk.Waits)])
}

// asks are calls of each function, of roomy's store or one like that: those that go well first.
func asks() map[string]func(s api.Store) (api.Store, api.Errno) {
	maker := func(n api.Node) func(s api.Store) (api.Store, api.Errno) {
		return func(s api.Store) (api.Store, api.Errno) {
			s, _, e := drop.Make(s, n)
			return s, e
		}
	}
	placed := func(call leaver, at int) func(s api.Store) (api.Store, api.Errno) {
		return func(s api.Store) (api.Store, api.Errno) { return call(s, at) }
	}
	return map[string]func(s api.Store) (api.Store, api.Errno){
		"Make":              maker(valued(8, 9, 0, 10)),
		"Make of no items":  maker(row(0)),
		"Make above":        maker(row(2, 20, 20)),
		"Leave of a tree":   placed(drop.Leave, 20),
		"Leave of a leaf":   placed(drop.Leave, 21),
		"Leave of one more": placed(drop.Leave, 10),
		"Loose":             placed(drop.Loose, 9),
		"Loose of one more": placed(drop.Loose, 10),
	}
}

// P9.3: what is handed in, its spare room too, stays as it was, whether the call goes well or not.
func TestReadsAlone(t *testing.T) {
	s := roomy()
	was := bared(s)
	still := func(name string) {
		t.Helper()
		if !room.Same(bared(s), was) {
			t.Fatalf("%s turned what was handed in", name)
		}
	}
	for name, ask := range asks() {
		if _, e := ask(s); e != api.OK {
			t.Fatal(name, e)
		}
		still(name)
	}
	for at := -2; at < 260; at++ {
		drop.Leave(s, at)
		drop.Loose(s, at)
	}
	still("Leave, or Loose")
	all := append(shapes(), wrongNodes()...)
	for i, n := range append(all, row(0, 8, 9, 10, 11), row(0, 10, 100)) {
		n.Items = slices.Grow(n.Items, 2)
		spare := n.Items[:cap(n.Items)]
		for i := range n.Items {
			n.Items[i].Val = slices.Grow(n.Items[i].Val, 5)
		}
		is, rest := node.Twin(n), slices.Clone(spare[len(n.Items):])
		drop.Make(s, n)
		still("Make")
		if !node.Same(n, is) || !slices.EqualFunc(rest, spare[len(n.Items):], item.Same) {
			t.Errorf("%d: Make turned the node", i)
		}
	}
}

// P9.3: what is done to a store that is answered is seen nowhere, and the other way.
func TestNewMemory(t *testing.T) {
	for name, ask := range asks() {
		s := roomy()
		was := bared(s)
		first, e := ask(s)
		second, f := ask(s)
		if e != api.OK || f != api.OK {
			t.Fatal(name, e, f)
		}
		want := room.Twin(first)
		wreck(second)
		if !room.Same(first, want) || !room.Same(bared(s), was) {
			t.Errorf("%s: what is done to an answer is seen in an earlier one, or in the argument", name)
		}
		if third, e := ask(s); e != api.OK || !room.Same(third, want) {
			t.Errorf("%s: a later answer is another one", name)
		}
		wreck(s)
		if !room.Same(first, want) {
			t.Errorf("%s: what is done to the argument is seen in the answer", name)
		}
	}
	n := valued(8, 9, 10)
	out, at, e := drop.Make(roomy(), n)
	for i := range n.Items {
		spoil(n.Items[i].Val)
		n.Items[i] = api.Item{Ref: -1}
	}
	if got, f := room.Node(out, at); e != api.OK || f != api.OK || !node.Same(got, valued(8, 9, 10)) {
		t.Error("what is done to the node that was handed in is seen", got, e, f)
	}
}

// P9.3: no two lists of a store that is answered share memory, their spare room neither, though those that are handed in do.
func TestSharesNothing(t *testing.T) {
	for name, ask := range asks() {
		counts := roomy().Now
		s := api.Store{Disk: api.Disk{Blocks: slices.Repeat([][]byte{counts[128:256]}, 256)}, Now: counts, Last: counts}
		b := block(row(0))
		for _, w := range []api.Write{{At: 21, Data: b}, {At: 9, Data: b}, {At: 20, Data: block(row(1, 21))}, {At: 7, Data: counts[128:256]}} {
			s.Disk.Waits = append(s.Disk.Waits, w)
		}
		out, e := ask(s)
		if e != api.OK || room.Check(out) != api.OK {
			t.Fatal(name, e)
		}
		all, then := lists(out), lists(room.Twin(out))
		for i, b := range all {
			spoil(b)
			many := 0
			for j, c := range all {
				if !bytes.Equal(c, then[j]) {
					many++
				}
			}
			if spoil(b); many != 1 {
				t.Fatalf("%s: what is done to list %d is seen in %d", name, i, many)
			}
		}
	}
}

// garden is a store, and what is known of it: the nodes that are in blocks, and by whom each block is held.
type garden struct {
	s     api.Store
	nodes map[int]api.Node
	data  map[int]bool
	holds []int
	dice  uint32
}

// roll is one of many numbers, each time another one.
func (g *garden) roll(many int) int {
	g.dice = g.dice*1664525 + 1013904223
	return int(g.dice>>8) % many
}

// pick is blocks to refer to: some of those of that level, one perhaps several times; level -1 is data.
func (g *garden) pick(level int) []int {
	var of []int
	for at := 8; at < 256; at++ {
		n, is := g.nodes[at]
		if (is && n.Level == level || level == -1 && g.data[at]) && g.s.Now[at] > 0 && g.s.Now[at] < 250 {
			of = append(of, at)
		}
	}
	var l []int
	for range 1 + g.roll(5) {
		if len(of) > 0 {
			l = append(l, of[g.roll(len(of))])
		}
	}
	return l
}

// counted is how often each block is referred to, told by the words.
func (g *garden) counted() []byte {
	c := make([]byte, 256)
	for _, at := range g.holds {
		c[at]++
	}
	for at, n := range g.nodes {
		if g.s.Now[at] > 0 {
			for _, x := range n.Items {
				c[x.Ref]++
			}
		}
	}
	c[0] = 0 // a Ref that is 0 refers to none
	return c
}

// unhold takes the hold at that place out of the list, and tells of which block it was.
func (g *garden) unhold(i int) int {
	at := g.holds[i]
	g.holds = slices.Delete(g.holds, i, i+1)
	return at
}

// plant makes a node of some level, or takes a block of data; neither, if there is no room.
func (g *garden) plant(t *testing.T) {
	t.Helper()
	level := g.roll(8) - 2
	free, _ := room.Free(g.s)
	if len(free) == 0 {
		makeRefused(t, "a garden", g.s, row(0), api.ErrFull)
		return
	}
	if level < 0 {
		out, at, e := room.Take(g.s, some(128, g.roll(99)))
		if e != api.OK {
			t.Fatal(e)
		}
		g.s, g.data[at], g.holds = out, true, append(g.holds, at)
		return
	}
	refs := g.pick(level - 1)
	if level == 0 && len(refs) > 1 {
		refs[g.roll(len(refs))] = 0
	}
	if n := row(level, refs...); node.Check(n) == api.OK {
		g.s = makes(t, "a garden", g.s, n, free[0])
		g.nodes[free[0]], g.holds = n, append(g.holds, free[0])
	}
}

// fell leaves what the hold at that place is to; it fails, if more goes than the words tell, or if a count is more than it was, or less by more than once for each Ref to it, and one.
func (g *garden) fell(t *testing.T, i int) {
	t.Helper()
	at := g.unhold(i)
	now := bytes.Clone(g.s.Now)
	call := drop.Leave
	if g.data[at] {
		call = drop.Loose
		now[at]--
	} else if !leftByWords(g.s, now, at, -1) {
		t.Fatal("the words tell that it can't be left", at)
	}
	counts := map[int]byte{}
	for at, c := range now {
		counts[at] = c
	}
	out := turns(t, "a garden", call, g.s, at, counts)
	least := bytes.Clone(g.s.Now)
	least[at]--
	for of, n := range g.nodes {
		if g.s.Now[of] > 0 && out.Now[of] == 0 {
			for _, x := range n.Items {
				least[x.Ref]-- // of Ref 0 nothing is asked
			}
		}
	}
	for at := 8; at < 256; at++ {
		if out.Now[at] > g.s.Now[at] || out.Now[at] < least[at] {
			t.Fatalf("count %d went from %d to %d", at, g.s.Now[at], out.Now[at])
		}
	}
	g.s = out
	for at := range g.nodes {
		if g.s.Now[at] == 0 {
			delete(g.nodes, at)
		}
	}
	for at := range g.data {
		if g.s.Now[at] == 0 {
			delete(g.data, at)
		}
	}
}

// check fails, unless each block's count is how often it is referred to, each block is told in one way, and each node is as it was made.
func (g *garden) check(t *testing.T, step int) {
	t.Helper()
	if want := g.counted(); !bytes.Equal(g.s.Now, want) {
		t.Fatalf("step %d: counts %v, want %v", step, g.s.Now, want)
	}
	free, e := room.Free(g.s)
	if e != api.OK {
		t.Fatal(step, e)
	}
	for at := 8; at < 256; at++ {
		_, is := g.nodes[at]
		ways := 0
		for _, way := range []bool{slices.Contains(free, at), g.s.Now[at] == 0 && g.s.Last[at] > 0, is, g.data[at]} {
			if way {
				ways++
			}
		}
		if ways != 1 {
			t.Fatalf("step %d: block %d is told in %d ways", step, at, ways)
		}
	}
	for at, n := range g.nodes {
		if got, e := room.Node(g.s, at); e != api.OK || !node.Same(got, n) {
			t.Fatalf("step %d: the node at %d is %v, %d, want %v", step, at, got, e, n)
		}
	}
}

// P9.1, P9.2, P9.4, W2, W3: behind each of many steps each count is how often the block is referred to, and what is held is as it was made; when all is left, nothing is.
func TestGarden(t *testing.T) {
	g := garden{s: room.New(), nodes: map[int]api.Node{}, data: map[int]bool{}, dice: 7}
	highest, fullest := 0, 0
	for step := range 1500 {
		switch k := g.roll(20); {
		case step%150 == 149: // all that is there lasts
			g.s = settled(g.s)
			g.s.Last = bytes.Clone(g.s.Now)
		case k < 2 && len(g.holds) > 0:
			at := g.holds[g.roll(len(g.holds))]
			out, e := room.Share(g.s, at)
			if e != api.OK {
				t.Fatal(step, e)
			}
			g.s, g.holds = out, append(g.holds, at)
		case k < 6+step/300%2*8 && len(g.holds) > 0:
			g.fell(t, g.roll(len(g.holds)))
		default:
			g.plant(t)
		}
		g.check(t, step)
		fullest = max(fullest, len(g.nodes))
		for _, n := range g.nodes {
			highest = max(highest, n.Level)
		}
	}
	if highest != 5 || fullest < 60 {
		t.Errorf("at most %d nodes, up to level %d: too few to tell", fullest, highest)
	}
	for len(g.holds) > 0 {
		g.fell(t, g.roll(len(g.holds)))
	}
	if g.check(t, -1); !bytes.Equal(g.s.Now, make([]byte, 256)) {
		t.Error("all was left, but not all is gone", g.s.Now)
	}
}

// tangle is a store of nodes in 8 to 23, three of each level, most of which refer to those of the level below; their counts are enough in every other round of three.
func (g *garden) tangle(round int) api.Store {
	p := plan{nodes: map[int]api.Node{}, now: map[int]byte{}}
	for at := 8; at < 24; at++ {
		p.now[at] = byte(g.roll(40) / 10)
		refs := make([]int, 1+g.roll(3))
		for i := range refs {
			refs[i] = 8 + max(0, (at-8)/3*3-1-g.roll(4-round%2))
		}
		if at < 11 {
			refs[0] = 0
		}
		level := (at-8)/3 - g.roll(16)/15
		if n := row(level, refs...); node.Check(n) == api.OK && g.roll(30) > 0 {
			p.nodes[at] = n
		}
	}
	for _, n := range p.nodes {
		for _, x := range n.Items {
			p.now[x.Ref] += byte(round / 3 % 2)
		}
	}
	p.now[0] = 0
	return p.store()
}

// P9.4, W6: where counts and nodes do not fit each other, too, Leave ends, and answers what the words tell, one step within the other.
func TestLeaveByWords(t *testing.T) {
	g := garden{dice: 3}
	well, bad := 0, 0
	for round := range 4000 {
		s, at := g.tangle(round), 8+g.roll(16)
		now := bytes.Clone(s.Now)
		switch {
		case now[at] == 0:
			refused(t, "none", drop.Leave, s, at, api.ErrNone)
		case leftByWords(s, now, at, -1):
			out, e := drop.Leave(s, at)
			if e != api.OK || !bytes.Equal(out.Now, now) {
				t.Fatalf("%d: at %d: %d, %v, want %v", round, at, e, out.Now, now)
			}
			well++
		default:
			refused(t, "by the words", drop.Leave, s, at, api.ErrBad)
			bad++
		}
	}
	if min(well, bad) < 200 {
		t.Error("too few to tell:", well, bad)
	}
}

// P9.4, W6: all blocks in one tree, each node of which is referred to many times, go by one call.
func TestLeaveAll(t *testing.T) {
	s := room.New()
	var below []int
	for level, many := range []int{150, 60, 25, 9, 3, 1} {
		var made []int
		for i := range many {
			var refs []int
			for j := range 5 {
				if level > 0 {
					refs = append(refs, below[(i*len(below)/many+j)%len(below)])
				}
			}
			out, at, e := drop.Make(s, row(level, refs...))
			if e != api.OK {
				t.Fatal(level, i, e)
			}
			s, made = out, append(made, at)
		}
		// The nodes above hold those below alone.
		for _, at := range below {
			out, e := drop.Leave(s, at)
			if e != api.OK {
				t.Fatal(level, at, e)
			}
			s = out
		}
		below = made
	}
	if free, e := room.Free(s); e != api.OK || len(free) != 0 {
		t.Error("some are free", free, e)
	}
	all := map[int]byte{}
	for at := range 256 {
		all[at] = 0
	}
	turns(t, "all of it", drop.Leave, s, below[0], all)
}

// The chapter's examples.
func TestExamples(t *testing.T) {
	s, at, e := drop.Make(room.New(), api.Node{})
	if e != api.OK || at != 8 || s.Now[8] != 1 {
		t.Error("Make(New, no items)", at, e)
	}
	if s, e = drop.Leave(s, 8); e != api.OK || s.Now[8] != 0 {
		t.Error("Leave(that, there)", e)
	}
	makeRefused(t, "Make(New, an item with Ref 9)", room.New(), row(0, 9), api.ErrNone)
	refused(t, "Leave(New, 9)", drop.Leave, room.New(), 9, api.ErrNone)
	refused(t, "Loose(New, 7)", drop.Loose, room.New(), 7, api.ErrArg)
	s, at, e = room.Take(room.New(), filled(0))
	if e != api.OK {
		t.Fatal(e)
	}
	refused(t, "Leave of a node of noughts", drop.Leave, s, at, api.ErrBad)
}

// The chapter's errors, and its limits, have its numbers.
func TestErrors(t *testing.T) {
	if api.ErrArg != 2 || api.ErrNone != 6 || api.ErrBad != 8 || api.ErrFull != 9 || api.ErrCount != 70 {
		t.Error(int(api.ErrArg), int(api.ErrNone), int(api.ErrBad), int(api.ErrFull), int(api.ErrCount))
	}
	if api.Blocks != 256 || api.First != 8 || api.MaxFan != 5 || api.MaxHeight != 6 || api.MaxWaits != 4096 {
		t.Error(api.Blocks, api.First, api.MaxFan, api.MaxHeight, api.MaxWaits)
	}
}
