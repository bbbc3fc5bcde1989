package find_test

import (
	"bytes"
	"maps"
	"math"
	"slices"
	"testing"

	"scionry/api"
	"scionry/dev"
	"scionry/drop"
	"scionry/find"
	"scionry/item"
	"scionry/node"
	"scionry/room"
	"scionry/sum"
)

// The signatures are the chapter's, to the letter.
var (
	_ func(s api.Store, root int) (height int, e api.Errno)        = find.Check
	_ func(s api.Store, root int, k api.Key) (api.Item, api.Errno) = find.Find
)

// strayPlaces are those of no block that may be taken: the chapter's first, then those of which some bytes are right.
var strayPlaces = []int{-1, 0, 7, 256, 1, 3, 4, 6, 257, -8, -248, 256 + 8, 255 + 256, 1<<16 + 9, 1 << 32, 1<<32 + 8, -1<<32 + 9, math.MaxInt, math.MinInt, math.MinInt + 8}

// farKeys are keys at the ends, and of numbers that look like others where they are cut off.
var farKeys = []api.Key{
	{}, {Off: 1}, {Id: 1}, {Kind: 1}, {Off: api.MaxWord}, {Id: api.MaxWord}, {Kind: 255}, {Kind: 255, Id: api.MaxWord, Off: api.MaxWord},
	{Kind: 2, Id: 1 << 31, Off: 1}, {Kind: 2, Id: 1 << 16, Off: 1 << 16}, {Kind: 2, Id: 1<<8 + 1, Off: 1<<8 + 1}, {Kind: 128, Id: 1, Off: 1},
}

// filled is a block of one byte, again and again.
func filled(c byte) []byte { return bytes.Repeat([]byte{c}, 128) }

// some is many bytes that differ from place to place, and by seed.
func some(many, seed int) []byte {
	b := make([]byte, many)
	for i := range b {
		b[i] = byte(i*i*23 + i*seed + i>>2 + seed*89)
	}
	return b
}

// key is one of kind 2.
func key(id, off int) api.Key { return api.Key{Kind: 2, Id: uint32(id), Off: uint32(off)} }

// nth is the n-th of keys that rise; many are alike but for one part, each part goes up while others go down, and none stands just behind another one.
func nth(n int) api.Key {
	return api.Key{Kind: uint8(1 + n/32*2), Id: uint32(10 + n/8%4*2), Off: uint32(100 + n%8*2)}
}

// block is n's block.
func block(n api.Node) []byte {
	b, e := node.Write(n)
	if e != api.OK {
		panic(e)
	}
	return b
}

// seen is the block at that place as the words tell it: the last write that waits for it, or what lasts.
func seen(s api.Store, at int) []byte {
	b := s.Disk.Blocks[at]
	for _, w := range s.Disk.Waits {
		if w.At == at {
			b = w.Data
		}
	}
	return b
}

// garden is nodes in blocks, and how often blocks are counted now; what is grown in it has the keys behind all that were given out.
type garden struct {
	nodes map[int]api.Node
	now   map[int]byte
	keys  int // how many were given out
	taken int // how many blocks were
	seed  int
	data  int        // a block of data, to which leaves that are grown refer; 0: not yet
	items []api.Item // of the leaves that were grown, in order
	row   []int      // the places of all nodes that were grown, each behind those below it
}

// bare is a garden in which nothing grows; where blocks are taken differs by seed.
func bare(seed int) *garden {
	return &garden{nodes: map[int]api.Node{}, now: map[int]byte{}, seed: seed}
}

// take is the place of a block that wasn't taken, counted once or more.
func (g *garden) take() int {
	at := 8 + (g.taken*37+g.seed*11)%248
	g.taken++
	g.now[at] = []byte{1, 2, 255, 1, 128}[g.taken%5]
	return at
}

// lay is the place of a block with that node.
func (g *garden) lay(n api.Node) int {
	at := g.take()
	g.nodes[at] = n
	g.row = append(g.row, at)
	return at
}

// leaf is the place of a leaf with many items, of which some refer to a block of data, all to the same one.
func (g *garden) leaf(many int) int {
	if g.data == 0 {
		g.data = g.take()
	}
	n := api.Node{}
	for range many {
		x := api.Item{Key: nth(g.keys), Val: some(g.keys%13, g.keys)}
		if g.keys%3 > 0 {
			x.Ref = g.data
		}
		n.Items = append(n.Items, x)
		g.keys++
	}
	g.items = append(g.items, n.Items...)
	return g.lay(n)
}

// above is the place of a node above these, all of one level.
func (g *garden) above(below ...int) int {
	n := api.Node{Level: g.nodes[below[0]].Level + 1}
	for _, at := range below {
		n.Items = append(n.Items, api.Item{Key: g.nodes[at].Items[0].Key, Ref: at})
	}
	return g.lay(n)
}

// full is the root of a tree of that level, all nodes of which have many items.
func (g *garden) full(level, many int) int {
	if level == 0 {
		return g.leaf(many)
	}
	var below []int
	for range many {
		below = append(below, g.full(level-1, many))
	}
	return g.above(below...)
}

// comb is the root of a tree of that level, whose nodes have five items along one way, and one on each other.
func (g *garden) comb(level, way int) int {
	if level == 0 {
		return g.leaf(5)
	}
	var below []int
	for i := range 5 {
		if i == way {
			below = append(below, g.comb(level-1, way))
		} else {
			below = append(below, g.full(level-1, 1))
		}
	}
	return g.above(below...)
}

// twin is g with nodes, counts and places of its own.
func (g *garden) twin() *garden {
	o := *g
	o.nodes, o.now = map[int]api.Node{}, maps.Clone(g.now)
	for at, n := range g.nodes {
		o.nodes[at] = node.Twin(n)
	}
	o.items, o.row = slices.Clone(g.items), slices.Clone(g.row)
	return &o
}

// store is what the garden has, on a disk whose other blocks all differ; every other node waits to be written, over a leaf that lasts, and over others that wait.
func (g *garden) store() api.Store {
	s := room.New()
	for at := range s.Disk.Blocks {
		s.Disk.Blocks[at] = append(some(127, at), byte(at))
	}
	for at := range 256 {
		if n, ok := g.nodes[at]; ok && at%2 == 0 {
			s.Disk.Blocks[at] = block(n)
		} else if ok {
			s.Disk.Blocks[at] = block(api.Node{})
			s.Disk.Waits = append(s.Disk.Waits, api.Write{At: at, Data: filled(1)}, api.Write{At: at, Data: block(n)})
		}
		s.Now[at], s.Last[at] = g.now[at], byte(at*7/256)
	}
	copy(s.Last, make([]byte, 8))
	return s
}

// tree is one that may be, of a garden.
type tree struct {
	*garden
	root   int
	height int
}

// trees are of all heights, with nodes of one item, of five, and of some between.
func trees() []tree {
	var l []tree
	for many := range 6 {
		g := bare(many)
		l = append(l, tree{g, g.full(0, many), 1})
	}
	for _, c := range []struct{ level, many int }{{1, 1}, {1, 2}, {1, 5}, {2, 1}, {2, 3}, {2, 5}, {3, 1}, {3, 2}, {3, 5}, {4, 1}, {4, 2}, {4, 3}, {5, 1}, {5, 2}} {
		g := bare(c.level + c.many)
		l = append(l, tree{g, g.full(c.level, c.many), c.level + 1})
	}
	for level := 1; level < 6; level++ {
		for way := range 5 {
			g := bare(level * way)
			l = append(l, tree{g, g.comb(level, way), level + 1})
		}
	}
	return l
}

// tall are trees that have a node of each level at many places.
func tall() []tree {
	var l []tree
	for way := range 5 {
		g := bare(way)
		l = append(l, tree{g, g.comb(5, way), 6})
	}
	g := bare(9)
	return append(l, tree{g, g.full(5, 2), 6})
}

// nothing tells whether x is as it stands beside an error.
func nothing(x api.Item) bool { return x.Key == api.Key{} && x.Ref == 0 && len(x.Val) == 0 }

// stands fails, unless the tree there may be, and has that height.
func stands(t *testing.T, what string, s api.Store, root, want int) {
	t.Helper()
	was := room.Twin(s)
	if h, e := find.Check(s, root); h != want || e != api.OK {
		t.Errorf("%s: Check at %d: %d, %d, want %d, OK", what, root, h, e, want)
	}
	if !room.Same(s, was) {
		t.Errorf("%s: Check at %d turned what was handed in", what, root)
	}
}

// finds fails, unless the tree there has that item.
func finds(t *testing.T, what string, s api.Store, root int, want api.Item) {
	t.Helper()
	if x, e := find.Find(s, root, want.Key); e != api.OK || !item.Same(x, want) {
		t.Errorf("%s: Find at %d of %v: %v, %d, want %v", what, root, want.Key, x, e, want)
	}
}

// misses fails, unless Find has that error, beside nothing.
func misses(t *testing.T, what string, s api.Store, root int, k api.Key, want api.Errno) {
	t.Helper()
	if x, e := find.Find(s, root, k); e != want || !nothing(x) {
		t.Errorf("%s: Find at %d of %v: %v, %d, want nothing, %d", what, root, k, x, e, want)
	}
}

// refused fails, unless both calls have that error, beside nothing, whichever key is looked for.
func refused(t *testing.T, what string, s api.Store, root int, want api.Errno, keys ...api.Key) {
	t.Helper()
	was := room.Twin(s)
	if h, e := find.Check(s, root); h != 0 || e != want {
		t.Errorf("%s: Check at %d: %d, %d, want 0, %d", what, root, h, e, want)
	}
	for _, k := range append(keys, key(0, 0), nth(0)) {
		misses(t, what, s, root, k, want)
	}
	if !room.Same(s, was) {
		t.Errorf("%s: at %d: what was handed in was turned", what, root)
	}
}

// near is all keys that differ from k in one part by one, or by one bit, or have its parts exchanged.
func near(k api.Key) []api.Key {
	l := []api.Key{{Kind: k.Kind, Id: k.Off, Off: k.Id}, {Kind: uint8(k.Id), Id: uint32(k.Kind), Off: k.Off}, {Id: k.Id, Off: k.Off}, {Kind: k.Kind, Off: k.Off}, {Kind: k.Kind, Id: k.Id}}
	for _, by := range []int{1, -1} {
		l = append(l, api.Key{Kind: k.Kind + uint8(by), Id: k.Id, Off: k.Off}, api.Key{Kind: k.Kind, Id: k.Id + uint32(by), Off: k.Off}, api.Key{Kind: k.Kind, Id: k.Id, Off: k.Off + uint32(by)})
	}
	return append(l, api.Key{Kind: k.Kind ^ 128, Id: k.Id, Off: k.Off}, api.Key{Kind: k.Kind, Id: k.Id ^ 1<<31, Off: k.Off}, api.Key{Kind: k.Kind, Id: k.Id, Off: k.Off ^ 1<<31})
}

// strangers are keys near those of the items, and at the ends, that none of these has.
func strangers(items []api.Item) []api.Key {
	has := map[api.Key]int{}
	for _, x := range items {
		has[x.Key]++
	}
	met := map[api.Key]int{}
	for i, x := range items {
		if len(items) < 100 || i%29 == 0 || i > len(items)-3 {
			for _, k := range near(x.Key) {
				met[k]++
			}
		}
	}
	for _, k := range farKeys {
		met[k]++
	}
	var l []api.Key
	for k := range met {
		if has[k] == 0 {
			l = append(l, k)
		}
	}
	return l
}

// P10.1: trees of all heights may be: the height is the root's level and one.
func TestCheck(t *testing.T) {
	for i, c := range trees() {
		s := c.store()
		stands(t, "a tree", s, c.root, c.height)
		s.Disk, _ = dev.Barrier(s.Disk)
		stands(t, "a tree that lasts", s, c.root, c.height)
		if c.height != c.nodes[c.root].Level+1 {
			t.Errorf("%d: its root is of level %d", i, c.nodes[c.root].Level)
		}
	}
}

// P10.1: each node of a tree is the root of one itself.
func TestCheckBelow(t *testing.T) {
	for _, c := range tall() {
		s := c.store()
		for _, at := range c.row {
			stands(t, "a part of a tree", s, at, c.nodes[at].Level+1)
		}
	}
}

// P10.1, P10.3: each item of a tree is found by its key, the first and the last one of each leaf and of the tree too; no other key is: ahead of all, behind all, between two items, between two leaves.
func TestFind(t *testing.T) {
	for _, c := range trees() {
		s := c.store()
		was := room.Twin(s)
		for _, x := range c.items {
			finds(t, "an item of the tree", s, c.root, x)
		}
		for _, k := range strangers(c.items) {
			misses(t, "a key that is not there", s, c.root, k, api.ErrNone)
		}
		if !room.Same(s, was) {
			t.Error("Find turned what was handed in")
		}
	}
}

// P10.1: a part of a tree has its own items alone.
func TestFindBelow(t *testing.T) {
	g := bare(3)
	g.comb(4, 2)
	s := g.store()
	for _, at := range g.row {
		_, own, ok := byWords(s, at)
		if !ok {
			t.Fatalf("the garden's node at %d is no tree", at)
		}
		has := map[api.Key]api.Item{}
		for _, x := range own {
			has[x.Key] = x
		}
		for _, x := range g.items {
			if y, ok := has[x.Key]; ok {
				finds(t, "an item of this part", s, at, y)
			} else {
				misses(t, "an item of another part", s, at, x.Key, api.ErrNone)
			}
		}
	}
}

// P10.1: a root that is a leaf without items is a tree of height 1, in which nothing is found; its list is nil or not.
func TestEmptyLeaf(t *testing.T) {
	for at := 8; at < 256; at++ {
		g := bare(0)
		g.nodes[at], g.now[at] = api.Node{Items: []api.Item{}}, byte(at)
		s := g.store()
		stands(t, "no items", s, at, 1)
		for _, k := range farKeys {
			misses(t, "no items", s, at, k, api.ErrNone)
		}
	}
}

// pair is the place of a leaf with the keys 2 and 4, and of a node above it, in these blocks.
func pair(leaf, above int) *garden {
	g := bare(0)
	g.nodes[leaf] = api.Node{Items: []api.Item{{Key: key(2, 0), Val: []byte{2}}, {Key: key(4, 0), Val: []byte{4, 4}}}}
	g.nodes[above] = api.Node{Level: 1, Items: []api.Item{{Key: key(2, 0), Ref: leaf}}}
	g.now[leaf], g.now[above] = 1, 1
	return g
}

// P10.1: roots from 8 to 255, wherever what is below them is; ErrArg of all others, though a node stands there.
func TestRoots(t *testing.T) {
	for at := 8; at < 256; at++ {
		for _, other := range []int{8, 9, 100, 254, 255} {
			if at == other {
				continue
			}
			g := pair(other, at)
			s := g.store()
			stands(t, "a root", s, at, 2)
			finds(t, "a root", s, at, g.nodes[other].Items[0])
			finds(t, "a root", s, at, g.nodes[other].Items[1])
			misses(t, "a root", s, at, key(3, 0), api.ErrNone)
			stands(t, "a leaf", s, other, 1)
		}
	}
	g := pair(8, 9)
	for at := range 8 {
		g.nodes[at] = g.nodes[8]
	}
	s := g.store()
	for _, root := range strayPlaces {
		refused(t, "no such block", s, root, api.ErrArg, key(2, 0))
	}
	for root := -600; root < 900; root++ {
		if _, e := find.Check(s, root); (e == api.ErrArg) != (root < 8 || root > 255) {
			t.Errorf("Check at %d: %d", root, e)
		}
		if _, e := find.Find(s, root, key(2, 0)); (e == api.ErrArg) != (root < 8 || root > 255) {
			t.Errorf("Find at %d: %d", root, e)
		}
	}
}

// waiting is s, and many writes wait for its disk, none of them for a block of a tree.
func waiting(s api.Store, many int) api.Store {
	s.Disk, _ = dev.Barrier(s.Disk)
	b := filled(1)
	for i := range many {
		s.Disk.Waits = append(s.Disk.Waits, api.Write{At: i % 8, Data: b})
	}
	return s
}

// odds are stores that may not be: for one of their fields alone, for two, for all; 9 is the root of a tree in them, but for that.
func odds() []api.Store {
	good := func() api.Store { return pair(8, 9).store() }
	l := []api.Store{{}, waiting(good(), 4097), {Now: good().Now, Last: good().Last}, {Disk: good().Disk}, {Disk: good().Disk, Now: good().Now}, {Disk: good().Disk, Last: good().Last}}
	for _, turn := range []func(s *api.Store){
		func(s *api.Store) { s.Disk.Blocks = s.Disk.Blocks[:255] },
		func(s *api.Store) { s.Disk.Blocks = append(s.Disk.Blocks, filled(1)) },
		func(s *api.Store) { s.Disk.Blocks[7] = nil },
		func(s *api.Store) { s.Disk.Blocks[255] = s.Disk.Blocks[255][:127] },
		func(s *api.Store) { s.Disk.Blocks[20] = append(s.Disk.Blocks[20], 0) },
		func(s *api.Store) { s.Disk.Waits = append(s.Disk.Waits, api.Write{At: 256, Data: filled(1)}) },
		func(s *api.Store) { s.Disk.Waits = append(s.Disk.Waits, api.Write{At: -1, Data: filled(1)}) },
		func(s *api.Store) { s.Disk.Waits = append(s.Disk.Waits, api.Write{At: 20, Data: filled(1)[:127]}) },
		func(s *api.Store) {
			s.Disk.Waits = append([]api.Write{{At: 9, Data: filled(1)[:127]}}, s.Disk.Waits...)
		},
		func(s *api.Store) { s.Now = nil },
		func(s *api.Store) { s.Now = s.Now[:255] },
		func(s *api.Store) { s.Now = s.Now[:10] },
		func(s *api.Store) { s.Now = append(s.Now, 0) },
		func(s *api.Store) { s.Now[0] = 1 },
		func(s *api.Store) { s.Now[7] = 255 },
		func(s *api.Store) { s.Last = nil },
		func(s *api.Store) { s.Last = s.Last[:255] },
		func(s *api.Store) { s.Last = append(s.Last, 0) },
		func(s *api.Store) { s.Last[0] = 255 },
		func(s *api.Store) { s.Last[7] = 1 },
		func(s *api.Store) { s.Now, s.Last = nil, nil },
	} {
		s := good()
		turn(&s)
		l = append(l, s)
	}
	return l
}

// P10.1: room.Check's error comes first, whatever the root and the key are.
func TestStoreMayNotBe(t *testing.T) {
	stands(t, "but for what is turned", pair(8, 9).store(), 9, 2)
	stands(t, "writes that wait", waiting(pair(8, 9).store(), 4096), 9, 2)
	finds(t, "writes that wait", waiting(pair(8, 9).store(), 4096), 9, pair(8, 9).nodes[8].Items[1])
	for _, s := range odds() {
		for _, root := range append([]int{8, 9, 10, 255}, strayPlaces...) {
			refused(t, "a store that may not be", s, root, api.ErrBad, key(2, 0), key(4, 0), key(3, 0))
		}
	}
}

// P10.1: ErrNone of a root whose count is 0, be it free or pinned, though a tree stands there, or nothing that may be; ErrArg ahead of that.
func TestRootOfNone(t *testing.T) {
	for _, c := range trees() {
		for _, last := range []byte{0, 1, 255} {
			s := c.store()
			s.Now[c.root], s.Last[c.root] = 0, last
			refused(t, "nobody holds it", s, c.root, api.ErrNone, keysOf(c.items)...)
		}
		s := c.store()
		for _, w := range []byte{1, 2, 127, 128, 255} {
			for _, last := range []byte{0, 1, 255} {
				s.Now[c.root], s.Last[c.root] = w, last
				stands(t, "somebody holds it", s, c.root, c.height)
			}
		}
	}
	s := bare(0).store()
	for at := 8; at < 256; at++ {
		refused(t, "nothing there", s, at, api.ErrNone)
		refused(t, "nothing there", room.New(), at, api.ErrNone)
	}
	// What is below is bad, too: the root's count is asked first, and of other roots it is not asked.
	g := pair(8, 9)
	g.now[8], g.now[9] = 0, 0
	refused(t, "neither is held", g.store(), 9, api.ErrNone)
	refused(t, "neither is held", g.store(), 7, api.ErrArg)
	g.now[9] = 1
	refused(t, "the leaf is not held", g.store(), 9, api.ErrBad)
	refused(t, "the leaf is not held", g.store(), 8, api.ErrNone)
}

// keysOf is some of the items' keys, the first and the last one too.
func keysOf(items []api.Item) []api.Key {
	var l []api.Key
	for i, x := range items {
		if i == len(items)-1 || i%(1+len(items)/4) == 0 {
			l = append(l, x.Key)
		}
	}
	return l
}

// bad fails, unless the garden's tree at root is refused, whichever of its keys is looked for, those on ways that are well too.
func (g *garden) bad(t *testing.T, what string, root int) {
	t.Helper()
	refused(t, what, g.store(), root, api.ErrBad, keysOf(g.items)...)
}

// notNodes are blocks of no node.
func notNodes() [][]byte {
	other, _ := sum.Seal([]byte{77, 0, 0})
	high, _ := sum.Seal(append([]byte{78, 6, 1}, written(api.Item{Key: nth(0), Ref: 8})...))
	none, _ := sum.Seal([]byte{78, 1, 0})
	behind, _ := sum.Seal([]byte{78, 0, 0, 1})
	odd := block(api.Node{Items: []api.Item{{Key: nth(0)}}})
	odd[60] ^= 1
	return [][]byte{filled(0), filled(78), some(128, 2), other, high, none, behind, odd}
}

// written is the bytes of x.
func written(x api.Item) []byte {
	b, e := item.Write(x)
	if e != api.OK {
		panic(e)
	}
	return b
}

// P10.1: ErrBad of a root that is no node, and of each block below that is none, be it that one lasts below what waits, or waited ahead of it.
func TestNoNode(t *testing.T) {
	for _, c := range tall() {
		for i, at := range c.row {
			b := notNodes()[i%len(notNodes())]
			lasts, waits := c.store(), c.store()
			lasts.Disk, _ = dev.Barrier(lasts.Disk)
			lasts.Disk.Blocks[at] = b
			waits.Disk.Waits = append(waits.Disk.Waits, api.Write{At: at, Data: b}, api.Write{At: 7, Data: block(c.nodes[at])})
			for _, s := range []api.Store{lasts, waits} {
				refused(t, "no node on the way", s, c.root, api.ErrBad, c.items[0].Key, c.items[len(c.items)-1].Key)
				refused(t, "no node at the first step", s, at, api.ErrBad)
			}
		}
	}
	for _, b := range notNodes() {
		for _, at := range []int{8, 9} {
			s := pair(8, 9).store()
			s.Disk.Waits = append(s.Disk.Waits, api.Write{At: at, Data: b})
			refused(t, "no node", s, 9, api.ErrBad, key(2, 0), key(4, 0))
		}
	}
}

// P10.1: nodes are as the disk is seen: what waits last counts.
func TestSeen(t *testing.T) {
	was, is := api.Node{Items: []api.Item{{Key: key(2, 0), Val: []byte{1}}}}, api.Node{Items: []api.Item{{Key: key(2, 0), Val: []byte{2}}, {Key: key(3, 0)}}}
	s := pair(8, 9).store()
	s.Disk, _ = dev.Barrier(s.Disk)
	for _, n := range []api.Node{was, is, was, is} {
		s.Disk.Waits = append(s.Disk.Waits, api.Write{At: 8, Data: block(n)})
		finds(t, "what waits last", s, 9, n.Items[0])
		finds(t, "what waits last", s, 8, n.Items[0])
		misses(t, "what lasts below it", s, 9, key(4, 0), api.ErrNone)
	}
	finds(t, "what waits last", s, 9, is.Items[1])
	other := api.Node{Items: []api.Item{{Key: key(1, 0)}}}
	s.Disk.Waits = append(s.Disk.Waits, api.Write{At: 8, Data: block(other)})
	refused(t, "another first key waits", s, 9, api.ErrBad, key(2, 0), key(1, 0))
	s.Disk.Waits = append(s.Disk.Waits, api.Write{At: 9, Data: block(api.Node{Level: 1, Items: []api.Item{{Key: key(1, 0), Ref: 8}}})})
	finds(t, "a root that waits", s, 9, other.Items[0])
	s.Disk, _ = dev.Barrier(s.Disk)
	finds(t, "all lasts", s, 9, other.Items[0])
	misses(t, "all lasts", s, 9, key(2, 0), api.ErrNone)
}

// P10.1: ErrBad, where the count of a block on the way is 0 now, whatever it was when all was committed last.
func TestNodeOfNone(t *testing.T) {
	for _, c := range tall() {
		for i, at := range c.row {
			g := c.twin()
			if g.now[at] = 0; at != c.root {
				g.bad(t, "a node that nobody holds", c.root)
			}
			s := c.store()
			s.Now[at], s.Last[at] = byte(1+i), byte(i%2*255)
			stands(t, "a node that is held", s, c.root, c.height)
		}
	}
}

// chain is the place of a tree of that level, all nodes of which have one item, with the key of the leaf.
func (g *garden) chain(level int) int {
	at := g.leaf(1)
	for range level {
		at = g.above(at)
	}
	return at
}

// P10.1: ErrBad of a node of another level than the one below, above or below it, or the same one, at the first step and deeper, alone and among others that are well.
func TestOtherLevel(t *testing.T) {
	for above := 1; above < 6; above++ {
		for below := range 6 {
			for up := above; up < 6; up++ {
				for place := range 3 {
					g := bare(above + below)
					var row []int
					for i := range 3 {
						if i == place {
							row = append(row, g.chain(below))
						} else {
							row = append(row, g.chain(above-1))
						}
					}
					n := api.Node{Level: above}
					for _, at := range row {
						n.Items = append(n.Items, api.Item{Key: g.nodes[at].Items[0].Key, Ref: at})
					}
					root := g.lay(n)
					for range up - above {
						root = g.above(root)
					}
					if below == above-1 {
						stands(t, "the level below", g.store(), root, up+1)
					} else {
						g.bad(t, "another level", root)
					}
				}
			}
		}
	}
}

// P10.1: ErrBad of a node below the root without items, wherever it is, and whatever key the item above it has.
func TestEmptyBelow(t *testing.T) {
	for up := 1; up < 6; up++ {
		for place := range 3 {
			for _, k := range []api.Key{{}, nth(0), nth(1), {Kind: 255}} {
				g := bare(up)
				n := api.Node{Level: 1}
				for i := range 3 {
					if i == place {
						n.Items = append(n.Items, api.Item{Key: k, Ref: g.leaf(0)})
					} else {
						at := g.leaf(2)
						n.Items = append(n.Items, api.Item{Key: g.nodes[at].Items[0].Key, Ref: at})
					}
				}
				if node.Check(n) != api.OK {
					n.Items = n.Items[place : place+1]
				}
				root := g.lay(n)
				for range up - 1 {
					root = g.above(root)
				}
				g.bad(t, "a leaf without items", root)
			}
		}
	}
	for _, c := range tall() {
		for _, at := range c.row {
			if g := c.twin(); g.nodes[at].Level == 0 {
				g.nodes[at] = api.Node{}
				g.bad(t, "a leaf without items", c.root)
				stands(t, "that leaf alone", g.store(), at, 1)
			}
		}
	}
}

// rekey turns the key of the item at that place of the node; where it is the first one, so are the keys of the items above that refer to the node, and so on up: of the keys above just those below this item are wrong.
func (g *garden) rekey(at, i int, k api.Key) {
	g.nodes[at].Items[i].Key = k
	if i > 0 {
		return
	}
	for up, n := range g.nodes {
		for j, x := range n.Items {
			if n.Level > 0 && x.Ref == at {
				g.rekey(up, j, k)
			}
		}
	}
}

// well tells whether all nodes may be, each by itself.
func (g *garden) well() bool {
	for _, n := range g.nodes {
		if node.Check(n) != api.OK {
			return false
		}
	}
	return true
}

// P10.1: ErrBad of an item above whose key is not the first one of its node, but ahead of it or behind it by any part, at each level and place; with the keys above it turned likewise, and not.
func TestFirstKey(t *testing.T) {
	for _, c := range tall() {
		turned := 0
		for _, at := range c.row {
			n := c.nodes[at]
			if n.Level == 0 {
				continue
			}
			for i, x := range n.Items {
				for _, k := range near(x.Key)[5:] {
					along, alone := c.twin(), c.twin()
					if along.rekey(at, i, k); along.well() {
						turned++
						along.bad(t, "another first key", c.root)
					}
					if alone.nodes[at].Items[i].Key = k; alone.well() && i == 0 && at != c.root && turned%3 == 0 {
						alone.bad(t, "another first key, there alone", c.root)
					}
				}
			}
		}
		if turned < 100 {
			t.Errorf("only %d keys were turned", turned)
		}
	}
}

// leavesOf is the places of the tree's leaves, in order.
func (c tree) leavesOf() []int {
	var l []int
	for _, at := range c.row {
		if c.nodes[at].Level == 0 {
			l = append(l, at)
		}
	}
	return l
}

// stretch gives the leaf at that place another last item, with that key, behind its first one.
func (g *garden) stretch(at int, k api.Key) {
	n := g.nodes[at]
	if x := (api.Item{Key: k, Val: []byte{1}}); len(n.Items) < 5 {
		n.Items = append(n.Items, x)
	} else {
		n.Items[4] = x
	}
	g.nodes[at] = n
}

// P10.1: ErrBad, where a leaf's last key does not stand ahead of the next item's, on the level above it or on any other one; behind the last leaf's there is none.
func TestLastKey(t *testing.T) {
	for _, c := range append(tall(), trees()[10:]...) {
		l := c.leavesOf()
		step := 1 + len(l)/20
		for i := 0; i < len(l)-1; i += step {
			next := c.nodes[l[i+1]].Items[0].Key
			behind := c.items[len(c.items)-1].Key
			behind.Off++
			for _, k := range []api.Key{next, {Kind: next.Kind, Id: next.Id, Off: next.Off + 1}, behind} {
				g := c.twin()
				g.stretch(l[i], k)
				g.bad(t, "a last key that is not ahead of the next one", c.root)
			}
			g := c.twin()
			ahead := api.Key{Kind: next.Kind, Id: next.Id, Off: next.Off - 1}
			g.stretch(l[i], ahead)
			stands(t, "a last key just ahead of the next one", g.store(), c.root, c.height)
			finds(t, "a last key just ahead of the next one", g.store(), c.root, api.Item{Key: ahead, Val: []byte{1}})
			finds(t, "the next one", g.store(), c.root, c.nodes[l[i+1]].Items[0])
		}
		g := c.twin()
		g.stretch(l[len(l)-1], api.Key{Kind: 255, Id: api.MaxWord, Off: api.MaxWord})
		stands(t, "the last key of all", g.store(), c.root, c.height)
		finds(t, "the last key of all", g.store(), c.root, api.Item{Key: api.Key{Kind: 255, Id: api.MaxWord, Off: api.MaxWord}, Val: []byte{1}})
	}
}

// P10.1: ErrBad likewise, where not the last key goes up, but the next one down, and all above it with it.
func TestNextKey(t *testing.T) {
	turned := 0
	for _, c := range tall() {
		l := c.leavesOf()
		for i := 1; i < len(l); i++ {
			n := c.nodes[l[i-1]]
			last := n.Items[len(n.Items)-1].Key
			for _, k := range []api.Key{last, {Kind: last.Kind, Id: last.Id, Off: last.Off - 1}} {
				g := c.twin()
				if g.rekey(l[i], 0, k); g.well() {
					turned++
					g.bad(t, "a next key that is not behind the last one", c.root)
				}
			}
			g := c.twin()
			g.rekey(l[i], 0, api.Key{Kind: last.Kind, Id: last.Id, Off: last.Off + 1})
			stands(t, "a next key just behind the last one", g.store(), c.root, c.height)
		}
	}
	if turned < 50 {
		t.Errorf("only %d keys were turned", turned)
	}
}

// boundary is a tree of that height whose first part, below the first item of the root, ends by a leaf with these keys, one level after the other; the second part's first key is 50.
func boundary(height int, last ...int) (g *garden, root int) {
	g = bare(height)
	leaf := func(ids ...int) int {
		n := api.Node{}
		for _, id := range ids {
			n.Items = append(n.Items, api.Item{Key: key(id, 0)})
			g.items = append(g.items, n.Items[len(n.Items)-1])
		}
		return g.lay(n)
	}
	one, two := leaf(last...), leaf(50, 60)
	for range height - 2 {
		one, two = g.above(one), g.above(two)
	}
	return g, g.above(one, two)
}

// P10.1: of the last keys each level's next one is asked, however far above: all keys of the items between are well.
func TestNextFarAbove(t *testing.T) {
	for height := 2; height < 7; height++ {
		g, root := boundary(height, 10, 49)
		stands(t, "ahead of the next one", g.store(), root, height)
		for _, id := range []int{10, 49, 50, 60} {
			finds(t, "ahead of the next one", g.store(), root, api.Item{Key: key(id, 0)})
		}
		for _, last := range [][]int{{10, 50}, {10, 51}, {10, 11, 70}, {10, 50, 60}, {10, 60}, {10, 20, 30, 40, 55}} {
			g, root := boundary(height, last...)
			g.bad(t, "not ahead of the next one", root)
		}
	}
}

// lone is a tree of that height, all items of whose leaves refer to a block of their own, each; those blocks have anything.
func lone(height int) (c tree, refs []int) {
	g := bare(height)
	many := []int{5, 5, 3, 2, 1, 1}[height-1]
	c = tree{g, g.full(height-1, many), height}
	for _, at := range c.leavesOf() {
		for i := range g.nodes[at].Items {
			ref := g.take()
			g.nodes[at].Items[i].Ref = ref
			refs = append(refs, ref)
		}
	}
	g.items = nil
	for _, at := range c.leavesOf() {
		g.items = append(g.items, g.nodes[at].Items...)
	}
	return c, refs
}

// P10.1: ErrBad of a leaf's Ref whose count is 0, each one's of all, whatever it was when all was committed last; one more suffices.
func TestLeafRefs(t *testing.T) {
	for height := 1; height < 7; height++ {
		c, refs := lone(height)
		stands(t, "each held", c.store(), c.root, height)
		for i, ref := range refs {
			for _, last := range []byte{0, 1, 255} {
				s := c.store()
				s.Now[ref], s.Last[ref] = 0, last
				refused(t, "a Ref that nobody holds", s, c.root, api.ErrBad, keysOf(c.items)...)
				s.Now[ref], s.Last[ref] = byte(i+1), last
				stands(t, "each held", s, c.root, height)
				finds(t, "each held", s, c.root, c.items[i])
			}
		}
	}
}

// P10.1: what a leaf refers to may be anything that is held: what is no node, the leaf itself, the root, a node between, the same block as another item.
func TestLeafRefsToAnything(t *testing.T) {
	for height := 1; height < 7; height++ {
		c, refs := lone(height)
		for _, to := range append(slices.Clone(c.row), refs[0]) {
			g := c.twin()
			g.items = nil
			for _, at := range c.leavesOf() {
				for i := range g.nodes[at].Items {
					g.nodes[at].Items[i].Ref = to
				}
				g.items = append(g.items, g.nodes[at].Items...)
			}
			s := g.store()
			stands(t, "all refer to one block", s, c.root, height)
			for _, x := range g.items {
				finds(t, "all refer to one block", s, c.root, x)
			}
			if g.now[to] = 0; to != c.root {
				g.bad(t, "all refer to a block that nobody holds", c.root)
			}
		}
	}
}

// P10.1: ErrBad, where two items above refer to one node: its first key is not both items'. Two trees may share what they like.
func TestOneNodeTwice(t *testing.T) {
	for level := 1; level < 6; level++ {
		for _, pairs := range [][]int{{0, 0}, {0, 0, 1}, {0, 1, 1}, {0, 1, 0}, {0, 0, 0, 0, 0}, {0, 1, 1, 2, 3}} {
			g := bare(level)
			var below []int
			for range 4 {
				below = append(below, g.chain(level-1))
			}
			n := api.Node{Level: level}
			for i, which := range pairs {
				n.Items = append(n.Items, api.Item{Key: nth(i), Ref: below[which]})
			}
			root := g.lay(n)
			g.bad(t, "one node twice", root)
			for range 5 - level {
				root = g.above(root)
			}
			g.bad(t, "one node twice, deeper", root)
			one, two := g.above(below[0], below[1], below[3]), g.above(below[1], below[2])
			for _, at := range []int{one, two} {
				stands(t, "shared", g.store(), at, level+1)
				finds(t, "shared", g.store(), at, g.items[1])
			}
			misses(t, "the other one's", g.store(), one, nth(2), api.ErrNone)
			misses(t, "the other one's", g.store(), two, nth(0), api.ErrNone)
		}
	}
}

// W6: nodes that refer to themselves, or to one another, are no trees, and so is the widest one that is none: each call ends.
func TestRound(t *testing.T) {
	for level := 1; level < 6; level++ {
		for many := 1; many < 6; many++ {
			g := bare(level)
			g.now[8], g.now[9] = 200, 200
			one, two := api.Node{Level: level}, api.Node{Level: level}
			for i := range many {
				one.Items = append(one.Items, api.Item{Key: nth(i), Ref: 8})
				two.Items = append(two.Items, api.Item{Key: nth(i), Ref: 9})
			}
			g.nodes[8] = one
			g.bad(t, "itself", 8)
			g.nodes[8], g.nodes[9] = two, one
			g.bad(t, "one another", 8)
		}
	}
	g := bare(1)
	at := g.leaf(5)
	for level := 1; level < 6; level++ {
		n := api.Node{Level: level}
		for i := range 5 {
			n.Items = append(n.Items, api.Item{Key: nth(i), Ref: at})
		}
		at = g.lay(n)
	}
	g.bad(t, "each node five times", at)
}

// P10.3: a tree has at most six levels: a block of a node above them is none's, as a root too.
func TestTooTall(t *testing.T) {
	for _, c := range tall() {
		s := c.store()
		x := api.Item{Key: c.nodes[c.root].Items[0].Key, Ref: c.root}
		for _, level := range []byte{6, 7, 255} {
			b, _ := sum.Seal(append([]byte{78, level, 1}, written(x)...))
			s.Disk.Waits = append(s.Disk.Waits, api.Write{At: 7, Data: b})
			at := c.take()
			s.Now[at] = 1
			s.Disk.Waits = append(s.Disk.Waits, api.Write{At: at, Data: b})
			refused(t, "seven levels", s, at, api.ErrBad, x.Key)
		}
		stands(t, "six levels", s, c.root, 6)
	}
}

// byWords tells by the words, level by level, whether the tree of s at root may be, its height, and its items; s may be, and root is referred to. As each item above has the first key of its node, all keys in that are ahead of the next item's just if all leaves' keys rise.
func byWords(s api.Store, root int) (height int, items []api.Item, ok bool) {
	top, e := node.Read(seen(s, root))
	if e != api.OK {
		return 0, nil, false
	}
	row := []api.Node{top}
	for level := top.Level; level > 0; level-- {
		var below []api.Node
		for _, n := range row {
			for _, x := range n.Items {
				m, e := node.Read(seen(s, x.Ref))
				if s.Now[x.Ref] == 0 || e != api.OK || m.Level != level-1 || len(m.Items) == 0 || m.Items[0].Key != x.Key {
					return 0, nil, false
				}
				below = append(below, m)
			}
		}
		row = below
	}
	for _, n := range row {
		for _, x := range n.Items {
			if x.Ref > 0 && s.Now[x.Ref] == 0 || len(items) > 0 && !item.Less(items[len(items)-1].Key, x.Key) {
				return 0, nil, false
			}
			items = append(items, x)
		}
	}
	return top.Level + 1, items, true
}

// dice are numbers that look like chance, but are the same each time.
type dice uint32

// roll is a number below n.
func (d *dice) roll(n int) int {
	*d = *d*1664525 + 1013904223
	return int(*d>>8) % n
}

// turn does something to a node, or to a count.
func (g *garden) turn(d *dice) {
	at := g.row[d.roll(len(g.row))]
	n := g.nodes[at]
	other := g.row[d.roll(len(g.row))]
	if len(n.Items) == 0 {
		g.stretch(at, nth(d.roll(g.keys+2)))
		return
	}
	x := &n.Items[d.roll(len(n.Items))]
	switch d.roll(7) {
	case 0:
		x.Key = nth(d.roll(g.keys + 2))
	case 1:
		x.Ref = other
	case 2:
		x.Key, x.Ref = first(g.nodes[other]), other
	case 3:
		g.now[at] = byte(d.roll(2))
	case 4:
		n.Items = n.Items[:len(n.Items)-1]
		g.nodes[at] = n
	case 5:
		g.nodes[at] = node.Twin(g.nodes[other])
	case 6:
		if n.Level == 0 {
			g.stretch(at, nth(d.roll(g.keys+2)))
		}
	}
}

// P10.1, P10.3: of gardens in which anything was turned each node is a tree, of that height and with those items, just as the words tell.
func TestAsTheWordsTell(t *testing.T) {
	d := dice(7)
	may, not := 0, 0
	for round := range 800 {
		g := bare(round)
		for range 1 + d.roll(3) {
			g.full(1+d.roll(3), 1+d.roll(3))
		}
		was := g.twin()
		for range 1 + d.roll(3) {
			if g.turn(&d); !g.well() {
				g = was.twin()
			}
		}
		s := g.store()
		for i, at := range g.row {
			if s.Now[at] == 0 || i%3 != round%3 && i < len(g.row)-1 {
				continue
			}
			height, items, ok := byWords(s, at)
			if !ok {
				not++
				refused(t, "by the words none", s, at, api.ErrBad, nth(d.roll(g.keys)))
				continue
			}
			may++
			stands(t, "by the words one", s, at, height)
			has := map[api.Key]int{}
			for _, x := range items {
				finds(t, "by the words there", s, at, x)
				has[x.Key]++
			}
			if k := nth(d.roll(g.keys)); has[k] == 0 {
				misses(t, "by the words not there", s, at, k, api.ErrNone)
			}
		}
	}
	if may < 300 || not < 300 {
		t.Errorf("%d may be, %d not", may, not)
	}
}

// first is the key of the node's first item, or that of noughts.
func first(n api.Node) api.Key {
	if len(n.Items) == 0 {
		return api.Key{}
	}
	return n.Items[0].Key
}

// spoil turns every byte of b and of its spare room.
func spoil(b []byte) {
	b = b[:cap(b)]
	for i := range b {
		b[i] ^= 0xff
	}
}

// wreck turns all that s has, with all its spare room.
func wreck(s api.Store) {
	blocks, waits := s.Disk.Blocks[:cap(s.Disk.Blocks)], s.Disk.Waits[:cap(s.Disk.Waits)]
	for at, b := range blocks {
		spoil(b)
		blocks[at] = nil
	}
	for i, w := range waits {
		spoil(w.Data)
		waits[i] = api.Write{At: -7}
	}
	spoil(s.Now)
	spoil(s.Last)
}

// bared is s, its spare room shown as elements, in other memory.
func bared(s api.Store) api.Store {
	d := api.Disk{Blocks: slices.Clone(s.Disk.Blocks[:cap(s.Disk.Blocks)]), Waits: slices.Clone(s.Disk.Waits[:cap(s.Disk.Waits)])}
	for at, b := range d.Blocks {
		d.Blocks[at] = b[:cap(b)]
	}
	for i, w := range d.Waits {
		d.Waits[i].Data = w.Data[:cap(w.Data)]
	}
	return room.Twin(api.Store{Disk: d, Now: s.Now[:cap(s.Now)], Last: s.Last[:cap(s.Last)]})
}

// roomy is the tree's store, all lists of which have spare room.
func (c tree) roomy() api.Store {
	s := c.store()
	grow := func(b []byte) []byte { return append(b[:len(b):len(b)], some(9, 3)...)[:len(b)] }
	for at := range s.Disk.Blocks {
		s.Disk.Blocks[at] = grow(s.Disk.Blocks[at])
	}
	for i := range s.Disk.Waits {
		s.Disk.Waits[i].Data = grow(s.Disk.Waits[i].Data)
	}
	s.Disk.Blocks = append(s.Disk.Blocks, filled(5), filled(6))[:256]
	s.Disk.Waits = append(s.Disk.Waits, api.Write{At: c.root, Data: filled(7)})[:len(s.Disk.Waits)]
	s.Now, s.Last = grow(s.Now), grow(s.Last)
	return s
}

// P10.2: what is handed in, its spare room too, stays as it was, whatever is answered, and whatever is done to that.
func TestReadsAlone(t *testing.T) {
	for _, c := range tall() {
		s := c.roomy()
		was := bared(s)
		odd := c.roomy()
		odd.Now = odd.Now[:255]
		oddWas := bared(odd)
		broken := c.roomy()
		broken.Now[c.row[0]] = 0
		brokenWas := bared(broken)
		for _, at := range []int{c.root, c.row[0], 7, 256, -1} {
			for _, k := range append(keysOf(c.items), farKeys...) {
				for _, s := range []api.Store{s, odd, broken} {
					find.Check(s, at)
					x, _ := find.Find(s, at, k)
					_ = append(x.Val, 1, 2, 3)
					spoil(x.Val)
				}
			}
		}
		if !room.Same(bared(s), was) || !room.Same(bared(odd), oddWas) || !room.Same(bared(broken), brokenWas) {
			t.Error("what was handed in, or its spare room, was turned")
		}
	}
}

// P10.2: an item that is answered shares no memory with the store, nor with an earlier or a later answer.
func TestAnswersNewMemory(t *testing.T) {
	for _, c := range append(tall(), trees()[1:8]...) {
		for _, want := range c.items {
			s := c.roomy()
			was := bared(s)
			one, _ := find.Find(s, c.root, want.Key)
			two, _ := find.Find(s, c.root, want.Key)
			spoil(two.Val)
			if !item.Same(one, want) || !room.Same(bared(s), was) {
				t.Fatalf("%v: what is done to an answer is seen in an earlier one, or in the store", want)
			}
			finds(t, "behind what was done to an answer", s, c.root, want)
			if wreck(s); !item.Same(one, want) {
				t.Fatalf("%v: what is done to the store is seen in the answer", want)
			}
		}
	}
}

// R2: what is answered hangs on what is handed in alone: other stores, other roots, a store that was turned between two calls.
func TestHangsOnArgumentsAlone(t *testing.T) {
	l := tall()
	for range 2 {
		for _, c := range l {
			s := c.store()
			for i, x := range c.items {
				stands(t, "among others", s, c.root, 6)
				finds(t, "among others", s, c.root, x)
				finds(t, "among others", pair(8, 9).store(), 9, pair(8, 9).nodes[8].Items[i%2])
				misses(t, "among others", pair(8, 9).store(), 9, x.Key, api.ErrNone)
			}
			at := c.leavesOf()[0]
			s.Now[at] = 0
			refused(t, "turned", s, c.root, api.ErrBad, keysOf(c.items)...)
			s.Now[at] = 1
			n := node.Twin(c.nodes[at])
			n.Items[0].Val = []byte{99}
			s.Disk.Waits = append(s.Disk.Waits, api.Write{At: at, Data: block(n)})
			finds(t, "written anew", s, c.root, n.Items[0])
			copy(s.Disk.Waits[len(s.Disk.Waits)-1].Data, filled(0))
			refused(t, "written over", s, c.root, api.ErrBad, keysOf(c.items)...)
		}
	}
}

// P10.1: keys that are alike but for one part, or whose parts go up and down against one another, at both ends of what they may be.
func TestKeysAlikeButForOnePart(t *testing.T) {
	ends := []uint32{0, 1, 255, 256, 1<<31 - 1, 1 << 31, api.MaxWord - 1, api.MaxWord}
	kinds := []uint8{0, 1, 2, 127, 128, 254, 255}
	rows := map[string][]api.Key{}
	for _, n := range ends {
		rows["Off"] = append(rows["Off"], api.Key{Kind: 2, Id: 5, Off: n})
		rows["Id"] = append(rows["Id"], api.Key{Kind: 2, Id: n, Off: 5})
		rows["Id, Off falling"] = append(rows["Id, Off falling"], api.Key{Kind: 2, Id: n, Off: api.MaxWord - n})
		rows["Off, Id the greatest"] = append(rows["Off, Id the greatest"], api.Key{Kind: 255, Id: api.MaxWord, Off: n})
	}
	for _, k := range kinds {
		rows["Kind"] = append(rows["Kind"], api.Key{Kind: k, Id: 5, Off: 5})
		rows["Kind, others falling"] = append(rows["Kind, others falling"], api.Key{Kind: k, Id: uint32(255 - k), Off: uint32(255-k) * 3})
	}
	for what, row := range rows {
		for many := 1; many < 6; many++ {
			g := bare(many)
			var below []int
			for l := range slices.Chunk(row, many) {
				n := api.Node{}
				for _, k := range l {
					n.Items = append(n.Items, api.Item{Key: k, Val: some(12, int(k.Off+k.Id)+int(k.Kind))})
				}
				g.items = append(g.items, n.Items...)
				below = append(below, g.lay(n))
			}
			for len(below) > 1 {
				var up []int
				for l := range slices.Chunk(below, 5) {
					up = append(up, g.above(l...))
				}
				below = up
			}
			s := g.store()
			for _, x := range g.items {
				finds(t, what, s, below[0], x)
			}
			for _, k := range strangers(g.items) {
				misses(t, what, s, below[0], k, api.ErrNone)
			}
		}
	}
}

// P10.3: what is made, level by level, is a tree, whose items are found; left again, it is none.
func TestMade(t *testing.T) {
	s, at, e := drop.Make(room.New(), api.Node{})
	if e != api.OK {
		t.Fatal(e)
	}
	stands(t, "made", s, at, 1)
	g := bare(0)
	g.leaf(5)
	for i := range g.items {
		g.items[i].Ref = at
	}
	s, root, e := drop.Make(s, api.Node{Items: g.items})
	for level := 1; level < 6 && e == api.OK; level++ {
		s, root, e = drop.Make(s, api.Node{Level: level, Items: []api.Item{{Key: nth(0), Ref: root}}})
		stands(t, "made", s, root, level+1)
		for _, x := range g.items {
			finds(t, "made", s, root, x)
		}
		misses(t, "made", s, root, nth(5), api.ErrNone)
	}
	if e != api.OK {
		t.Fatal(e)
	}
	s, e = drop.Leave(s, root)
	if e != api.OK {
		t.Fatal(e)
	}
	stands(t, "a node that is held still", s, root-1, 5)
	for below := root - 1; below > at; below-- {
		if s, e = drop.Leave(s, below); e != api.OK {
			t.Fatal(e)
		}
		refused(t, "left", s, below, api.ErrNone, nth(0))
		refused(t, "left", s, root, api.ErrNone, nth(0))
	}
}

// The chapter's examples.
func TestExamples(t *testing.T) {
	g := pair(8, 9)
	s := g.store()
	if h, e := find.Check(s, 9); h != 2 || e != api.OK {
		t.Error("Check(T, 9)", h, e)
	}
	if h, e := find.Check(s, 8); h != 1 || e != api.OK {
		t.Error("Check(T, 8)", h, e)
	}
	if h, e := find.Check(s, 10); h != 0 || e != api.ErrNone {
		t.Error("Check(T, 10)", h, e)
	}
	if h, e := find.Check(s, 7); h != 0 || e != api.ErrArg {
		t.Error("Check(T, 7)", h, e)
	}
	if x, e := find.Find(s, 9, key(4, 0)); e != api.OK || !item.Same(x, api.Item{Key: key(4, 0), Val: []byte{4, 4}}) {
		t.Error("Find(T, 9, 4)", x, e)
	}
	if x, e := find.Find(s, 9, key(3, 0)); e != api.ErrNone || !nothing(x) {
		t.Error("Find(T, 9, 3)", x, e)
	}
	g.nodes[8].Items[0].Key = key(3, 0)
	if h, e := find.Check(g.store(), 9); h != 0 || e != api.ErrBad {
		t.Error("Check of a root above a leaf whose first key is another one", h, e)
	}
}

// The chapter's errors, and its limits, have their numbers.
func TestErrors(t *testing.T) {
	if api.ErrArg != 2 || api.ErrNone != 6 || api.ErrBad != 8 || api.First != 8 || api.Blocks != 256 || api.MaxHeight != 6 || api.MaxFan != 5 {
		t.Error(int(api.ErrArg), int(api.ErrNone), int(api.ErrBad), api.First, api.Blocks, api.MaxHeight, api.MaxFan)
	}
}
