package del_test

import (
	"bytes"
	"maps"
	"math"
	"slices"
	"testing"

	"scionry/api"
	"scionry/del"
	"scionry/dev"
	"scionry/find"
	"scionry/item"
	"scionry/node"
	"scionry/room"
	"scionry/sum"
	"scionry/walk"
)

// lowest and highest are the keys at both ends.
var (
	lowest  = api.Key{}
	highest = api.Key{Kind: 255, Id: api.MaxWord, Off: api.MaxWord}
)

// strayRoots are the places of no block that may be taken: the first ones at its edges, then such of which some bytes are right.
var strayRoots = []int{-1, 0, 7, 256, 1, 4, 6, 257, -8, -248, 256 + 8, 256 + 9, 1<<16 + 9, 1 << 32, 1<<32 + 9, -1<<32 + 9, math.MaxInt, math.MinInt, math.MinInt + 9}

// key is one of kind 2.
func key(id, off int) api.Key { return api.Key{Kind: 2, Id: uint32(id), Off: uint32(off)} }

// nth is the n-th of keys that rise: many are alike but for one part, each part falls where a greater one rises, and between any two there is another one.
func nth(n int) api.Key {
	return api.Key{Kind: uint8(1 + n/32*2), Id: uint32(10 + n/8%4*2), Off: uint32(100 + n%8*2)}
}

// ahead tells by the words whether a stands ahead of b.
func ahead(a, b api.Key) bool {
	if a.Kind != b.Kind {
		return a.Kind < b.Kind
	}
	if a.Id != b.Id {
		return a.Id < b.Id
	}
	return a.Off < b.Off
}

// next is the key just behind k: only k, and what stands ahead of it, stands ahead of it; behind the highest there is none.
func next(k api.Key) api.Key {
	if k.Off++; k.Off > 0 {
		return k
	}
	if k.Id++; k.Id == 0 {
		k.Kind++
	}
	return k
}

// before is the key just ahead of k, which is not the lowest one.
func before(k api.Key) api.Key {
	if k.Off--; k.Off < api.MaxWord {
		return k
	}
	if k.Id--; k.Id == api.MaxWord {
		k.Kind--
	}
	return k
}

// filled is a block of one byte, again and again.
func filled(c byte) []byte { return bytes.Repeat([]byte{c}, 128) }

// some is many bytes that differ from place to place, and by seed.
func some(many, seed int) []byte {
	b := make([]byte, many)
	for i := range b {
		b[i] = byte(i*i*29 + i*seed + i>>1 + seed*83)
	}
	return b
}

// block is n's block.
func block(n api.Node) []byte {
	b, e := node.Write(n)
	if e != api.OK {
		panic(e)
	}
	return b
}

// ids are items of kind 2 with these Ids, and nothing else.
func ids(l ...int) []api.Item {
	var items []api.Item
	for _, id := range l {
		items = append(items, api.Item{Key: key(id, 0)})
	}
	return items
}

// garden is a store, and the nodes that are in its blocks; what grows in it has keys behind all that were given out.
type garden struct {
	s     api.Store
	nodes map[int]api.Node
	row   []int // the places of the nodes, each behind those below it
	keys  int   // how many were given out
	taken int   // how many blocks were
	seed  int
	data  []int // blocks of no nodes, to which leaves refer
	end   int   // the leaf that was laid last at the end of a way
}

// bare is a garden of no nodes, all of whose blocks differ; where blocks are taken differs by seed. Of the others two of three were counted when all was committed last.
func bare(seed int) *garden {
	g := &garden{s: room.New(), nodes: map[int]api.Node{}, seed: seed}
	for at := range g.s.Disk.Blocks {
		g.s.Disk.Blocks[at] = append(some(127, at), byte(at))
		if at > 7 {
			g.s.Last[at] = byte((at + seed) % 3 * 127)
		}
	}
	for range 3 {
		g.data = append(g.data, g.take())
	}
	return g
}

// take is the place of a block that wasn't taken.
func (g *garden) take() int {
	at := 8 + (g.taken*37+g.seed*11)%248
	g.taken++
	return at
}

// set is that node in that block; in every other one it waits to be written, over a leaf that lasts, and over others that wait.
func (g *garden) set(at int, n api.Node) {
	g.nodes[at] = n
	if at%2 == 0 {
		g.s.Disk.Blocks[at] = block(n)
		return
	}
	g.s.Disk.Blocks[at] = block(api.Node{})
	g.s.Disk.Waits = append(g.s.Disk.Waits, api.Write{At: at, Data: filled(1)}, api.Write{At: at, Data: block(n)})
}

// lay is the place of a block with that node.
func (g *garden) lay(n api.Node) int {
	at := g.take()
	g.set(at, n)
	g.row = append(g.row, at)
	return at
}

// leaf is the place of a leaf with many items; some of them refer to nothing, several to one block.
func (g *garden) leaf(many int) int {
	n := api.Node{}
	for range many {
		x := api.Item{Key: nth(g.keys), Val: some(g.keys%13, g.keys)}
		if g.keys%4 > 0 {
			x.Ref = g.data[g.keys%4-1]
		}
		n.Items = append(n.Items, x)
		g.keys++
	}
	return g.lay(n)
}

// above is the place of a node above these, all of one level.
func (g *garden) above(below ...int) int {
	n := api.Node{Level: g.nodes[below[0]].Level + 1}
	for _, at := range below {
		n.Items = append(n.Items, api.Item{Key: g.nodes[at].Items[0].Key, Ref: at})
	}
	return g.lay(n)
}

// full is the root of a tree of that level, all nodes of which have many items.
func (g *garden) full(level, many int) int {
	if level == 0 {
		return g.leaf(many)
	}
	var below []int
	for range many {
		below = append(below, g.full(level-1, many))
	}
	return g.above(below...)
}

// path is the root of a tree of that level, whose nodes along one way have five items where the level's bit of mask is set, and else few; each other node has one. Its end is the leaf on that way.
func (g *garden) path(level, mask, way, few int) int {
	many := few
	if mask>>level&1 == 1 {
		many = 5
	}
	if level == 0 {
		g.end = g.leaf(many)
		return g.end
	}
	var below []int
	for i := range many {
		if i == min(way, many-1) {
			below = append(below, g.path(level-1, mask, way, few))
		} else {
			below = append(below, g.full(level-1, 1))
		}
	}
	return g.above(below...)
}

// counts is how often each block is referred to, as the words tell it: by the nodes that are held or below those, each once, and by whoever holds these.
func (g *garden) counts(holds ...int) []byte {
	c := make([]byte, 256)
	met := map[int]int{}
	var enter func(at int)
	enter = func(at int) {
		n := g.nodes[at]
		if met[at]++; met[at] > 1 {
			return
		}
		for _, x := range n.Items {
			if x.Ref != 0 {
				c[x.Ref]++
			}
			if n.Level > 0 {
				enter(x.Ref)
			}
		}
	}
	for _, at := range holds {
		c[at]++
		if _, is := g.nodes[at]; is {
			enter(at)
		}
	}
	return c
}

// held is g, whose blocks are counted as often as they are referred to, the roots and the data being held.
func (g *garden) held(roots ...int) *garden {
	g.s.Now = g.counts(append(roots, g.data...)...)
	return g
}

// twin is g with a store, nodes and places of its own.
func (g *garden) twin() *garden {
	o := *g
	o.s, o.nodes, o.row, o.data = room.Twin(g.s), maps.Clone(g.nodes), slices.Clone(g.row), slices.Clone(g.data)
	for at, n := range g.nodes {
		o.nodes[at] = node.Twin(n)
	}
	return &o
}

// items is those of the tree at root, in order.
func (g *garden) items(root int) []api.Item {
	n := g.nodes[root]
	if n.Level == 0 {
		return n.Items
	}
	var l []api.Item
	for _, x := range n.Items {
		l = append(l, g.items(x.Ref)...)
	}
	return l
}

// with is the items with x put in, in order.
func with(items []api.Item, x api.Item) []api.Item {
	var l []api.Item
	for _, y := range items {
		if ahead(y.Key, x.Key) {
			l = append(l, y)
		}
	}
	l = append(l, x)
	for _, y := range items {
		if ahead(x.Key, y.Key) {
			l = append(l, y)
		}
	}
	return l
}

// without is the items but that of k.
func without(items []api.Item, k api.Key) []api.Item {
	var l []api.Item
	for _, x := range items {
		if x.Key != k {
			l = append(l, x)
		}
	}
	return l
}

// make is the first block that is free, the node n being made there, as the words tell it; below is a new node that was held for it, or 0.
func (g *garden) make(n api.Node, below int) (int, api.Errno) {
	for _, x := range n.Items {
		switch {
		case x.Ref == 0:
			continue
		case g.s.Now[x.Ref] == 0:
			return 0, api.ErrNone
		case g.s.Now[x.Ref] == 255:
			return 0, api.ErrCount
		}
		g.s.Now[x.Ref]++
	}
	for at := 8; at < 256; at++ {
		if g.s.Now[at] == 0 && g.s.Last[at] == 0 && len(g.s.Disk.Waits) < 4096 {
			g.s.Now[at], g.nodes[at] = 1, n
			g.s.Disk.Waits = append(g.s.Disk.Waits, api.Write{At: at, Data: block(n)})
			if below != 0 {
				g.s.Now[below]--
			}
			return at, api.OK
		}
	}
	return 0, api.ErrFull
}

// by is by which of n's items the way of k goes.
func by(n api.Node, k api.Key) int {
	at := 0
	for i, y := range n.Items {
		if !ahead(k, y.Key) {
			at = i
		}
	}
	return at
}

// rest is the new items of the node at that place, without that of k, and the new node below it that is held for it, or 0.
func (g *garden) rest(at int, k api.Key) ([]api.Item, int, api.Errno) {
	n := g.nodes[at]
	if n.Level == 0 {
		return without(n.Items, k), 0, api.OK
	}
	i := by(n, k)
	below, made, e := g.rest(n.Items[i].Ref, k)
	if e != api.OK {
		return nil, 0, e
	}
	if len(below) == 0 {
		return slices.Concat(n.Items[:i], n.Items[i+1:]), 0, api.OK
	}
	from, to := i, i+1
	switch {
	case i+1 < len(n.Items):
		if next := g.nodes[n.Items[i+1].Ref].Items; len(next)+len(below) <= 5 {
			below, to = slices.Concat(below, next), i+2
		}
	case i > 0:
		if last := g.nodes[n.Items[i-1].Ref].Items; len(last)+len(below) <= 5 {
			below, from = slices.Concat(last, below), i-1
		}
	}
	made, e = g.make(api.Node{Level: n.Level - 1, Items: below}, made)
	if e != api.OK {
		return nil, 0, e
	}
	x := api.Item{Key: below[0].Key, Ref: made}
	return slices.Concat(n.Items[:from], []api.Item{x}, n.Items[to:]), made, api.OK
}

// leave turns the counts as the words tell it, one step within the other; level is what the node there has to be, or -1 for any. It tells whether that went well.
func (g *garden) leave(at, level int) bool {
	if g.s.Now[at] == 0 {
		return false
	}
	if g.s.Now[at]--; g.s.Now[at] > 0 {
		return true
	}
	n, is := g.nodes[at]
	if !is || level >= 0 && n.Level != level {
		return false
	}
	for _, x := range n.Items {
		switch {
		case n.Level > 0:
			if !g.leave(x.Ref, n.Level-1) {
				return false
			}
		case x.Ref > 0:
			if g.s.Now[x.Ref] == 0 {
				return false
			}
			g.s.Now[x.Ref]--
		}
	}
	return true
}

// told is g with the item of k taken out of the tree at root, that may be, and the new root, as the words tell it.
func (g *garden) told(root int, k api.Key) (*garden, int, api.Errno) {
	if len(without(g.items(root), k)) == len(g.items(root)) {
		return nil, 0, api.ErrNone
	}
	w := g.twin()
	l, made, e := w.rest(root, k)
	if e != api.OK {
		return nil, 0, e
	}
	n := api.Node{Level: g.nodes[root].Level, Items: l}
	if len(l) == 0 {
		n.Level = 0
	}
	at, e := w.make(n, made)
	if e != api.OK {
		return nil, 0, e
	}
	for n.Level > 0 && len(n.Items) == 1 {
		below := n.Items[0].Ref
		if w.s.Now[below] == 255 {
			return nil, 0, api.ErrCount
		}
		w.s.Now[below]++
		if !w.leave(at, -1) {
			return nil, 0, api.ErrBad
		}
		at, n = below, w.nodes[below]
	}
	if !w.leave(root, -1) {
		return nil, 0, api.ErrBad
	}
	return w, at, api.OK
}

// nothing tells whether s is as it stands beside an error.
func nothing(s api.Store) bool {
	return len(s.Disk.Blocks) == 0 && len(s.Disk.Waits) == 0 && len(s.Now) == 0 && len(s.Last) == 0
}

// refused fails, unless Del has that error, beside nothing.
func refused(t *testing.T, what string, s api.Store, root int, k api.Key, want api.Errno) {
	t.Helper()
	was := room.Twin(s)
	if out, now, e := del.Del(s, root, k); e != want || now != 0 || !nothing(out) {
		t.Errorf("%s: Del at %d of %v: root %d, %d, want %d, and nothing beside", what, root, k, now, e, want)
	}
	if !room.Same(s, was) {
		t.Errorf("%s: Del at %d of %v turned what was handed in", what, root, k)
	}
}

// has fails, unless these are the items of the tree at root.
func has(t *testing.T, what string, s api.Store, root int, want []api.Item) {
	t.Helper()
	l, e := walk.Range(s, root, lowest, highest)
	if e != api.OK || !slices.EqualFunc(l, want, item.Same) {
		t.Fatalf("%s: the items at %d are %v, %d, want %v", what, root, l, e, want)
	}
}

// dels fails, unless Del answers what the words tell of g, which is what is so behind it, with the new root; or their error, beside nothing: then it is nil.
func (g *garden) dels(t *testing.T, what string, root int, k api.Key) (*garden, int) {
	t.Helper()
	w, at, e := g.told(root, k)
	if e != api.OK {
		refused(t, what, g.s, root, k, e)
		return nil, 0
	}
	was := room.Twin(g.s)
	out, now, e := del.Del(g.s, root, k)
	if e != api.OK || now != at {
		t.Fatalf("%s: Del at %d of %v: root %d, %d, want %d", what, root, k, now, e, at)
	}
	if !bytes.Equal(out.Now, w.s.Now) {
		t.Fatalf("%s: Del at %d of %v: counts %v, want %v", what, root, k, out.Now, w.s.Now)
	}
	if !room.Same(out, w.s) {
		t.Fatalf("%s: Del at %d of %v: what is written, or what was when all was committed last, is another one", what, root, k)
	}
	if !room.Same(g.s, was) {
		t.Fatalf("%s: Del at %d of %v turned what was handed in", what, root, k)
	}
	w.s = out
	return w, now
}

// shrinks fails, unless Del goes well, as dels tells, and what is answered may be a tree of the items there were but that of k, no higher than it was; at most one block a level is written.
func (g *garden) shrinks(t *testing.T, what string, root int, k api.Key) (*garden, int) {
	t.Helper()
	w, now := g.dels(t, what, root, k)
	if w == nil {
		t.Fatalf("%s: Del at %d of %v does not go well", what, root, k)
	}
	levels := g.nodes[root].Level + 1
	if height, e := find.Check(w.s, now); e != api.OK || height > levels {
		t.Fatalf("%s: behind Del at %d of %v: height %d, %d", what, root, k, height, e)
	}
	if many := w.written(g); many < 1 || many > levels {
		t.Fatalf("%s: Del at %d of %v wrote %d blocks at %d levels", what, root, k, many, levels)
	}
	has(t, what, w.s, now, without(g.items(root), k))
	if x, e := find.Find(w.s, now, k); e != api.ErrNone {
		t.Fatalf("%s: %v is found still: %v, %d", what, k, x, e)
	}
	return w, now
}

// written is how many blocks were written from was to g.
func (g *garden) written(was *garden) int {
	return len(g.s.Disk.Waits) - len(was.s.Disk.Waits)
}

// counted fails, unless each block is counted as often as it is referred to, these roots and the data being held.
func (g *garden) counted(t *testing.T, what string, roots ...int) {
	t.Helper()
	if want := g.counts(append(roots, g.data...)...); !bytes.Equal(g.s.Now, want) {
		t.Fatalf("%s: counts %v, want %v", what, g.s.Now, want)
	}
}

// tree is one that may be, of a garden.
type tree struct {
	*garden
	root int
}

// trees are of all heights, with nodes of no item, of one, of five, and of some between.
func trees() []tree {
	var l []tree
	for many := range 6 {
		g := bare(many)
		root := g.full(0, many)
		l = append(l, tree{g.held(root), root})
	}
	for _, c := range []struct{ level, many int }{{1, 1}, {1, 2}, {1, 5}, {2, 1}, {2, 3}, {2, 5}, {3, 1}, {3, 2}, {3, 3}, {4, 1}, {4, 2}, {5, 1}, {5, 2}} {
		g := bare(c.level + c.many)
		root := g.full(c.level, c.many)
		l = append(l, tree{g.held(root), root})
	}
	return append(l, combs()...)
}

// combs are trees of more than one level, with nodes of five items along one way.
func combs() []tree {
	var l []tree
	for level := 1; level < 6; level++ {
		for way := range 5 {
			g := bare(level*5 + way)
			root := g.path(level, 63, way, 1)
			l = append(l, tree{g.held(root), root})
		}
	}
	return l
}

// bush is the root of a tree of that level, that has so many items; each node below has one.
func (g *garden) bush(level, many int) int {
	if level == 0 {
		return g.leaf(many)
	}
	var below []int
	for range many {
		below = append(below, g.full(level-1, 1))
	}
	return g.above(below...)
}

// hedge is the root of a tree of that level: along one way its nodes have as many items as own tells of their levels, all nodes beside these have as many as beside tells. Its end is the leaf on that way.
func (g *garden) hedge(level, way int, own, beside []int) int {
	if level == 0 {
		g.end = g.leaf(own[0])
		return g.end
	}
	var below []int
	for i := range own[level] {
		if i == min(way, own[level]-1) {
			below = append(below, g.hedge(level-1, way, own, beside))
		} else {
			below = append(below, g.bush(level-1, beside[level-1]))
		}
	}
	return g.above(below...)
}

// know makes the nodes of the tree of g's store at root the garden's.
func (g *garden) know(t *testing.T, root int) {
	t.Helper()
	nodes, _, e := walk.Nodes(g.s, root)
	if e != api.OK {
		t.Fatal(e)
	}
	for _, at := range nodes {
		if g.nodes[at], e = room.Node(g.s, at); e != api.OK {
			t.Fatal(e)
		}
	}
}

// pick is some of l: all of it, or about many, the first and the last one too.
func pick[T any](l []T, many int) []T {
	step := len(l)/many + 1
	var out []T
	for i, x := range l {
		if i%step == 0 || i == len(l)-1 {
			out = append(out, x)
		}
	}
	return out
}

// shows fails, unless these are the Ids of the items of the nodes of the tree at root, level by level from the root down.
func shows(t *testing.T, what string, s api.Store, root int, want ...[]int) {
	t.Helper()
	var got [][]int
	row := []int{root}
	for len(row) > 0 {
		var below []int
		for _, at := range row {
			n, e := room.Node(s, at)
			if e != api.OK {
				t.Fatalf("%s: no node at %d: %d", what, at, e)
			}
			var l []int
			for _, x := range n.Items {
				l = append(l, int(x.Key.Id))
				if n.Level > 0 {
					below = append(below, x.Ref)
				}
			}
			got = append(got, l)
		}
		row = below
	}
	if !slices.EqualFunc(got, want, slices.Equal) {
		t.Errorf("%s: %v, want %v", what, got, want)
	}
}

// tower is a garden with a tree whose leaves have these Ids, at a level that is one chunk of five after the other.
func tower(leaves ...[]int) (*garden, int) {
	g := bare(3)
	var row []int
	for _, l := range leaves {
		row = append(row, g.lay(api.Node{Items: ids(l...)}))
	}
	for len(row) > 1 {
		var up []int
		for l := range slices.Chunk(row, 5) {
			up = append(up, g.above(l...))
		}
		row = up
	}
	return g.held(row[0]), row[0]
}

// waiting is s, and many writes wait for its disk, none of them for a block of a tree.
func waiting(s api.Store, many int) api.Store {
	s.Disk, _ = dev.Barrier(s.Disk)
	b := filled(1)
	for i := range many {
		s.Disk.Waits = append(s.Disk.Waits, api.Write{At: i % 8, Data: b})
	}
	return s
}

// pair is a leaf with the keys 2 and 4 at 8, and a node above it at 9, each held once.
func pair() *garden {
	g := bare(0)
	g.set(8, api.Node{Items: ids(2, 4)})
	g.set(9, api.Node{Level: 1, Items: []api.Item{{Key: key(2, 0), Ref: 8}}})
	g.row, g.s.Now = []int{8, 9}, g.counts(9)
	return g
}

// odds are stores that may not be: for their disk alone, for Now, for Last, for several of them; 9 is the root of a tree in them, but for that.
func odds() []api.Store {
	l := []api.Store{{}, waiting(pair().s, 4097)}
	for _, turn := range []func(s *api.Store){
		func(s *api.Store) { s.Disk = api.Disk{} },
		func(s *api.Store) { s.Disk.Blocks = s.Disk.Blocks[:255] },
		func(s *api.Store) { s.Disk.Blocks = append(s.Disk.Blocks, filled(1)) },
		func(s *api.Store) { s.Disk.Blocks[7] = nil },
		func(s *api.Store) { s.Disk.Blocks[255] = s.Disk.Blocks[255][:127] },
		func(s *api.Store) { s.Disk.Blocks[20] = append(s.Disk.Blocks[20], 0) },
		func(s *api.Store) { s.Disk.Waits = append(s.Disk.Waits, api.Write{At: 256, Data: filled(1)}) },
		func(s *api.Store) { s.Disk.Waits = append(s.Disk.Waits, api.Write{At: -1, Data: filled(1)}) },
		func(s *api.Store) { s.Disk.Waits = append(s.Disk.Waits, api.Write{At: 20, Data: filled(1)[1:]}) },
		func(s *api.Store) { s.Disk.Waits = slices.Insert(s.Disk.Waits, 0, api.Write{At: 9}) },
		func(s *api.Store) { s.Now = nil },
		func(s *api.Store) { s.Now = s.Now[:255] },
		func(s *api.Store) { s.Now = s.Now[:10] },
		func(s *api.Store) { s.Now = append(s.Now, 0) },
		func(s *api.Store) { s.Now[0] = 1 },
		func(s *api.Store) { s.Now[7] = 255 },
		func(s *api.Store) { s.Last = nil },
		func(s *api.Store) { s.Last = s.Last[:255] },
		func(s *api.Store) { s.Last = append(s.Last, 0) },
		func(s *api.Store) { s.Last[0] = 255 },
		func(s *api.Store) { s.Last[7] = 1 },
		func(s *api.Store) { s.Now, s.Last = nil, nil },
		func(s *api.Store) { s.Disk, s.Now = api.Disk{}, nil },
		func(s *api.Store) { s.Disk, s.Last = api.Disk{}, nil },
	} {
		s := pair().s
		turn(&s)
		l = append(l, s)
	}
	return l
}

// notNodes are blocks of no node.
func notNodes() [][]byte {
	other, _ := sum.Seal([]byte{77, 0, 0})
	x, _ := item.Write(api.Item{Key: nth(0), Ref: 8})
	high, _ := sum.Seal(append([]byte{78, 6, 1}, x...))
	none, _ := sum.Seal([]byte{78, 1, 0})
	behind, _ := sum.Seal([]byte{78, 0, 0, 1})
	odd := block(api.Node{Items: []api.Item{{Key: nth(0)}}})
	odd[60] ^= 1
	return [][]byte{filled(0), filled(78), some(128, 2), other, high, none, behind, odd}
}

// only is g's store with no more than so many blocks free.
func (g *garden) only(many int) api.Store {
	s := room.Twin(g.s)
	free, _ := room.Free(s)
	for _, at := range free[many:] {
		s.Last[at] = 1
	}
	return s
}

// dice are numbers that look like chance, but are the same each time.
type dice uint32

// roll is a number below n.
func (d *dice) roll(n int) int {
	*d = *d*1664525 + 1013904223
	return int(*d>>8) % n
}

// spoil turns every byte of b and of its spare room.
func spoil(b []byte) {
	b = b[:cap(b)]
	for i := range b {
		b[i] ^= 0xff
	}
}

// lists is all lists of bytes that s has.
func lists(s api.Store) [][]byte {
	l := append(slices.Clone(s.Disk.Blocks), s.Now, s.Last)
	for _, w := range s.Disk.Waits {
		l = append(l, w.Data)
	}
	return l
}

// wreck turns all that s has, with all its spare room.
func wreck(s api.Store) {
	for _, b := range lists(s) {
		spoil(b)
	}
	clear(s.Disk.Blocks[:cap(s.Disk.Blocks)])
	clear(s.Disk.Waits[:cap(s.Disk.Waits)])
}

// bared is s, its spare room shown as elements, in other memory.
func bared(s api.Store) api.Store {
	d := api.Disk{Blocks: slices.Clone(s.Disk.Blocks[:cap(s.Disk.Blocks)]), Waits: slices.Clone(s.Disk.Waits[:cap(s.Disk.Waits)])}
	for at, b := range d.Blocks {
		d.Blocks[at] = b[:cap(b)]
	}
	for i, w := range d.Waits {
		d.Waits[i].Data = w.Data[:cap(w.Data)]
	}
	return room.Twin(api.Store{Disk: d, Now: s.Now[:cap(s.Now)], Last: s.Last[:cap(s.Last)]})
}

// roomy is the garden's store, all lists of which have spare room.
func (g *garden) roomy() api.Store {
	s := room.Twin(g.s)
	grow := func(b []byte) []byte { return append(b[:len(b):len(b)], some(9, 3)...)[:len(b)] }
	for at := range s.Disk.Blocks {
		s.Disk.Blocks[at] = grow(s.Disk.Blocks[at])
	}
	for i := range s.Disk.Waits {
		s.Disk.Waits[i].Data = grow(s.Disk.Waits[i].Data)
	}
	s.Disk.Blocks = append(s.Disk.Blocks, filled(5), filled(6))[:256]
	s.Disk.Waits = append(s.Disk.Waits, api.Write{At: 20, Data: filled(7)})[:len(s.Disk.Waits)]
	s.Now, s.Last = grow(s.Now), grow(s.Last)
	return s
}

// turn does something to a node, or to a count.
func (g *garden) turn(d *dice) {
	at, other := g.row[d.roll(len(g.row))], g.row[d.roll(len(g.row))]
	n := node.Twin(g.nodes[at])
	x := &n.Items[d.roll(len(n.Items))]
	switch d.roll(6) {
	case 0:
		x.Key = nth(d.roll(g.keys + 2))
	case 1:
		x.Ref = other
	case 2:
		x.Ref = g.data[d.roll(3)]
	case 3:
		g.s.Now[at] = []byte{0, 1, 2, 254, 255}[d.roll(5)]
	case 4, 5:
		g.s.Now[g.data[d.roll(3)]] = []byte{0, 1, 2, 253, 254, 255}[d.roll(6)]
	}
	if node.Check(n) == api.OK {
		g.set(at, n)
	}
}

// well tells whether all nodes may be, each by itself.
func (g *garden) well() bool {
	for _, n := range g.nodes {
		if node.Check(n) != api.OK {
			return false
		}
	}
	return true
}
