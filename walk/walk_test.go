package walk_test

import (
	"bytes"
	"maps"
	"math"
	"slices"
	"testing"

	"scionry/api"
	"scionry/dev"
	"scionry/drop"
	"scionry/find"
	"scionry/item"
	"scionry/node"
	"scionry/room"
	"scionry/sum"
	"scionry/walk"
)

// The signatures are the chapter's, to the letter.
var (
	_ func(s api.Store, root int, from, to api.Key) ([]api.Item, api.Errno) = walk.Range
	_ func(s api.Store, root int) (nodes, refs []int, e api.Errno)          = walk.Nodes
)

// lowest and highest are the keys at both ends.
var (
	lowest  = api.Key{}
	highest = api.Key{Kind: 255, Id: api.MaxWord, Off: api.MaxWord}
)

// strayRoots are the places of no block that may be taken: the first ones at its edges, then such of which some bytes are right.
var strayRoots = []int{-1, 0, 7, 256, 1, 4, 6, 257, -8, -248, 256 + 8, 256 + 9, 1<<16 + 9, 1 << 32, 1<<32 + 9, -1<<32 + 9, math.MaxInt, math.MinInt, math.MinInt + 9}

// key is one of kind 2.
func key(id, off int) api.Key { return api.Key{Kind: 2, Id: uint32(id), Off: uint32(off)} }

// nth is the n-th of keys that rise: many are alike but for one part, each part falls where a greater one rises, and between any two there is another one.
func nth(n int) api.Key {
	return api.Key{Kind: uint8(1 + n/32*2), Id: uint32(10 + n/8%4*2), Off: uint32(100 + n%8*2)}
}

// ahead tells by the words whether a stands ahead of b.
func ahead(a, b api.Key) bool {
	if a.Kind != b.Kind {
		return a.Kind < b.Kind
	}
	if a.Id != b.Id {
		return a.Id < b.Id
	}
	return a.Off < b.Off
}

// next is the key just behind k: only k, and what stands ahead of it, stands ahead of it; behind the highest there is none.
func next(k api.Key) api.Key {
	if k.Off++; k.Off > 0 {
		return k
	}
	if k.Id++; k.Id == 0 {
		k.Kind++
	}
	return k
}

// before is the key just ahead of k, which is not the lowest one.
func before(k api.Key) api.Key {
	if k.Off--; k.Off < api.MaxWord {
		return k
	}
	if k.Id--; k.Id == api.MaxWord {
		k.Kind--
	}
	return k
}

// filled is a block of one byte, again and again.
func filled(c byte) []byte { return bytes.Repeat([]byte{c}, 128) }

// some is many bytes that differ from place to place, and by seed.
func some(many, seed int) []byte {
	b := make([]byte, many)
	for i := range b {
		b[i] = byte(i*i*29 + i*seed + i>>1 + seed*83)
	}
	return b
}

// block is n's block.
func block(n api.Node) []byte {
	b, e := node.Write(n)
	if e != api.OK {
		panic(e)
	}
	return b
}

// garden is nodes in blocks, and how often blocks are counted now; what grows in it has keys behind all that were given out.
type garden struct {
	nodes map[int]api.Node
	now   map[int]byte
	row   []int // the places of the nodes, each behind those below it
	keys  int   // how many were given out
	taken int   // how many blocks were
	seed  int
	data  []int // blocks of no nodes, to which leaves refer
}

// bare is a garden of no nodes; where blocks are taken differs by seed.
func bare(seed int) *garden {
	g := &garden{nodes: map[int]api.Node{}, now: map[int]byte{}, seed: seed}
	for range 3 {
		g.data = append(g.data, g.take())
	}
	return g
}

// take is the place of a block that wasn't taken, counted once or more.
func (g *garden) take() int {
	at := 8 + (g.taken*37+g.seed*11)%248
	g.taken++
	g.now[at] = []byte{1, 2, 255, 1, 128}[g.taken%5]
	return at
}

// lay is the place of a block with that node.
func (g *garden) lay(n api.Node) int {
	at := g.take()
	g.nodes[at] = n
	g.row = append(g.row, at)
	return at
}

// leaf is the place of a leaf with many items; some of them refer to nothing, several to one block.
func (g *garden) leaf(many int) int {
	n := api.Node{}
	for range many {
		x := api.Item{Key: nth(g.keys), Val: some(g.keys%13, g.keys)}
		if g.keys%4 > 0 {
			x.Ref = g.data[g.keys%4-1]
		}
		n.Items = append(n.Items, x)
		g.keys++
	}
	return g.lay(n)
}

// above is the place of a node above these, all of one level.
func (g *garden) above(below ...int) int {
	n := api.Node{Level: g.nodes[below[0]].Level + 1}
	for _, at := range below {
		n.Items = append(n.Items, api.Item{Key: g.nodes[at].Items[0].Key, Ref: at})
	}
	return g.lay(n)
}

// full is the root of a tree of that level, all nodes of which have many items.
func (g *garden) full(level, many int) int {
	if level == 0 {
		return g.leaf(many)
	}
	var below []int
	for range many {
		below = append(below, g.full(level-1, many))
	}
	return g.above(below...)
}

// comb is the root of a tree of that level, whose nodes have five items along one way, and one on each other.
func (g *garden) comb(level, way int) int {
	if level == 0 {
		return g.leaf(5)
	}
	var below []int
	for i := range 5 {
		if i == way {
			below = append(below, g.comb(level-1, way))
		} else {
			below = append(below, g.full(level-1, 1))
		}
	}
	return g.above(below...)
}

// twin is g with nodes, counts and places of its own.
func (g *garden) twin() *garden {
	o := *g
	o.nodes, o.now, o.row = map[int]api.Node{}, maps.Clone(g.now), slices.Clone(g.row)
	for at, n := range g.nodes {
		o.nodes[at] = node.Twin(n)
	}
	return &o
}

// store is what the garden has, on a disk whose other blocks all differ; every other node waits to be written, over a leaf that lasts, and over others that wait.
func (g *garden) store() api.Store {
	s := room.New()
	for at := range s.Disk.Blocks {
		s.Disk.Blocks[at] = append(some(127, at), byte(at))
	}
	for at := range 256 {
		if n, ok := g.nodes[at]; ok && at%2 == 0 {
			s.Disk.Blocks[at] = block(n)
		} else if ok {
			s.Disk.Blocks[at] = block(api.Node{})
			s.Disk.Waits = append(s.Disk.Waits, api.Write{At: at, Data: filled(1)}, api.Write{At: at, Data: block(n)})
		}
		s.Now[at], s.Last[at] = g.now[at], byte(at*7/256)
	}
	copy(s.Last, make([]byte, 8))
	return s
}

// told is what a tree has: its items in order, and the places of its nodes' blocks, and of what its leaves refer to, both rising.
type told struct {
	items        []api.Item
	blocks, refs []int
}

// tell is what the tree at root, which may be, has, as the words tell it, level by level.
func (g *garden) tell(root int) told {
	var out told
	row := []int{root}
	for level := g.nodes[root].Level; level >= 0; level-- {
		out.blocks = append(out.blocks, row...)
		var below []int
		for _, at := range row {
			for _, x := range g.nodes[at].Items {
				below = append(below, x.Ref)
				if level == 0 {
					out.items = append(out.items, x)
				}
			}
		}
		row = below
	}
	for _, x := range out.items {
		if x.Ref != 0 {
			out.refs = append(out.refs, x.Ref)
		}
	}
	slices.Sort(out.blocks)
	slices.Sort(out.refs)
	out.refs = slices.Compact(out.refs)
	return out
}

// between is those of the items that are between the keys, as the words tell it.
func between(items []api.Item, from, to api.Key) []api.Item {
	var l []api.Item
	for _, x := range items {
		if !ahead(x.Key, from) && !ahead(to, x.Key) {
			l = append(l, x)
		}
	}
	return l
}

// tree is one that may be, of a garden.
type tree struct {
	*garden
	root int
	told
}

// grown is the tree at root of g.
func grown(g *garden, root int) tree { return tree{g, root, g.tell(root)} }

// trees are of all heights, with nodes of no item, of one, of five, and of some between.
func trees() []tree {
	var l []tree
	for many := range 6 {
		g := bare(many)
		l = append(l, grown(g, g.full(0, many)))
	}
	for _, c := range []struct{ level, many int }{{1, 1}, {1, 2}, {1, 5}, {2, 1}, {2, 3}, {2, 5}, {3, 1}, {3, 2}, {3, 3}, {4, 1}, {4, 2}, {5, 1}, {5, 2}} {
		g := bare(c.level + c.many)
		l = append(l, grown(g, g.full(c.level, c.many)))
	}
	return append(l, combs()...)
}

// combs are trees of more than one level, with nodes of five items along one way.
func combs() []tree {
	var l []tree
	for level := 1; level < 6; level++ {
		for way := range 5 {
			g := bare(level*5 + way)
			l = append(l, grown(g, g.comb(level, way)))
		}
	}
	return l
}

// tall are trees of six levels.
func tall() []tree {
	g := bare(9)
	return append(combs()[20:], grown(g, g.full(5, 2)))
}

// pick is some of l: all of it, or about many, the first and the last one too.
func pick[T any](l []T, many int) []T {
	step := len(l)/many + 1
	var out []T
	for i, x := range l {
		if i%step == 0 || i == len(l)-1 {
			out = append(out, x)
		}
	}
	return out
}

// ends are keys to ask a tree of those items between: the lowest and the highest one, those of some of the items, those just ahead of these and just behind, and such as differ from them in one part.
func ends(items []api.Item, many int) []api.Key {
	l := []api.Key{lowest, {Kind: 1}, highest}
	for _, x := range pick(items, many) {
		k := x.Key
		l = append(l, k, before(k), next(k), api.Key{Kind: k.Kind + 1, Id: k.Id, Off: k.Off}, api.Key{Kind: k.Kind, Id: k.Id - 1, Off: k.Off}, api.Key{Kind: k.Kind, Id: k.Id, Off: k.Off + 4})
	}
	return l
}

// has fails, unless those are the items between the keys of the tree at root.
func has(t *testing.T, what string, s api.Store, root int, from, to api.Key, want []api.Item) {
	t.Helper()
	l, e := walk.Range(s, root, from, to)
	if e != api.OK || !slices.EqualFunc(l, want, item.Same) {
		t.Errorf("%s: Range at %d from %v to %v: %v, %d, want %v", what, root, from, to, l, e, want)
	}
}

// spans fails, unless those are the blocks of the tree at root.
func spans(t *testing.T, what string, s api.Store, root int, wantNodes, wantRefs []int) {
	t.Helper()
	nodes, refs, e := walk.Nodes(s, root)
	if e != api.OK || !slices.Equal(nodes, wantNodes) || !slices.Equal(refs, wantRefs) {
		t.Errorf("%s: Nodes at %d: %v, %v, %d, want %v, %v", what, root, nodes, refs, e, wantNodes, wantRefs)
	}
}

// stands fails, unless both calls answer all that the tree has.
func (c tree) stands(t *testing.T, what string, s api.Store) {
	t.Helper()
	was := room.Twin(s)
	has(t, what, s, c.root, lowest, highest, c.items)
	spans(t, what, s, c.root, c.blocks, c.refs)
	if !room.Same(s, was) {
		t.Errorf("%s: at %d: what was handed in was turned", what, c.root)
	}
}

// refused fails, unless both calls have that error, beside nothing, whichever keys are asked between.
func refused(t *testing.T, what string, s api.Store, root int, want api.Errno, keys ...api.Key) {
	t.Helper()
	was := room.Twin(s)
	if nodes, refs, e := walk.Nodes(s, root); e != want || len(nodes) > 0 || len(refs) > 0 {
		t.Errorf("%s: Nodes at %d: %v, %v, %d, want nothing, %d", what, root, nodes, refs, e, want)
	}
	pairs := [][2]api.Key{{lowest, highest}, {highest, lowest}, {lowest, lowest}, {highest, highest}}
	for _, k := range keys {
		pairs = append(pairs, [2]api.Key{k, k}, [2]api.Key{lowest, k}, [2]api.Key{next(k), highest})
	}
	for _, p := range pairs {
		if l, e := walk.Range(s, root, p[0], p[1]); e != want || len(l) > 0 {
			t.Errorf("%s: Range at %d from %v to %v: %v, %d, want nothing, %d", what, root, p[0], p[1], l, e, want)
		}
	}
	if !room.Same(s, was) {
		t.Errorf("%s: at %d: what was handed in was turned", what, root)
	}
}

// ids are items of kind 2 with these Ids, and nothing else.
func ids(l ...int) []api.Item {
	var items []api.Item
	for _, id := range l {
		items = append(items, api.Item{Key: key(id, 0)})
	}
	return items
}

// pair is the chapter's tree: a leaf with the keys 2 and 4, and a node above it, in these blocks.
func pair(leaf, above int) *garden {
	g := bare(0)
	g.nodes[leaf] = api.Node{Items: ids(2, 4)}
	g.nodes[above] = api.Node{Level: 1, Items: []api.Item{{Key: key(2, 0), Ref: leaf}}}
	g.now = map[int]byte{leaf: 1, above: 1}
	g.row = []int{leaf, above}
	return g
}

// P11.1: Range answers what is between the keys, in order, of trees of all heights: at items, just ahead of them and behind them, between two items and two leaves, ahead of all and behind all, in either order.
func TestRange(t *testing.T) {
	for _, c := range trees() {
		s := c.store()
		was := room.Twin(s)
		l := ends(c.items, 4)
		for _, from := range l {
			for _, to := range l {
				has(t, "a tree", s, c.root, from, to, between(c.items, from, to))
			}
		}
		if !room.Same(s, was) {
			t.Error("Range turned what was handed in")
		}
		s.Disk, _ = dev.Barrier(s.Disk)
		has(t, "a tree that lasts", s, c.root, lowest, highest, c.items)
	}
}

// P11.1: the first and the last item of each leaf, alone, with the next one, and all from it on and up to it.
func TestRangeAtLeaves(t *testing.T) {
	for _, c := range append(trees()[6:16], tall()...) {
		s := c.store()
		at := 0
		for _, leaf := range c.leaves() {
			first, last := at, at+len(c.nodes[leaf].Items)-1
			for _, i := range []int{first, last} {
				k := c.items[i].Key
				has(t, "that item alone", s, c.root, k, k, c.items[i:i+1])
				has(t, "up to it", s, c.root, lowest, k, c.items[:i+1])
				has(t, "up to just ahead of it", s, c.root, lowest, before(k), c.items[:i])
				has(t, "from it on", s, c.root, k, highest, c.items[i:])
				has(t, "from just behind it on", s, c.root, next(k), highest, c.items[i+1:])
			}
			has(t, "that leaf", s, c.root, c.items[first].Key, c.items[last].Key, c.items[first:last+1])
			has(t, "that leaf, from behind", s, c.root, next(c.items[last].Key), before(c.items[first].Key), nil)
			if at = last + 1; at < len(c.items) {
				from, to := c.items[last].Key, c.items[at].Key
				has(t, "two leaves' ends", s, c.root, from, to, c.items[last:at+1])
				has(t, "between two leaves", s, c.root, next(from), before(to), nil)
				has(t, "between two leaves, one key", s, c.root, next(from), next(from), nil)
				has(t, "into the next leaf", s, c.root, next(from), to, c.items[at:at+1])
				has(t, "out of the leaf ahead", s, c.root, from, before(to), c.items[last:at])
				has(t, "two leaves' ends, turned", s, c.root, to, from, nil)
			}
		}
	}
}

// leaves is the places of the tree's leaves, in order.
func (c tree) leaves() []int {
	var l []int
	for _, at := range c.row {
		if c.nodes[at].Level == 0 {
			l = append(l, at)
		}
	}
	return l
}

// P11.1: the edges once more, by hand: three leaves below a root, and the root of one leaf.
func TestRangeByHand(t *testing.T) {
	g := bare(4)
	root := g.above(g.lay(api.Node{Items: ids(10, 20)}), g.lay(api.Node{Items: ids(30)}), g.lay(api.Node{Items: ids(40, 50, 60)}))
	one := g.above(g.lay(api.Node{Items: ids(10, 20, 30, 40, 50)}))
	s := g.store()
	for _, c := range []struct {
		from, to int
		want     []int
	}{
		{10, 60, []int{10, 20, 30, 40, 50, 60}}, {0, 99, []int{10, 20, 30, 40, 50, 60}}, {11, 59, []int{20, 30, 40, 50}},
		{10, 10, []int{10}}, {60, 60, []int{60}}, {30, 30, []int{30}}, {20, 20, []int{20}}, {40, 40, []int{40}}, {50, 50, []int{50}},
		{0, 9, nil}, {61, 99, nil}, {0, 10, []int{10}}, {60, 99, []int{60}}, {0, 0, nil}, {99, 99, nil}, {9, 9, nil}, {61, 61, nil},
		{21, 29, nil}, {31, 39, nil}, {25, 25, nil}, {35, 35, nil}, {45, 45, nil}, {20, 30, []int{20, 30}}, {20, 29, []int{20}}, {21, 30, []int{30}}, {15, 45, []int{20, 30, 40}},
		{60, 10, nil}, {30, 20, nil}, {50, 40, nil}, {99, 0, nil}, {31, 30, nil}, {30, 29, nil}, {99, 61, nil}, {9, 0, nil},
	} {
		has(t, "by hand", s, root, key(c.from, 0), key(c.to, 0), ids(c.want...))
		has(t, "by hand, one leaf", s, one, key(c.from, 0), key(c.to, 0), ids(slices.DeleteFunc(c.want, func(id int) bool { return id == 60 })...))
	}
}

// P11.1: keys that are alike but for one part, as items' and as the ends: each part counts, in its own order, at both ends of what it may be.
func TestRangeAlikeButForOnePart(t *testing.T) {
	words := []uint32{0, 1, 2, 255, 256, 1 << 16, 1<<31 - 1, 1 << 31, api.MaxWord - 1, api.MaxWord}
	rows := map[string][]api.Key{}
	for i, n := range words {
		rows["Off"] = append(rows["Off"], api.Key{Kind: 2, Id: 5, Off: n})
		rows["Id"] = append(rows["Id"], api.Key{Kind: 2, Id: n, Off: 5})
		rows["Id, Off falling"] = append(rows["Id, Off falling"], api.Key{Kind: 2, Id: n, Off: api.MaxWord - n})
		rows["Kind"] = append(rows["Kind"], api.Key{Kind: []uint8{0, 1, 2, 3, 127, 128, 129, 253, 254, 255}[i], Id: 5, Off: 5})
		rows["Kind, others falling"] = append(rows["Kind, others falling"], api.Key{Kind: uint8(i * 28), Id: words[9-i], Off: words[9-i]})
	}
	for what, row := range rows {
		for many := 1; many < 6; many++ {
			g := bare(many)
			var below []int
			for l := range slices.Chunk(row, many) {
				n := api.Node{}
				for _, k := range l {
					n.Items = append(n.Items, api.Item{Key: k, Val: some(12, int(k.Off+k.Id)+int(k.Kind))})
				}
				below = append(below, g.lay(n))
			}
			for len(below) > 1 {
				var up []int
				for l := range slices.Chunk(below, 5) {
					up = append(up, g.above(l...))
				}
				below = up
			}
			c, s := grown(g, below[0]), g.store()
			keys := append(slices.Clone(row), lowest, highest, key(5, 5), key(4, api.MaxWord), key(6, 0))
			for _, from := range keys {
				for _, to := range keys {
					has(t, what, s, c.root, from, to, between(c.items, from, to))
				}
			}
		}
	}
}

// P11.1: a root that is a leaf without items has none between any keys; its node alone is its block.
func TestEmptyLeaf(t *testing.T) {
	for at := 8; at < 256; at++ {
		g := bare(0)
		g.nodes[at], g.now[at] = api.Node{Items: []api.Item{}}, byte(at)
		s := g.store()
		for _, k := range []api.Key{lowest, key(1, 1), highest} {
			has(t, "no items", s, at, lowest, k, nil)
			has(t, "no items", s, at, k, lowest, nil)
			has(t, "no items", s, at, k, k, nil)
		}
		spans(t, "no items", s, at, []int{at}, nil)
	}
}

// P11.1: Nodes answers the blocks of all nodes, and all that leaves refer to, of trees of all heights: both rising, each once.
func TestNodes(t *testing.T) {
	for _, c := range trees() {
		s := c.store()
		c.stands(t, "a tree", s)
		s.Disk, _ = dev.Barrier(s.Disk)
		c.stands(t, "a tree that lasts", s)
		nodes, refs, _ := walk.Nodes(s, c.root)
		for _, l := range [][]int{nodes, refs} {
			for i := 1; i < len(l); i++ {
				if l[i] <= l[i-1] {
					t.Errorf("Nodes at %d: %v does not rise", c.root, l)
				}
			}
		}
		if len(nodes) != len(c.row) {
			t.Errorf("Nodes at %d: %d nodes of %d", c.root, len(nodes), len(c.row))
		}
	}
}

// P11.1: each node of a tree is the root of one itself, which has what is below it alone.
func TestBelow(t *testing.T) {
	for _, c := range tall() {
		s := c.store()
		for _, at := range c.row {
			part := grown(c.garden, at)
			part.stands(t, "a part of a tree", s)
			for _, k := range ends(part.items, 4) {
				has(t, "a part of a tree", s, at, k, highest, between(part.items, k, highest))
				has(t, "a part of a tree", s, at, lowest, k, between(part.items, lowest, k))
			}
		}
	}
}

// P11.1: what leaves refer to may be any block that is held, be it that of a node: the leaf itself, the root, one between; it is one of refs, once, and one of nodes just if it is a node's of the tree, and what is in it is no part of the tree.
func TestRefsOfAnything(t *testing.T) {
	for _, c := range append(trees()[1:12], tall()...) {
		g := c.twin()
		stranger := g.above(g.full(0, 3), g.full(0, 1))
		alone := len(g.row) - 3
		for _, refs := range [][]int{{c.root}, {c.row[0]}, {stranger}, {8 + (c.root-7)%248}, {c.root, c.row[0], c.root}, {255, 8, 100, 8, 255}, g.row, g.row[alone:], c.row, {0}, {0, c.root}, {c.root, 0, 0, stranger}} {
			g := g.twin()
			i := 0
			for _, at := range c.leaves() {
				for j := range g.nodes[at].Items {
					to := refs[i%len(refs)]
					g.nodes[at].Items[j].Ref = to
					if i++; to > 0 && g.now[to] == 0 {
						g.now[to] = 1
					}
				}
			}
			was := grown(g, c.root)
			was.stands(t, "refs of anything", g.store())
			spans(t, "refs of anything", g.store(), c.root, c.blocks, was.refs)
		}
	}
}

// P11.1: the same by hand: refs to nothing, to one block several times, falling ones, ones to the leaf, to the root, and to blocks at both ends.
func TestRefsByHand(t *testing.T) {
	for _, c := range []struct{ one, two, want []int }{
		{[]int{0}, []int{0, 0}, nil}, {[]int{20}, []int{0}, []int{20}}, {[]int{20, 20, 20}, []int{20}, []int{20}}, {[]int{0, 20}, []int{0, 20}, []int{20}},
		{[]int{50, 40, 30}, []int{20, 15}, []int{15, 20, 30, 40, 50}}, {[]int{20, 30}, []int{15, 20, 30}, []int{15, 20, 30}},
		{[]int{12}, []int{12}, []int{12}}, {[]int{11, 10}, []int{10, 11}, []int{10, 11}}, {[]int{12, 11, 10, 0, 9}, []int{8}, []int{8, 9, 10, 11, 12}},
		{[]int{255}, []int{8}, []int{8, 255}}, {[]int{8}, []int{255}, []int{8, 255}}, {[]int{255, 255}, []int{254}, []int{254, 255}}, {[]int{20, 12, 20, 12}, []int{0, 20}, []int{12, 20}},
	} {
		g := bare(0)
		for i, l := range [][]int{c.one, c.two} {
			n := api.Node{}
			for j, ref := range l {
				n.Items = append(n.Items, api.Item{Key: key(10*i, j), Ref: ref})
			}
			g.nodes[10+i], g.now[10+i] = n, 1
		}
		g.nodes[12], g.now[12] = api.Node{Level: 1, Items: []api.Item{{Key: key(0, 0), Ref: 10}, {Key: key(10, 0), Ref: 11}}}, 1
		for _, ref := range c.want {
			g.now[ref] = 1
		}
		spans(t, "by hand", g.store(), 12, []int{10, 11, 12}, c.want)
		has(t, "by hand", g.store(), 12, lowest, highest, append(slices.Clone(g.nodes[10].Items), g.nodes[11].Items...))
	}
}

// P11.1: what two trees share is in both of them.
func TestShared(t *testing.T) {
	for level := 1; level < 6; level++ {
		g := bare(level)
		var below []int
		for range 4 {
			below = append(below, g.full(level-1, 1+level%2))
		}
		all, one, two := g.above(below...), g.above(below[0], below[1], below[3]), g.above(below[1], below[2])
		s := g.store()
		for _, at := range []int{all, one, two} {
			grown(g, at).stands(t, "shared", s)
		}
		shared := grown(g, below[1])
		a, _, _ := walk.Nodes(s, one)
		b, _, _ := walk.Nodes(s, two)
		if common := slices.DeleteFunc(a, func(at int) bool { return !slices.Contains(b, at) }); !slices.Equal(common, shared.blocks) {
			t.Errorf("in both: %v, want %v", common, shared.blocks)
		}
		k := shared.items[0].Key
		has(t, "of the one", s, one, before(k), highest, append(slices.Clone(shared.items), grown(g, below[3]).items...))
		has(t, "of the other", s, two, lowest, before(grown(g, below[2]).items[0].Key), shared.items)
	}
}

// P11.1: roots from 8 to 255, wherever what is below them is; ErrArg of all others, though a node stands there.
func TestRoots(t *testing.T) {
	for at := 8; at < 256; at++ {
		for _, other := range []int{8, 9, 100, 254, 255} {
			if at != other {
				s := pair(other, at).store()
				has(t, "a root", s, at, key(2, 0), key(4, 0), ids(2, 4))
				has(t, "a root", s, at, key(3, 0), key(4, 0), ids(4))
				spans(t, "a root", s, at, []int{min(at, other), max(at, other)}, nil)
				spans(t, "a leaf", s, other, []int{other}, nil)
			}
		}
	}
	g := pair(8, 9)
	for at := range 8 {
		g.nodes[at] = g.nodes[9]
	}
	s := g.store()
	for root := -300; root < 600; root++ {
		if root < 8 || root > 255 {
			refused(t, "no such block", s, root, api.ErrArg)
		}
	}
	for _, root := range strayRoots {
		refused(t, "no such block", s, root, api.ErrArg, key(2, 0))
	}
}

// waiting is s, and many writes wait for its disk, none of them for a block of a tree.
func waiting(s api.Store, many int) api.Store {
	s.Disk, _ = dev.Barrier(s.Disk)
	b := filled(1)
	for i := range many {
		s.Disk.Waits = append(s.Disk.Waits, api.Write{At: i % 8, Data: b})
	}
	return s
}

// odds are stores that may not be: for their disk alone, for Now, for Last, for several of them; 9 is the root of a tree in them, but for that.
func odds() []api.Store {
	l := []api.Store{{}, waiting(pair(8, 9).store(), 4097)}
	for _, turn := range []func(s *api.Store){
		func(s *api.Store) { s.Disk = api.Disk{} },
		func(s *api.Store) { s.Disk.Blocks = s.Disk.Blocks[:255] },
		func(s *api.Store) { s.Disk.Blocks = append(s.Disk.Blocks, filled(1)) },
		func(s *api.Store) { s.Disk.Blocks[7] = nil },
		func(s *api.Store) { s.Disk.Blocks[255] = s.Disk.Blocks[255][:127] },
		func(s *api.Store) { s.Disk.Blocks[20] = append(s.Disk.Blocks[20], 0) },
		func(s *api.Store) { s.Disk.Waits = append(s.Disk.Waits, api.Write{At: 256, Data: filled(1)}) },
		func(s *api.Store) { s.Disk.Waits = append(s.Disk.Waits, api.Write{At: -1, Data: filled(1)}) },
		func(s *api.Store) { s.Disk.Waits = append(s.Disk.Waits, api.Write{At: 20, Data: filled(1)[1:]}) },
		func(s *api.Store) { s.Disk.Waits = slices.Insert(s.Disk.Waits, 0, api.Write{At: 9}) },
		func(s *api.Store) { s.Now = nil },
		func(s *api.Store) { s.Now = s.Now[:255] },
		func(s *api.Store) { s.Now = s.Now[:10] },
		func(s *api.Store) { s.Now = append(s.Now, 0) },
		func(s *api.Store) { s.Now[0] = 1 },
		func(s *api.Store) { s.Now[7] = 255 },
		func(s *api.Store) { s.Last = nil },
		func(s *api.Store) { s.Last = s.Last[:255] },
		func(s *api.Store) { s.Last = append(s.Last, 0) },
		func(s *api.Store) { s.Last[0] = 255 },
		func(s *api.Store) { s.Last[7] = 1 },
		func(s *api.Store) { s.Now, s.Last = nil, nil },
		func(s *api.Store) { s.Disk, s.Now = api.Disk{}, nil },
		func(s *api.Store) { s.Disk, s.Last = api.Disk{}, nil },
	} {
		s := pair(8, 9).store()
		turn(&s)
		l = append(l, s)
	}
	return l
}

// P11.1: ErrBad of a store that may not be comes first, whatever the root and the keys are.
func TestStoreMayNotBe(t *testing.T) {
	grown(pair(8, 9), 9).stands(t, "but for what is turned", pair(8, 9).store())
	grown(pair(8, 9), 9).stands(t, "as many writes as may wait", waiting(pair(8, 9).store(), 4096))
	for _, s := range odds() {
		for _, root := range append([]int{8, 9, 10, 255}, strayRoots...) {
			refused(t, "a store that may not be", s, root, api.ErrBad, key(2, 0), key(4, 0), key(3, 0))
		}
	}
}

// P11.1: ErrNone of a root whose count is 0, be it free or pinned, though a tree stands there, or nothing that may be; ErrArg ahead of that, ErrBad of what is below behind it.
func TestRootOfNone(t *testing.T) {
	for _, c := range trees() {
		for _, last := range []byte{0, 1, 255} {
			s := c.store()
			s.Now[c.root], s.Last[c.root] = 0, last
			refused(t, "nobody holds it", s, c.root, api.ErrNone, keysOf(c.items)...)
			for _, w := range []byte{1, 2, 127, 128, 255} {
				s.Now[c.root] = w
				c.stands(t, "somebody holds it", s)
			}
		}
	}
	for at := 8; at < 256; at++ {
		refused(t, "nothing there", room.New(), at, api.ErrNone)
	}
	g := pair(8, 9)
	g.now[8], g.now[9] = 0, 0
	refused(t, "neither is held", g.store(), 9, api.ErrNone, key(2, 0))
	refused(t, "neither is held", g.store(), 7, api.ErrArg, key(2, 0))
	refused(t, "neither is held", g.store(), 256, api.ErrArg, key(2, 0))
	g.now[9] = 1
	refused(t, "the leaf is not held", g.store(), 9, api.ErrBad, key(2, 0), key(4, 0))
	refused(t, "the leaf is not held", g.store(), 8, api.ErrNone, key(2, 0), key(4, 0))
}

// keysOf is the keys of some of the items, the first and the last ones too.
func keysOf(items []api.Item) []api.Key {
	var l []api.Key
	for _, x := range pick(items, 6) {
		l = append(l, x.Key)
	}
	return l
}

// notNodes are blocks of no node.
func notNodes() [][]byte {
	other, _ := sum.Seal([]byte{77, 0, 0})
	x, _ := item.Write(api.Item{Key: nth(0), Ref: 8})
	high, _ := sum.Seal(append([]byte{78, 6, 1}, x...))
	none, _ := sum.Seal([]byte{78, 1, 0})
	behind, _ := sum.Seal([]byte{78, 0, 0, 1})
	odd := block(api.Node{Items: []api.Item{{Key: nth(0)}}})
	odd[60] ^= 1
	return [][]byte{filled(0), filled(78), some(128, 2), other, high, none, behind, odd}
}

// P11.1: ErrBad, beside nothing, of a block that is no node's, at the root or anywhere below, on the way to what is asked for or not.
func TestNoNode(t *testing.T) {
	for _, c := range tall() {
		for i, at := range c.row {
			b := notNodes()[i%len(notNodes())]
			lasts, waits := c.store(), c.store()
			lasts.Disk, _ = dev.Barrier(lasts.Disk)
			lasts.Disk.Blocks[at] = b
			waits.Disk.Waits = append(waits.Disk.Waits, api.Write{At: at, Data: b}, api.Write{At: 7, Data: block(c.nodes[at])})
			for _, s := range []api.Store{lasts, waits} {
				refused(t, "no node below", s, c.root, api.ErrBad, c.items[0].Key)
				refused(t, "no node", s, at, api.ErrBad)
			}
		}
	}
	for _, b := range notNodes() {
		for at := 8; at < 256; at += 13 {
			s := room.New()
			s.Disk.Blocks[at], s.Now[at] = b, 1
			refused(t, "no node", s, at, api.ErrBad, nth(0))
		}
	}
}

// turns are ways to make what is not a tree of one, by its node at that place below the root.
func (c tree) turns(at int) map[string]func(g *garden) {
	n, l := c.nodes[at], c.leaves()
	last := len(n.Items) - 1
	m := map[string]func(g *garden){
		"a node that nobody holds": func(g *garden) { g.now[at] = 0 },
		"a node of another level":  func(g *garden) { g.nodes[at] = g.nodes[c.root] },
		"no items":                 func(g *garden) { g.nodes[at] = api.Node{} },
		"another first key":        func(g *garden) { g.nodes[at].Items[0].Key = before(n.Items[0].Key) },
	}
	if n.Level > 0 {
		m["the root below it"] = func(g *garden) { g.nodes[at].Items[last].Ref = c.root }
	}
	if at != l[len(l)-1] {
		m["a key behind the next ones"] = func(g *garden) { g.nodes[at].Items[last].Key = highest }
	}
	return m
}

// P11.1: ErrBad, beside nothing, of each other way in which a tree may not be, wherever it is: what is asked for may be ahead of it, behind it, or nothing.
func TestNoTree(t *testing.T) {
	for _, c := range tall() {
		for _, at := range c.row[:len(c.row)-1] {
			for what, turn := range c.turns(at) {
				g := c.twin()
				turn(g)
				refused(t, what, g.store(), c.root, api.ErrBad, c.items[0].Key)
			}
		}
		for i, x := range c.items {
			if x.Ref != 0 {
				s := c.store()
				s.Now[x.Ref], s.Last[x.Ref] = 0, byte(i)
				refused(t, "a Ref that nobody holds", s, c.root, api.ErrBad, c.items[0].Key, x.Key)
			}
		}
	}
}

// W6: nodes that refer to themselves or to one another are no trees: each call ends.
func TestRound(t *testing.T) {
	for level := 1; level < 6; level++ {
		for many := 1; many < 6; many++ {
			g := bare(level)
			g.now[8], g.now[9] = 200, 200
			one, two := api.Node{Level: level}, api.Node{Level: level}
			for i := range many {
				one.Items = append(one.Items, api.Item{Key: nth(i), Ref: 8})
				two.Items = append(two.Items, api.Item{Key: nth(i), Ref: 9})
			}
			g.nodes[8] = one
			refused(t, "itself", g.store(), 8, api.ErrBad, nth(0))
			g.nodes[8], g.nodes[9] = two, one
			refused(t, "one another", g.store(), 8, api.ErrBad, nth(0))
		}
	}
}

// P11.1: nodes are as the disk is seen: what waits last counts.
func TestSeen(t *testing.T) {
	s := pair(8, 9).store()
	s.Disk, _ = dev.Barrier(s.Disk)
	s.Now[30], s.Now[31] = 1, 1
	for i, l := range [][]api.Item{ids(2, 3), ids(2), ids(2, 5, 7), ids(2, 3)} {
		l[0].Ref, l[len(l)-1].Val = 30+i%2, []byte{byte(i)}
		s.Disk.Waits = append(s.Disk.Waits, api.Write{At: 8, Data: block(api.Node{Items: l})})
		has(t, "what waits last", s, 9, lowest, highest, l)
		has(t, "what waits last", s, 8, key(3, 0), highest, l[1:])
		spans(t, "what waits last", s, 9, []int{8, 9}, []int{30 + i%2})
	}
	s.Disk.Waits = append(s.Disk.Waits, api.Write{At: 10, Data: block(api.Node{Items: ids(2, 9)})}, api.Write{At: 9, Data: block(api.Node{Level: 1, Items: []api.Item{{Key: key(2, 0), Ref: 10}}})})
	s.Now[10] = 1
	for range 2 {
		has(t, "another leaf", s, 9, lowest, highest, ids(2, 9))
		spans(t, "another leaf", s, 9, []int{9, 10}, nil)
		s.Disk, _ = dev.Barrier(s.Disk)
	}
}

// P11.3: what is between two keys, and what is between the next ones, is what is between all of them, wherever it is cut, and in however many parts.
func TestParts(t *testing.T) {
	for _, c := range trees() {
		s := c.store()
		get := func(from, to api.Key) []api.Item {
			l, e := walk.Range(s, c.root, from, to)
			if e != api.OK {
				t.Fatal(e)
			}
			return l
		}
		cuts := ends(c.items, 8)
		slices.SortFunc(cuts, func(a, b api.Key) int {
			if ahead(a, b) {
				return -1
			}
			return 1
		})
		cuts = slices.Compact(cuts)
		cuts = cuts[:len(cuts)-1]
		var parts []api.Item
		from := lowest
		for i, to := range cuts {
			if whole := get(lowest, highest); !slices.EqualFunc(append(get(lowest, to), get(next(to), highest)...), whole, item.Same) {
				t.Errorf("cut behind %v", to)
			}
			if i > 1 {
				a, b := cuts[i/2], cuts[i]
				if !slices.EqualFunc(append(get(cuts[0], a), get(next(a), b)...), get(cuts[0], b), item.Same) {
					t.Errorf("from %v to %v, cut behind %v", cuts[0], b, a)
				}
			}
			parts = append(parts, get(from, to)...)
			from = next(to)
		}
		if parts = append(parts, get(from, highest)...); !slices.EqualFunc(parts, c.items, item.Same) {
			t.Errorf("cut into %d: %d items of %d", len(cuts)+1, len(parts), len(c.items))
		}
	}
}

// P11.3: an item is found just if it is between its own key and itself: and then it is the same.
func TestFound(t *testing.T) {
	for _, c := range trees() {
		s := c.store()
		found := 0
		for _, k := range ends(c.items, 1000) {
			x, e := find.Find(s, c.root, k)
			if e == api.OK {
				found++
				has(t, "found", s, c.root, k, k, []api.Item{x})
			} else {
				has(t, "not found", s, c.root, k, k, nil)
			}
		}
		if found < len(c.items) {
			t.Errorf("%d of %d were found", found, len(c.items))
		}
	}
}

// P11.3: what is answered rises by its keys, and has nothing twice; all of it is in the tree.
func TestRises(t *testing.T) {
	for _, c := range trees() {
		s := c.store()
		for _, from := range ends(c.items, 4) {
			l, e := walk.Range(s, c.root, from, highest)
			if e != api.OK {
				t.Fatal(e)
			}
			for i, x := range l {
				if i > 0 && !ahead(l[i-1].Key, x.Key) || ahead(x.Key, from) {
					t.Errorf("from %v: %v at %d", from, x.Key, i)
				}
				if y, e := find.Find(s, c.root, x.Key); e != api.OK || !item.Same(x, y) {
					t.Errorf("from %v: %v is not found", from, x.Key)
				}
			}
		}
	}
}

// dice are numbers that look like chance, but are the same each time.
type dice uint32

// roll is a number below n.
func (d *dice) roll(n int) int {
	*d = *d*1664525 + 1013904223
	return int(*d>>8) % n
}

// turn does something to a node, or to a count.
func (g *garden) turn(d *dice) {
	at, other := g.row[d.roll(len(g.row))], g.row[d.roll(len(g.row))]
	n := g.nodes[at]
	x := &n.Items[d.roll(len(n.Items))]
	switch d.roll(5) {
	case 0:
		x.Key = nth(d.roll(g.keys + 2))
	case 1:
		x.Ref = other
	case 2:
		x.Key, x.Ref = g.nodes[other].Items[0].Key, other
	case 3:
		g.now[at] = byte(d.roll(2))
	case 4:
		g.nodes[at] = node.Twin(g.nodes[other])
	}
}

// well tells whether all nodes may be, each by itself.
func (g *garden) well() bool {
	for _, n := range g.nodes {
		if node.Check(n) != api.OK {
			return false
		}
	}
	return true
}

// P11.1: of gardens in which anything was turned each node has find.Check's error, or what the words tell of its tree.
func TestAsTheWordsTell(t *testing.T) {
	d := dice(11)
	may, not := 0, 0
	for round := range 500 {
		g := bare(round)
		for range 1 + d.roll(3) {
			g.full(1+d.roll(3), 1+d.roll(3))
		}
		was := g.twin()
		for range 1 + d.roll(3) {
			if g.turn(&d); !g.well() {
				g = was.twin()
			}
		}
		s := g.store()
		for _, at := range pick(g.row, 8) {
			from, to := nth(d.roll(g.keys+1)), nth(d.roll(g.keys+1))
			if _, e := find.Check(s, at); e != api.OK {
				not++
				refused(t, "by the words none", s, at, e, from, to)
				continue
			}
			may++
			c := grown(g, at)
			c.stands(t, "by the words one", s)
			has(t, "by the words one", s, at, from, to, between(c.items, from, to))
			has(t, "by the words one", s, at, next(from), before(to), between(c.items, next(from), before(to)))
		}
	}
	if may < 300 || not < 300 {
		t.Errorf("%d may be, %d not", may, not)
	}
}

// spoil turns every byte of b and of its spare room.
func spoil(b []byte) {
	b = b[:cap(b)]
	for i := range b {
		b[i] ^= 0xff
	}
}

// wreck turns all that s has, with all its spare room.
func wreck(s api.Store) {
	blocks, waits := s.Disk.Blocks[:cap(s.Disk.Blocks)], s.Disk.Waits[:cap(s.Disk.Waits)]
	for at, b := range blocks {
		spoil(b)
		blocks[at] = nil
	}
	for i, w := range waits {
		spoil(w.Data)
		waits[i] = api.Write{At: -7}
	}
	spoil(s.Now)
	spoil(s.Last)
}

// bared is s, its spare room shown as elements, in other memory.
func bared(s api.Store) api.Store {
	d := api.Disk{Blocks: slices.Clone(s.Disk.Blocks[:cap(s.Disk.Blocks)]), Waits: slices.Clone(s.Disk.Waits[:cap(s.Disk.Waits)])}
	for at, b := range d.Blocks {
		d.Blocks[at] = b[:cap(b)]
	}
	for i, w := range d.Waits {
		d.Waits[i].Data = w.Data[:cap(w.Data)]
	}
	return room.Twin(api.Store{Disk: d, Now: s.Now[:cap(s.Now)], Last: s.Last[:cap(s.Last)]})
}

// roomy is the tree's store, all lists of which have spare room.
func (c tree) roomy() api.Store {
	s := c.store()
	grow := func(b []byte) []byte { return append(b[:len(b):len(b)], some(9, 3)...)[:len(b)] }
	for at := range s.Disk.Blocks {
		s.Disk.Blocks[at] = grow(s.Disk.Blocks[at])
	}
	for i := range s.Disk.Waits {
		s.Disk.Waits[i].Data = grow(s.Disk.Waits[i].Data)
	}
	s.Disk.Blocks = append(s.Disk.Blocks, filled(5), filled(6))[:256]
	s.Disk.Waits = append(s.Disk.Waits, api.Write{At: c.root, Data: filled(7)})[:len(s.Disk.Waits)]
	s.Now, s.Last = grow(s.Now), grow(s.Last)
	return s
}

// spend turns all that was answered, and its spare room.
func spend(items []api.Item, lists ...[]int) {
	items = items[:cap(items)]
	for i, x := range items {
		spoil(x.Val)
		items[i] = api.Item{Ref: -1}
	}
	for _, l := range lists {
		l = l[:cap(l)]
		for i := range l {
			l[i] = -1
		}
	}
}

// P11.2: what is handed in, its spare room too, stays as it was, whatever is answered, and whatever is done to that.
func TestReadsAlone(t *testing.T) {
	for _, c := range tall() {
		odd, broken := c.roomy(), c.roomy()
		odd.Now = odd.Now[:255]
		broken.Now[c.row[0]] = 0
		for _, s := range []api.Store{c.roomy(), odd, broken} {
			was := bared(s)
			for _, at := range []int{c.root, c.row[0], 7, 256, -1} {
				nodes, refs, _ := walk.Nodes(s, at)
				spend(nil, nodes, refs)
				for _, k := range ends(c.items, 6) {
					l, _ := walk.Range(s, at, lowest, k)
					spend(l)
					l, _ = walk.Range(s, at, k, highest)
					spend(l)
				}
			}
			if !room.Same(bared(s), was) {
				t.Error("what was handed in, or its spare room, was turned")
			}
		}
	}
}

// P11.2: what is answered shares no memory with the store, nor with an earlier or a later answer.
func TestAnswersNewMemory(t *testing.T) {
	for _, c := range trees() {
		s := c.roomy()
		one, _ := walk.Range(s, c.root, lowest, highest)
		nodes, refs, _ := walk.Nodes(s, c.root)
		two, _ := walk.Range(s, c.root, lowest, highest)
		nodes2, refs2, _ := walk.Nodes(s, c.root)
		spend(two, nodes2, refs2)
		c.stands(t, "behind what was done to an answer", s)
		wreck(s)
		if !slices.EqualFunc(one, c.items, item.Same) || !slices.Equal(nodes, c.blocks) || !slices.Equal(refs, c.refs) {
			t.Error("what is done to a later answer, or to the store, is seen in an earlier one")
		}
	}
}

// P11.2: no two lists of one answer share any memory: neither two items' values, nor nodes and refs, even where these are the same.
func TestListsOfOneAnswer(t *testing.T) {
	for _, c := range append(trees(), tall()...) {
		s := c.store()
		l, _ := walk.Range(s, c.root, lowest, highest)
		for i := range l {
			was := item.Twin(l[i])
			spend(l[i : i+1 : i+1])
			if l[i] = was; !slices.EqualFunc(l, c.items, item.Same) {
				t.Fatalf("what is done to the value at %d is seen in another one", i)
			}
		}
	}
	g := bare(0)
	g.nodes[20], g.now[20] = api.Node{Items: []api.Item{{Key: key(1, 0), Ref: 20}}}, 1
	for range 2 {
		for _, turned := range []int{0, 1} {
			nodes, refs, _ := walk.Nodes(g.store(), 20)
			both := [][]int{nodes, refs}
			spend(nil, both[turned])
			if other := both[1-turned]; !slices.Equal(other, []int{20}) {
				t.Error("what is done to one list is seen in the other one:", other)
			}
		}
	}
}

// R2: what is answered hangs on what is handed in alone: other stores, other roots, a store that was turned between two calls.
func TestHangsOnArgumentsAlone(t *testing.T) {
	l := tall()
	for range 3 {
		for _, c := range l {
			s, small := c.store(), pair(8, 9).store()
			c.stands(t, "among others", s)
			has(t, "among others", small, 9, key(2, 0), key(4, 0), ids(2, 4))
			spans(t, "among others", small, 9, []int{8, 9}, nil)
			at := c.leaves()[0]
			s.Now[at] = 0
			refused(t, "turned", s, c.root, api.ErrBad, keysOf(c.items)...)
			s.Now[at] = 1
			g := c.twin()
			g.nodes[at].Items[0].Val, g.nodes[at].Items[0].Ref = []byte{99}, c.root
			s.Disk.Waits = append(s.Disk.Waits, api.Write{At: at, Data: block(g.nodes[at])})
			grown(g, c.root).stands(t, "written anew", s)
			copy(s.Disk.Waits[len(s.Disk.Waits)-1].Data, filled(0))
			refused(t, "written over", s, c.root, api.ErrBad, keysOf(c.items)...)
		}
	}
}

// P11.1, W3: of what is made, level by level, Nodes has the blocks that were taken for it, and what its leaves refer to; what is left again is none.
func TestMade(t *testing.T) {
	s, data, _ := room.Take(room.New(), filled(3))
	items := ids(1, 2, 3, 4, 5)
	for i := range items {
		items[i].Ref, items[i].Val = data*(i%2), some(12, i)
	}
	s, root, e := drop.Make(s, api.Node{Items: items})
	nodes := []int{root}
	for level := 1; level < 6 && e == api.OK; level++ {
		spans(t, "made", s, root, nodes, []int{data})
		has(t, "made", s, root, lowest, highest, items)
		has(t, "made", s, root, key(2, 1), key(4, 0), items[2:4])
		s, root, e = drop.Make(s, api.Node{Level: level, Items: []api.Item{{Key: key(1, 0), Ref: root}}})
		nodes = append(nodes, root)
	}
	if e != api.OK {
		t.Fatal(e)
	}
	spans(t, "made", s, root, nodes, []int{data})
	for _, at := range slices.Backward(nodes) {
		if s, e = drop.Leave(s, at); e != api.OK {
			t.Fatal(e)
		}
		refused(t, "left", s, root, api.ErrNone, key(1, 0))
	}
}

// The chapter's examples.
func TestExamples(t *testing.T) {
	s := pair(8, 9).store()
	for _, c := range []struct {
		from, to int
		want     []int
	}{{3, 9, []int{4}}, {2, 4, []int{2, 4}}, {4, 2, nil}} {
		has(t, "Range(T, 9, ..)", s, 9, key(c.from, 0), key(c.to, 0), ids(c.want...))
	}
	spans(t, "Nodes(T, 9)", s, 9, []int{8, 9}, nil)
	if l, e := walk.Range(s, 10, key(0, 0), key(0, 0)); e != api.ErrNone || len(l) > 0 {
		t.Error("Range(T, 10, 0, 0)", l, e)
	}
}

// The errors that find.Check has, and the chapter's limits, have their numbers.
func TestErrors(t *testing.T) {
	if api.ErrArg != 2 || api.ErrNone != 6 || api.ErrBad != 8 || api.First != 8 || api.Blocks != 256 || api.MaxHeight != 6 || api.MaxFan != 5 {
		t.Error(int(api.ErrArg), int(api.ErrNone), int(api.ErrBad), api.First, api.Blocks, api.MaxHeight, api.MaxFan)
	}
}
