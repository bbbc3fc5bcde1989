package put_test

import (
	"bytes"
	"cmp"
	"maps"
	"math"
	"slices"
	"testing"

	"scionry/api"
	"scionry/dev"
	"scionry/drop"
	"scionry/find"
	"scionry/item"
	"scionry/node"
	"scionry/put"
	"scionry/room"
	"scionry/sum"
	"scionry/walk"
)

// The signatures are the chapter's, to the letter.
var (
	_ func(s api.Store) (out api.Store, root int, e api.Errno)                      = put.New
	_ func(s api.Store, root int, x api.Item) (out api.Store, now int, e api.Errno) = put.Put
)

// lowest and highest are the keys at both ends.
var (
	lowest  = api.Key{}
	highest = api.Key{Kind: 255, Id: api.MaxWord, Off: api.MaxWord}
)

// strayRoots are the places of no block that may be taken: the first ones at its edges, then such of which some bytes are right.
var strayRoots = []int{-1, 0, 7, 256, 1, 4, 6, 257, -8, -248, 256 + 8, 256 + 9, 1<<16 + 9, 1 << 32, 1<<32 + 9, -1<<32 + 9, math.MaxInt, math.MinInt, math.MinInt + 9}

// key is one of kind 2.
func key(id, off int) api.Key { return api.Key{Kind: 2, Id: uint32(id), Off: uint32(off)} }

// nth is the n-th of keys that rise: many are alike but for one part, each part falls where a greater one rises, and between any two there is another one.
func nth(n int) api.Key {
	return api.Key{Kind: uint8(1 + n/32*2), Id: uint32(10 + n/8%4*2), Off: uint32(100 + n%8*2)}
}

// ahead tells by the words whether a stands ahead of b.
func ahead(a, b api.Key) bool {
	if a.Kind != b.Kind {
		return a.Kind < b.Kind
	}
	if a.Id != b.Id {
		return a.Id < b.Id
	}
	return a.Off < b.Off
}

// next is the key just behind k: only k, and what stands ahead of it, stands ahead of it; behind the highest there is none.
func next(k api.Key) api.Key {
	if k.Off++; k.Off > 0 {
		return k
	}
	if k.Id++; k.Id == 0 {
		k.Kind++
	}
	return k
}

// before is the key just ahead of k, which is not the lowest one.
func before(k api.Key) api.Key {
	if k.Off--; k.Off < api.MaxWord {
		return k
	}
	if k.Id--; k.Id == api.MaxWord {
		k.Kind--
	}
	return k
}

// filled is a block of one byte, again and again.
func filled(c byte) []byte { return bytes.Repeat([]byte{c}, 128) }

// some is many bytes that differ from place to place, and by seed.
func some(many, seed int) []byte {
	b := make([]byte, many)
	for i := range b {
		b[i] = byte(i*i*29 + i*seed + i>>1 + seed*83)
	}
	return b
}

// block is n's block.
func block(n api.Node) []byte {
	b, e := node.Write(n)
	if e != api.OK {
		panic(e)
	}
	return b
}

// ids are items of kind 2 with these Ids, and nothing else.
func ids(l ...int) []api.Item {
	var items []api.Item
	for _, id := range l {
		items = append(items, api.Item{Key: key(id, 0)})
	}
	return items
}

// garden is a store, and the nodes that are in its blocks; what grows in it has keys behind all that were given out.
type garden struct {
	s     api.Store
	nodes map[int]api.Node
	row   []int // the places of the nodes, each behind those below it
	keys  int   // how many were given out
	taken int   // how many blocks were
	seed  int
	data  []int // blocks of no nodes, to which leaves refer
	end   int   // the leaf that was laid last at the end of a way
}

// bare is a garden of no nodes, all of whose blocks differ; where blocks are taken differs by seed. Of the others two of three were counted when all was committed last.
func bare(seed int) *garden {
	g := &garden{s: room.New(), nodes: map[int]api.Node{}, seed: seed}
	for at := range g.s.Disk.Blocks {
		g.s.Disk.Blocks[at] = append(some(127, at), byte(at))
		if at > 7 {
			g.s.Last[at] = byte((at + seed) % 3 * 127)
		}
	}
	for range 3 {
		g.data = append(g.data, g.take())
	}
	return g
}

// take is the place of a block that wasn't taken.
func (g *garden) take() int {
	at := 8 + (g.taken*37+g.seed*11)%248
	g.taken++
	return at
}

// set is that node in that block; in every other one it waits to be written, over a leaf that lasts, and over others that wait.
func (g *garden) set(at int, n api.Node) {
	g.nodes[at] = n
	if at%2 == 0 {
		g.s.Disk.Blocks[at] = block(n)
		return
	}
	g.s.Disk.Blocks[at] = block(api.Node{})
	g.s.Disk.Waits = append(g.s.Disk.Waits, api.Write{At: at, Data: filled(1)}, api.Write{At: at, Data: block(n)})
}

// lay is the place of a block with that node.
func (g *garden) lay(n api.Node) int {
	at := g.take()
	g.set(at, n)
	g.row = append(g.row, at)
	return at
}

// leaf is the place of a leaf with many items; some of them refer to nothing, several to one block.
func (g *garden) leaf(many int) int {
	n := api.Node{}
	for range many {
		x := api.Item{Key: nth(g.keys), Val: some(g.keys%13, g.keys)}
		if g.keys%4 > 0 {
			x.Ref = g.data[g.keys%4-1]
		}
		n.Items = append(n.Items, x)
		g.keys++
	}
	return g.lay(n)
}

// above is the place of a node above these, all of one level.
func (g *garden) above(below ...int) int {
	n := api.Node{Level: g.nodes[below[0]].Level + 1}
	for _, at := range below {
		n.Items = append(n.Items, api.Item{Key: g.nodes[at].Items[0].Key, Ref: at})
	}
	return g.lay(n)
}

// full is the root of a tree of that level, all nodes of which have many items.
func (g *garden) full(level, many int) int {
	if level == 0 {
		return g.leaf(many)
	}
	var below []int
	for range many {
		below = append(below, g.full(level-1, many))
	}
	return g.above(below...)
}

// path is the root of a tree of that level, whose nodes along one way have five items where the level's bit of mask is set, and else few; each other node has one. Its end is the leaf on that way.
func (g *garden) path(level, mask, way, few int) int {
	many := few
	if mask>>level&1 == 1 {
		many = 5
	}
	if level == 0 {
		g.end = g.leaf(many)
		return g.end
	}
	var below []int
	for i := range many {
		if i == min(way, many-1) {
			below = append(below, g.path(level-1, mask, way, few))
		} else {
			below = append(below, g.full(level-1, 1))
		}
	}
	return g.above(below...)
}

// counts is how often each block is referred to, as the words tell it: by the nodes that are held or below those, each once, and by whoever holds these.
func (g *garden) counts(holds ...int) []byte {
	c := make([]byte, 256)
	met := map[int]int{}
	var enter func(at int)
	enter = func(at int) {
		n := g.nodes[at]
		if met[at]++; met[at] > 1 {
			return
		}
		for _, x := range n.Items {
			if x.Ref != 0 {
				c[x.Ref]++
			}
			if n.Level > 0 {
				enter(x.Ref)
			}
		}
	}
	for _, at := range holds {
		c[at]++
		if _, is := g.nodes[at]; is {
			enter(at)
		}
	}
	return c
}

// held is g, whose blocks are counted as often as they are referred to, the roots and the data being held.
func (g *garden) held(roots ...int) *garden {
	g.s.Now = g.counts(append(roots, g.data...)...)
	return g
}

// twin is g with a store, nodes and places of its own.
func (g *garden) twin() *garden {
	o := *g
	o.s, o.nodes, o.row, o.data = room.Twin(g.s), maps.Clone(g.nodes), slices.Clone(g.row), slices.Clone(g.data)
	for at, n := range g.nodes {
		o.nodes[at] = node.Twin(n)
	}
	return &o
}

// items is those of the tree at root, in order.
func (g *garden) items(root int) []api.Item {
	n := g.nodes[root]
	if n.Level == 0 {
		return n.Items
	}
	var l []api.Item
	for _, x := range n.Items {
		l = append(l, g.items(x.Ref)...)
	}
	return l
}

// with is the items with x put in, in order.
func with(items []api.Item, x api.Item) []api.Item {
	var l []api.Item
	for _, y := range items {
		if ahead(y.Key, x.Key) {
			l = append(l, y)
		}
	}
	l = append(l, x)
	for _, y := range items {
		if ahead(x.Key, y.Key) {
			l = append(l, y)
		}
	}
	return l
}

// make is an item of the node n, made in the first block that is free, as the words tell it.
func (g *garden) make(n api.Node) (api.Item, api.Errno) {
	for _, x := range n.Items {
		switch {
		case x.Ref == 0:
			continue
		case g.s.Now[x.Ref] == 0:
			return api.Item{}, api.ErrNone
		case g.s.Now[x.Ref] == 255:
			return api.Item{}, api.ErrCount
		}
		g.s.Now[x.Ref]++
	}
	for at := 8; at < 256; at++ {
		if g.s.Now[at] == 0 && g.s.Last[at] == 0 && len(g.s.Disk.Waits) < 4096 {
			g.s.Now[at], g.nodes[at] = 1, n
			g.s.Disk.Waits = append(g.s.Disk.Waits, api.Write{At: at, Data: block(n)})
			return api.Item{Key: n.Items[0].Key, Ref: at}, api.OK
		}
	}
	return api.Item{}, api.ErrFull
}

// layer is an item for each of the nodes that are made of items; fresh is those of them whose Refs were held by nobody else.
func (g *garden) layer(level int, items, fresh []api.Item) ([]api.Item, api.Errno) {
	rows := [][]api.Item{items}
	if len(items) > 5 {
		rows = [][]api.Item{items[:3], items[3:]}
	}
	var made []api.Item
	for _, l := range rows {
		x, e := g.make(api.Node{Level: level, Items: slices.Clone(l)})
		if e != api.OK {
			return nil, e
		}
		made = append(made, x)
	}
	for _, x := range fresh {
		if x.Ref != 0 {
			g.s.Now[x.Ref]--
		}
	}
	return made, api.OK
}

// by is by which of n's items the way of k goes.
func by(n api.Node, k api.Key) int {
	at := 0
	for i, y := range n.Items {
		if !ahead(k, y.Key) {
			at = i
		}
	}
	return at
}

// grow is an item for each of the new nodes instead of the one at that place, x put in.
func (g *garden) grow(at int, x api.Item) ([]api.Item, api.Errno) {
	n := g.nodes[at]
	if n.Level == 0 {
		return g.layer(0, with(n.Items, x), []api.Item{x})
	}
	i := by(n, x.Key)
	fresh, e := g.grow(n.Items[i].Ref, x)
	if e != api.OK {
		return nil, e
	}
	var l []api.Item
	l = append(l, n.Items[:i]...)
	l = append(l, fresh...)
	l = append(l, n.Items[i+1:]...)
	return g.layer(n.Level, l, fresh)
}

// bursts tells whether two nodes would be made instead of the one at that place.
func (g *garden) bursts(at int, k api.Key) bool {
	n := g.nodes[at]
	if n.Level == 0 {
		return len(with(n.Items, api.Item{Key: k})) > 5
	}
	return len(n.Items) == 5 && g.bursts(n.Items[by(n, k)].Ref, k)
}

// leave turns the counts as the words tell it, one step within the other; level is what the node there has to be, or -1 for any. It tells whether that went well.
func (g *garden) leave(at, level int) bool {
	if g.s.Now[at] == 0 {
		return false
	}
	if g.s.Now[at]--; g.s.Now[at] > 0 {
		return true
	}
	n, is := g.nodes[at]
	if !is || level >= 0 && n.Level != level {
		return false
	}
	for _, x := range n.Items {
		switch {
		case n.Level > 0:
			if !g.leave(x.Ref, n.Level-1) {
				return false
			}
		case x.Ref > 0:
			if g.s.Now[x.Ref] == 0 {
				return false
			}
			g.s.Now[x.Ref]--
		}
	}
	return true
}

// told is g with x put into the tree at root, that may be, and the new root, as the words tell it.
func (g *garden) told(root int, x api.Item) (*garden, int, api.Errno) {
	if x.Ref != 0 && g.s.Now[x.Ref] == 0 {
		return nil, 0, api.ErrNone
	}
	level := g.nodes[root].Level
	if level == 5 && g.bursts(root, x.Key) {
		return nil, 0, api.ErrTall
	}
	w := g.twin()
	l, e := w.grow(root, x)
	if e == api.OK && len(l) > 1 {
		l, e = w.layer(level+1, l, l)
	}
	if e != api.OK {
		return nil, 0, e
	}
	if !w.leave(root, -1) {
		return nil, 0, api.ErrBad
	}
	return w, l[0].Ref, api.OK
}

// nothing tells whether s is as it stands beside an error.
func nothing(s api.Store) bool {
	return len(s.Disk.Blocks) == 0 && len(s.Disk.Waits) == 0 && len(s.Now) == 0 && len(s.Last) == 0
}

// refused fails, unless Put has that error, beside nothing.
func refused(t *testing.T, what string, s api.Store, root int, x api.Item, want api.Errno) {
	t.Helper()
	was, is := room.Twin(s), item.Twin(x)
	if out, now, e := put.Put(s, root, x); e != want || now != 0 || !nothing(out) {
		t.Errorf("%s: Put at %d of %v: root %d, %d, want %d, and nothing beside", what, root, x, now, e, want)
	}
	if !room.Same(s, was) || !item.Same(x, is) {
		t.Errorf("%s: Put at %d of %v turned what was handed in", what, root, x)
	}
}

// has fails, unless these are the items of the tree at root.
func has(t *testing.T, what string, s api.Store, root int, want []api.Item) {
	t.Helper()
	l, e := walk.Range(s, root, lowest, highest)
	if e != api.OK || !slices.EqualFunc(l, want, item.Same) {
		t.Fatalf("%s: the items at %d are %v, %d, want %v", what, root, l, e, want)
	}
}

// puts fails, unless Put answers what the words tell of g, which is what is so behind it, with the new root; or their error, beside nothing: then it is nil.
func (g *garden) puts(t *testing.T, what string, root int, x api.Item) (*garden, int) {
	t.Helper()
	w, at, e := g.told(root, x)
	if e != api.OK {
		refused(t, what, g.s, root, x, e)
		return nil, 0
	}
	was, is := room.Twin(g.s), item.Twin(x)
	out, now, e := put.Put(g.s, root, x)
	if e != api.OK || now != at {
		t.Fatalf("%s: Put at %d of %v: root %d, %d, want %d", what, root, x, now, e, at)
	}
	if !bytes.Equal(out.Now, w.s.Now) {
		t.Fatalf("%s: Put at %d of %v: counts %v, want %v", what, root, x, out.Now, w.s.Now)
	}
	if !room.Same(out, w.s) {
		t.Fatalf("%s: Put at %d of %v: what is written, or what was when all was committed last, is another one", what, root, x)
	}
	if !room.Same(g.s, was) || !item.Same(x, is) {
		t.Fatalf("%s: Put at %d of %v turned what was handed in", what, root, x)
	}
	w.s = out
	return w, now
}

// grows fails, unless Put goes well, as puts tells, and what is answered may be a tree of the items there were, and x; at most two blocks a level, and one, are written.
func (g *garden) grows(t *testing.T, what string, root int, x api.Item) (*garden, int) {
	t.Helper()
	w, now := g.puts(t, what, root, x)
	if w == nil {
		t.Fatalf("%s: Put at %d of %v does not go well", what, root, x)
	}
	old := g.items(root)
	levels := g.nodes[root].Level + 1
	if height, e := find.Check(w.s, now); e != api.OK || height < levels || height > levels+1 {
		t.Fatalf("%s: behind Put at %d of %v: height %d, %d", what, root, x, height, e)
	}
	if many := len(w.s.Disk.Waits) - len(g.s.Disk.Waits); many < levels || many > 2*levels+1 {
		t.Fatalf("%s: Put at %d of %v wrote %d blocks at %d levels", what, root, x, many, levels)
	}
	has(t, what, w.s, now, with(old, x))
	if y, e := find.Find(w.s, now, x.Key); e != api.OK || !item.Same(x, y) {
		t.Fatalf("%s: %v is not found: %v, %d", what, x, y, e)
	}
	return w, now
}

// tree is one that may be, of a garden.
type tree struct {
	*garden
	root int
}

// trees are of all heights, with nodes of no item, of one, of five, and of some between.
func trees() []tree {
	var l []tree
	for many := range 6 {
		g := bare(many)
		root := g.full(0, many)
		l = append(l, tree{g.held(root), root})
	}
	for _, c := range []struct{ level, many int }{{1, 1}, {1, 2}, {1, 5}, {2, 1}, {2, 3}, {2, 5}, {3, 1}, {3, 2}, {3, 3}, {4, 1}, {4, 2}, {5, 1}, {5, 2}} {
		g := bare(c.level + c.many)
		root := g.full(c.level, c.many)
		l = append(l, tree{g.held(root), root})
	}
	return append(l, combs()...)
}

// combs are trees of more than one level, with nodes of five items along one way.
func combs() []tree {
	var l []tree
	for level := 1; level < 6; level++ {
		for way := range 5 {
			g := bare(level*5 + way)
			root := g.path(level, 63, way, 1)
			l = append(l, tree{g.held(root), root})
		}
	}
	return l
}

// pick is some of l: all of it, or about many, the first and the last one too.
func pick[T any](l []T, many int) []T {
	step := len(l)/many + 1
	var out []T
	for i, x := range l {
		if i%step == 0 || i == len(l)-1 {
			out = append(out, x)
		}
	}
	return out
}

// ends are keys to put into a tree of those items: those of some of the items, those just ahead of these and just behind, and such as differ from them in one part.
func ends(items []api.Item, many int) []api.Key {
	l := []api.Key{lowest, highest}
	for _, x := range pick(items, many) {
		k := x.Key
		l = append(l, k, before(k), next(k), api.Key{Kind: k.Kind + 1, Id: k.Id, Off: k.Off}, api.Key{Kind: k.Kind, Id: k.Id - 1, Off: k.Off}, api.Key{Kind: k.Kind, Id: k.Id, Off: k.Off + 4})
	}
	return l
}

// P12.1: New makes a leaf without items, in the first block that is free, which is held once: drop.Make of it.
func TestNew(t *testing.T) {
	for at := 8; at < 256; at++ {
		s := bare(at).s
		for i := 8; i < 256; i++ {
			s.Now[i], s.Last[i] = byte(i%3), byte((i+1)%3%2)
			if i < at {
				s.Now[i] = max(s.Now[i], 1-s.Last[i])
			}
		}
		s.Now[at], s.Last[at] = 0, 0
		was := room.Twin(s)
		want, where, f := drop.Make(s, api.Node{})
		out, root, e := put.New(s)
		if e != api.OK || f != api.OK || root != at || where != at || !room.Same(out, want) {
			t.Fatalf("New: root %d, %d, want %d", root, e, at)
		}
		if n, e := room.Node(out, root); e != api.OK || !node.Same(n, api.Node{}) || out.Now[at] != 1 || len(out.Disk.Waits) != 1 {
			t.Errorf("New: at %d there is %v, %d, counted %d times", at, n, e, out.Now[at])
		}
		has(t, "New", out, root, nil)
		if height, e := find.Check(out, root); e != api.OK || height != 1 {
			t.Error("New: height", height, e)
		}
		if !room.Same(s, was) {
			t.Error("New turned what was handed in")
		}
	}
	out, root, e := put.New(waiting(room.New(), 4095))
	if e != api.OK || root != 8 || len(out.Disk.Waits) != 4096 {
		t.Error("New, room for one write", root, e)
	}
}

// P12.1: New has drop.Make's error, beside nothing: ErrBad of a store that may not be, then ErrFull.
func TestNewRefused(t *testing.T) {
	pinned, counted := room.New(), room.New()
	for at := 8; at < 256; at++ {
		pinned.Last[at] = byte(1 + at%255)
		counted.Now[at] = byte(1 + at%255)
	}
	full := []api.Store{pinned, counted, waiting(room.New(), 4096), waiting(pinned, 4096)}
	for i, s := range append(odds(), full...) {
		want := api.ErrBad
		if i >= len(odds()) {
			want = api.ErrFull
		}
		was := room.Twin(s)
		if out, root, e := put.New(s); e != want || root != 0 || !nothing(out) {
			t.Errorf("New of store %d: root %d, %d, want %d", i, root, e, want)
		}
		if _, _, e := drop.Make(s, api.Node{}); e != want {
			t.Errorf("drop.Make: %d, want %d", e, want)
		}
		if !room.Same(s, was) {
			t.Error("New turned what was handed in")
		}
	}
}

// P12.2, P12.4: an item put into trees of all heights: with a key that is there, just ahead of one and behind it, between two leaves, ahead of all and behind all; its Ref is 0, or handed on. Each block is counted behind it as often as it is referred to.
func TestTrees(t *testing.T) {
	for _, c := range trees() {
		for i, k := range ends(c.items(c.root), 4) {
			x := api.Item{Key: k, Val: some(i%13, i)}
			if i%4 > 0 {
				x.Ref = c.data[i%4-1]
			}
			if c.nodes[c.root].Level == 5 && c.bursts(c.root, k) {
				refused(t, "too high", c.s, c.root, x, api.ErrTall)
				continue
			}
			w, now := c.grows(t, "a tree", c.root, x)
			holds := slices.DeleteFunc(slices.Clone(c.data), func(at int) bool { return at == x.Ref })
			if want := w.counts(append(holds, now)...); !bytes.Equal(w.s.Now, want) {
				t.Fatalf("%v put in: counts %v, want %v", x, w.s.Now, want)
			}
			if w.s.Now[c.root] != 0 {
				t.Errorf("%v put in: the old root is counted", x)
			}
		}
	}
}

// leafOf is a store with a leaf of items with these Ids at 8, held once.
func leafOf(t *testing.T, l ...int) (api.Store, int) {
	t.Helper()
	s, root, e := drop.Make(room.New(), api.Node{Items: ids(l...)})
	if e != api.OK {
		t.Fatal(e)
	}
	return s, root
}

// shows fails, unless these are the Ids of the items of the nodes of the tree at root, level by level from the root down.
func shows(t *testing.T, what string, s api.Store, root int, want ...[]int) {
	t.Helper()
	var got [][]int
	row := []int{root}
	for len(row) > 0 {
		var below []int
		for _, at := range row {
			n, e := room.Node(s, at)
			if e != api.OK {
				t.Fatalf("%s: no node at %d: %d", what, at, e)
			}
			var l []int
			for _, x := range n.Items {
				l = append(l, int(x.Key.Id))
				if n.Level > 0 {
					below = append(below, x.Ref)
				}
			}
			got = append(got, l)
		}
		row = below
	}
	if !slices.EqualFunc(got, want, slices.Equal) {
		t.Errorf("%s: %v, want %v", what, got, want)
	}
}

// P12.2: leaves without items, with one, with four and with five, by hand: at each place of the leaf, and instead of each item.
func TestLeavesByHand(t *testing.T) {
	for _, c := range []struct {
		leaf []int
		id   int
		want [][]int
	}{
		{nil, 5, [][]int{{5}}},
		{[]int{4}, 3, [][]int{{3, 4}}}, {[]int{4}, 4, [][]int{{4}}}, {[]int{4}, 5, [][]int{{4, 5}}},
		{[]int{2, 4, 6, 8}, 1, [][]int{{1, 2, 4, 6, 8}}}, {[]int{2, 4, 6, 8}, 2, [][]int{{2, 4, 6, 8}}}, {[]int{2, 4, 6, 8}, 3, [][]int{{2, 3, 4, 6, 8}}},
		{[]int{2, 4, 6, 8}, 5, [][]int{{2, 4, 5, 6, 8}}}, {[]int{2, 4, 6, 8}, 6, [][]int{{2, 4, 6, 8}}}, {[]int{2, 4, 6, 8}, 7, [][]int{{2, 4, 6, 7, 8}}},
		{[]int{2, 4, 6, 8}, 8, [][]int{{2, 4, 6, 8}}}, {[]int{2, 4, 6, 8}, 9, [][]int{{2, 4, 6, 8, 9}}},
		{[]int{2, 4, 6, 8, 10}, 1, [][]int{{1, 6}, {1, 2, 4}, {6, 8, 10}}}, {[]int{2, 4, 6, 8, 10}, 3, [][]int{{2, 6}, {2, 3, 4}, {6, 8, 10}}},
		{[]int{2, 4, 6, 8, 10}, 5, [][]int{{2, 6}, {2, 4, 5}, {6, 8, 10}}}, {[]int{2, 4, 6, 8, 10}, 7, [][]int{{2, 7}, {2, 4, 6}, {7, 8, 10}}},
		{[]int{2, 4, 6, 8, 10}, 9, [][]int{{2, 8}, {2, 4, 6}, {8, 9, 10}}}, {[]int{2, 4, 6, 8, 10}, 11, [][]int{{2, 8}, {2, 4, 6}, {8, 10, 11}}},
		{[]int{2, 4, 6, 8, 10}, 2, [][]int{{2, 4, 6, 8, 10}}}, {[]int{2, 4, 6, 8, 10}, 6, [][]int{{2, 4, 6, 8, 10}}}, {[]int{2, 4, 6, 8, 10}, 10, [][]int{{2, 4, 6, 8, 10}}},
	} {
		s, root := leafOf(t, c.leaf...)
		x := api.Item{Key: key(c.id, 0), Val: []byte{7}}
		out, now, e := put.Put(s, root, x)
		if e != api.OK {
			t.Fatal(c.leaf, c.id, e)
		}
		shows(t, "a leaf", out, now, c.want...)
		has(t, "a leaf", out, now, with(ids(c.leaf...), x))
		// The leaf's new nodes are taken in order, then the one above.
		nodes, _, e := walk.Nodes(out, now)
		if want := []int{9, 10, 11}[:len(c.want)]; e != api.OK || now != want[len(want)-1] || !slices.Equal(nodes, want) || out.Now[8] != 0 {
			t.Errorf("%d into %v: nodes %v, root %d", c.id, c.leaf, nodes, now)
		}
	}
}

// tower is a garden with a tree whose leaves have these Ids, at a level that is one chunk of five after the other.
func tower(leaves ...[]int) (*garden, int) {
	g := bare(3)
	var row []int
	for _, l := range leaves {
		row = append(row, g.lay(api.Node{Items: ids(l...)}))
	}
	for len(row) > 1 {
		var up []int
		for l := range slices.Chunk(row, 5) {
			up = append(up, g.above(l...))
		}
		row = up
	}
	return g.held(row[0]), row[0]
}

// P12.2: the way by hand: between two leaves it goes to the one ahead, ahead of all to the first one; nodes above get the new first keys, and two items instead of one.
func TestWayByHand(t *testing.T) {
	few := [][]int{{10, 20}, {30, 40}, {50}}
	five := [][]int{{10, 20, 30, 40, 50}, {60}, {70}, {80}, {90, 92, 94, 96, 98}}
	for _, c := range []struct {
		leaves [][]int
		id     int
		want   [][]int
	}{
		{few, 5, [][]int{{5, 30, 50}, {5, 10, 20}, {30, 40}, {50}}},
		{few, 10, [][]int{{10, 30, 50}, {10, 20}, {30, 40}, {50}}},
		{few, 15, [][]int{{10, 30, 50}, {10, 15, 20}, {30, 40}, {50}}},
		{few, 25, [][]int{{10, 30, 50}, {10, 20, 25}, {30, 40}, {50}}},
		{few, 29, [][]int{{10, 30, 50}, {10, 20, 29}, {30, 40}, {50}}},
		{few, 30, [][]int{{10, 30, 50}, {10, 20}, {30, 40}, {50}}},
		{few, 31, [][]int{{10, 30, 50}, {10, 20}, {30, 31, 40}, {50}}},
		{few, 45, [][]int{{10, 30, 50}, {10, 20}, {30, 40, 45}, {50}}},
		{few, 50, [][]int{{10, 30, 50}, {10, 20}, {30, 40}, {50}}},
		{few, 55, [][]int{{10, 30, 50}, {10, 20}, {30, 40}, {50, 55}}},
		{five, 5, [][]int{{5, 70}, {5, 30, 60}, {70, 80, 90}, {5, 10, 20}, {30, 40, 50}, {60}, {70}, {80}, {90, 92, 94, 96, 98}}},
		{five, 35, [][]int{{10, 70}, {10, 35, 60}, {70, 80, 90}, {10, 20, 30}, {35, 40, 50}, {60}, {70}, {80}, {90, 92, 94, 96, 98}}},
		{five, 59, [][]int{{10, 70}, {10, 40, 60}, {70, 80, 90}, {10, 20, 30}, {40, 50, 59}, {60}, {70}, {80}, {90, 92, 94, 96, 98}}},
		{five, 99, [][]int{{10, 80}, {10, 60, 70}, {80, 90, 96}, {10, 20, 30, 40, 50}, {60}, {70}, {80}, {90, 92, 94}, {96, 98, 99}}},
		{five, 85, [][]int{{10, 60, 70, 80, 90}, {10, 20, 30, 40, 50}, {60}, {70}, {80, 85}, {90, 92, 94, 96, 98}}},
		{five, 94, [][]int{{10, 60, 70, 80, 90}, {10, 20, 30, 40, 50}, {60}, {70}, {80}, {90, 92, 94, 96, 98}}},
		{[][]int{{10}, {20, 22, 24, 26, 28}, {30}, {40}}, 29, [][]int{{10, 20, 26, 30, 40}, {10}, {20, 22, 24}, {26, 28, 29}, {30}, {40}}},
		{[][]int{{10}, {20}, {30}, {40}, {50}, {60}}, 15, [][]int{{10, 60}, {10, 20, 30, 40, 50}, {60}, {10, 15}, {20}, {30}, {40}, {50}, {60}}},
		{[][]int{{10}, {20}, {30}, {40}, {50, 52, 54, 56, 58}, {60}}, 59, [][]int{{10, 40, 60}, {10, 20, 30}, {40, 50, 56}, {60}, {10}, {20}, {30}, {40}, {50, 52, 54}, {56, 58, 59}, {60}}},
	} {
		g, root := tower(c.leaves...)
		x := api.Item{Key: key(c.id, 0), Val: some(12, c.id)}
		w, now := g.grows(t, "by hand", root, x)
		shows(t, "by hand", w.s, now, c.want...)
	}
}

// P12.2, P12.4: full nodes on the way at the leaf alone, at some levels, at all, and at none, at heights 1 to 6: two nodes are made of each full one from the leaf up to the first that is not full; the tree is higher just if all are full; ErrTall where it may not be. With a key that is there one is made a level.
func TestFullNodes(t *testing.T) {
	for level := range 6 {
		for mask := range 2 << level {
			for _, way := range []int{0, 2, 4} {
				g := bare(mask + way)
				root := g.path(level, mask, way, 2+mask%3)
				g.held(root)
				l := g.nodes[g.end].Items
				fresh, there := api.Item{Key: next(l[way%len(l)].Key)}, api.Item{Key: l[way%len(l)].Key, Ref: g.data[1]}
				twos := 0
				for mask>>twos&1 == 1 {
					twos++
				}
				if level == 5 && twos == 6 {
					refused(t, "full nodes at all of six levels", g.s, root, fresh, api.ErrTall)
				} else {
					w, now := g.grows(t, "full nodes", root, fresh)
					written, height := level+1+twos, level+1
					if twos == height {
						written, height = written+1, height+1
					}
					if many := len(w.s.Disk.Waits) - len(g.s.Disk.Waits); many != written || w.nodes[now].Level != height-1 {
						t.Errorf("level %d, full at %b: %d were written, %d high, want %d, %d", level, mask, many, w.nodes[now].Level+1, written, height)
					}
				}
				w, now := g.grows(t, "full nodes, and a key that is there", root, there)
				if many := len(w.s.Disk.Waits) - len(g.s.Disk.Waits); many != level+1 || w.nodes[now].Level != level {
					t.Errorf("level %d, full at %b: %d were written, %d high", level, mask, many, w.nodes[now].Level+1)
				}
			}
		}
	}
}

// P12.2: a key ahead of all is the new first key on each level; one behind it leaves these as they were.
func TestNewFirstKey(t *testing.T) {
	for _, c := range trees() {
		items := c.items(c.root)
		if len(items) == 0 || c.nodes[c.root].Level == 5 && c.bursts(c.root, lowest) {
			continue
		}
		first := items[0].Key
		for _, k := range []api.Key{lowest, before(first), first, next(first)} {
			w, at := c.grows(t, "ahead of all", c.root, api.Item{Key: k, Val: []byte{1}})
			want := k
			if ahead(first, k) {
				want = first
			}
			for level := w.nodes[at].Level; level >= 0; level-- {
				n, e := room.Node(w.s, at)
				if e != api.OK || n.Level != level || n.Items[0].Key != want {
					t.Errorf("%v put in: at level %d there is %v, %d, want %v first", k, level, n, e, want)
				}
				at = n.Items[0].Ref
			}
		}
	}
}

// P12.2: an item instead of the one that has its key: its Ref and its Val stand there, what the old one referred to is counted once less; whichever of both is 0, and where both are the same.
func TestInstead(t *testing.T) {
	for _, c := range trees() {
		for i, y := range pick(c.items(c.root), 2) {
			for _, ref := range append([]int{0, y.Ref}, c.data...) {
				x := api.Item{Key: y.Key, Ref: ref, Val: some((i+ref)%13, ref)}
				w, now := c.grows(t, "instead of another one", c.root, x)
				want := bytes.Clone(c.s.Now)
				want[y.Ref]--
				for _, at := range c.data {
					if w.s.Now[at] != want[at] {
						t.Errorf("%v instead of %v: block %d is counted %d times, want %d", x, y, at, w.s.Now[at], want[at])
					}
				}
				again, _ := w.grows(t, "the same once more", now, api.Item{Key: y.Key, Val: some(3, i)})
				if ref != 0 && again.s.Now[ref] != w.s.Now[ref]-1 {
					t.Errorf("%v instead, and gone: block %d is counted %d times", x, ref, again.s.Now[ref])
				}
			}
		}
	}
}

// P12.2: what x refers to is held by whoever calls: that is handed on, so its count stays, at each count but 255; but each other item of the new leaves counts once more while the old leaf is held.
func TestHandedOn(t *testing.T) {
	for _, c := range trees() {
		for _, count := range []byte{1, 2, 128, 254, 255} {
			g := c.twin()
			at := g.take()
			g.s.Now[at] = count
			for _, k := range []api.Key{lowest, next(nth(0)), nth(0), highest} {
				x := api.Item{Key: k, Ref: at, Val: some(12, int(count))}
				if g.nodes[c.root].Level == 5 && g.bursts(c.root, k) {
					continue
				}
				if count == 255 {
					refused(t, "counted as often as may be", g.s, c.root, x, api.ErrCount)
					continue
				}
				w, now := g.grows(t, "handed on", c.root, x)
				if w.s.Now[at] != count {
					t.Errorf("handed on: counted %d times, want %d", w.s.Now[at], count)
				}
				if count > 1 {
					w, _ = w.grows(t, "and instead of itself", now, api.Item{Key: k, Ref: at})
					if w.s.Now[at] != count-1 {
						t.Errorf("and instead of itself: counted %d times, want %d", w.s.Now[at], count-1)
					}
				}
			}
		}
	}
}

// P12.2, W2: a root that is held more often stays with all that is below it; what both trees have is counted for both, and is as it was.
func TestHeldMoreOften(t *testing.T) {
	for _, c := range trees() {
		for _, more := range []int{1, 254} {
			g := c.twin()
			holds := append(slices.Repeat([]int{c.root}, more+1), g.data...)
			g.s.Now = g.counts(holds...)
			for i, k := range ends(g.items(c.root), 1) {
				x := api.Item{Key: k, Val: []byte{byte(i)}, Ref: g.data[i%3] * (i % 2)}
				if g.nodes[c.root].Level == 5 && g.bursts(c.root, k) {
					refused(t, "too high", g.s, c.root, x, api.ErrTall)
					continue
				}
				w, now := g.grows(t, "held more often", c.root, x)
				has(t, "the old one", w.s, c.root, g.items(c.root))
				holds := append(slices.Repeat([]int{c.root}, more), now)
				for _, at := range g.data {
					if at != x.Ref {
						holds = append(holds, at)
					}
				}
				if want := w.counts(holds...); !bytes.Equal(w.s.Now, want) {
					t.Errorf("%v put in: counts %v, want %v", x, w.s.Now, want)
				}
			}
		}
	}
}

// P12.4, W2: a tree that shares nodes with another one: put into each, the other has the same items in the same nodes, and each block is counted for both.
func TestShared(t *testing.T) {
	for level := 1; level < 6; level++ {
		g := bare(level)
		var below []int
		for range 4 {
			below = append(below, g.full(level-1, 1+level%2))
		}
		roots := []int{g.above(below...), g.above(below[0], below[1], below[3]), g.above(below[1], below[2]), below[3]}
		g.held(roots...)
		for i, root := range roots {
			for _, k := range ends(g.items(root), 3) {
				x := api.Item{Key: k, Ref: g.data[i%3]}
				w, now := g.grows(t, "shared", root, x)
				holds := []int{now}
				for j, other := range roots {
					if j != i {
						holds = append(holds, other)
						has(t, "the other one", w.s, other, g.items(other))
						nodes, _, _ := walk.Nodes(g.s, other)
						if behind, _, e := walk.Nodes(w.s, other); e != api.OK || !slices.Equal(nodes, behind) {
							t.Errorf("the other one: nodes %v, %d, were %v", behind, e, nodes)
						}
					}
				}
				for _, at := range g.data {
					if at != x.Ref {
						holds = append(holds, at)
					}
				}
				if want := w.counts(holds...); !bytes.Equal(w.s.Now, want) {
					t.Errorf("%v put in: counts %v, want %v", x, w.s.Now, want)
				}
			}
		}
	}
}

// P12.2: an item whose Ref is the root itself, or a block of the tree, be it on the way or not, held for that once more, or not; the oldest or the newest item of all.
func TestRefOfTheTree(t *testing.T) {
	for _, c := range append(trees()[1:16], combs()[20:]...) {
		items := c.items(c.root)
		for _, ref := range pick(c.row, 7) {
			for _, k := range []api.Key{items[0].Key, before(items[0].Key), items[len(items)-1].Key, highest} {
				if c.nodes[c.root].Level == 5 && c.bursts(c.root, k) {
					continue
				}
				x := api.Item{Key: k, Ref: ref, Val: []byte{9}}
				g := c.twin()
				g.puts(t, "a block of the tree that is not held for that", c.root, x)
				g.s.Now[ref]++
				w, now := g.grows(t, "a block of the tree", c.root, x)
				has(t, "what is there", w.s, ref, g.items(ref))
				// Behind that it is an item's: put instead of, it is counted once less, and what it refers to stays.
				w.puts(t, "instead of it", now, api.Item{Key: k})
			}
		}
	}
	g := bare(1)
	root := g.full(0, 2)
	g.held(root)
	w, now := g.puts(t, "the root, held once", root, api.Item{Key: nth(0), Ref: root})
	if w.s.Now[root] != 0 || w.s.Now[now] != 1 {
		t.Error("the root, held once", w.s.Now[root], w.s.Now[now])
	}
	g.s.Now[root] = 2
	w, now = g.grows(t, "the root, held twice", root, api.Item{Key: nth(0), Ref: root})
	if w.s.Now[root] != 1 || w.s.Now[now] != 1 {
		t.Error("the root, held twice", w.s.Now[root], w.s.Now[now])
	}
}

// waiting is s, and many writes wait for its disk, none of them for a block of a tree.
func waiting(s api.Store, many int) api.Store {
	s.Disk, _ = dev.Barrier(s.Disk)
	b := filled(1)
	for i := range many {
		s.Disk.Waits = append(s.Disk.Waits, api.Write{At: i % 8, Data: b})
	}
	return s
}

// pair is a leaf with the keys 2 and 4 at 8, and a node above it at 9, each held once.
func pair() *garden {
	g := bare(0)
	g.set(8, api.Node{Items: ids(2, 4)})
	g.set(9, api.Node{Level: 1, Items: []api.Item{{Key: key(2, 0), Ref: 8}}})
	g.row, g.s.Now = []int{8, 9}, g.counts(9)
	return g
}

// odds are stores that may not be: for their disk alone, for Now, for Last, for several of them; 9 is the root of a tree in them, but for that.
func odds() []api.Store {
	l := []api.Store{{}, waiting(pair().s, 4097)}
	for _, turn := range []func(s *api.Store){
		func(s *api.Store) { s.Disk = api.Disk{} },
		func(s *api.Store) { s.Disk.Blocks = s.Disk.Blocks[:255] },
		func(s *api.Store) { s.Disk.Blocks = append(s.Disk.Blocks, filled(1)) },
		func(s *api.Store) { s.Disk.Blocks[7] = nil },
		func(s *api.Store) { s.Disk.Blocks[255] = s.Disk.Blocks[255][:127] },
		func(s *api.Store) { s.Disk.Blocks[20] = append(s.Disk.Blocks[20], 0) },
		func(s *api.Store) { s.Disk.Waits = append(s.Disk.Waits, api.Write{At: 256, Data: filled(1)}) },
		func(s *api.Store) { s.Disk.Waits = append(s.Disk.Waits, api.Write{At: -1, Data: filled(1)}) },
		func(s *api.Store) { s.Disk.Waits = append(s.Disk.Waits, api.Write{At: 20, Data: filled(1)[1:]}) },
		func(s *api.Store) { s.Disk.Waits = slices.Insert(s.Disk.Waits, 0, api.Write{At: 9}) },
		func(s *api.Store) { s.Now = nil },
		func(s *api.Store) { s.Now = s.Now[:255] },
		func(s *api.Store) { s.Now = s.Now[:10] },
		func(s *api.Store) { s.Now = append(s.Now, 0) },
		func(s *api.Store) { s.Now[0] = 1 },
		func(s *api.Store) { s.Now[7] = 255 },
		func(s *api.Store) { s.Last = nil },
		func(s *api.Store) { s.Last = s.Last[:255] },
		func(s *api.Store) { s.Last = append(s.Last, 0) },
		func(s *api.Store) { s.Last[0] = 255 },
		func(s *api.Store) { s.Last[7] = 1 },
		func(s *api.Store) { s.Now, s.Last = nil, nil },
		func(s *api.Store) { s.Disk, s.Now = api.Disk{}, nil },
		func(s *api.Store) { s.Disk, s.Last = api.Disk{}, nil },
	} {
		s := pair().s
		turn(&s)
		l = append(l, s)
	}
	return l
}

// wrongItems are items that may not be.
func wrongItems() []api.Item {
	l := []api.Item{{Val: make([]byte, 13)}, {Ref: 8, Val: make([]byte, 13)}, {Key: key(2, 0), Val: make([]byte, 256)}, {Key: key(9, 0), Ref: 200, Val: make([]byte, 128+13)}}
	for _, ref := range []int{-1, 1, 4, 7, 256, -8, -248, 257, 256 + 8, 1 << 16, 1<<16 + 8, 1<<32 + 8, math.MinInt, math.MaxInt, math.MinInt + 8} {
		l = append(l, api.Item{Ref: ref}, api.Item{Key: key(2, 0), Ref: ref, Val: []byte{1}}, api.Item{Key: highest, Ref: ref, Val: make([]byte, 13)})
	}
	return l
}

// P12.2: ErrBad of a store that may not be comes first, whatever the root and the item are.
func TestStoreMayNotBe(t *testing.T) {
	pair().grows(t, "but for what is turned", 9, ids(3)[0])
	g := pair()
	g.s = waiting(g.s, 4000)
	g.grows(t, "many writes wait", 9, ids(3)[0])
	for _, s := range odds() {
		for _, root := range append([]int{8, 9, 10, 255}, strayRoots...) {
			refused(t, "a store that may not be", s, root, ids(3)[0], api.ErrBad)
			refused(t, "a store that may not be", s, root, api.Item{Ref: 200}, api.ErrBad)
		}
		refused(t, "a store that may not be", s, 7, wrongItems()[0], api.ErrBad)
	}
}

// P12.2: ErrArg of a root that is not from 8 to 255, then ErrNone of one whose count is 0, be it free or pinned, though a tree stands there; whatever the item is.
func TestRoots(t *testing.T) {
	g := pair()
	for at := range 8 {
		g.s.Disk.Blocks[at] = block(g.nodes[8])
	}
	items := append(wrongItems()[:6], ids(3)[0], ids(2)[0], api.Item{Ref: 200}, api.Item{Ref: 8})
	for _, x := range items {
		for root := -10; root < 270; root++ {
			if root < 8 || root > 255 {
				refused(t, "no such block", g.s, root, x, api.ErrArg)
			} else if root > 9 {
				refused(t, "nobody holds it", g.s, root, x, api.ErrNone)
			}
		}
		for _, root := range strayRoots {
			refused(t, "no such block", g.s, root, x, api.ErrArg)
		}
		for _, last := range []byte{0, 1, 255} {
			for _, root := range []int{8, 9} {
				s := room.Twin(g.s)
				s.Now[root], s.Last[root] = 0, last
				refused(t, "nobody holds it", s, root, x, api.ErrNone)
			}
		}
	}
	for at := 8; at < 256; at++ {
		s := room.New()
		s.Disk.Blocks[at], s.Now[at] = block(api.Node{Items: ids(2)}), 1
		out, now, e := put.Put(s, at, ids(3)[0])
		if want := 8 + 9/(at+1); e != api.OK || now != want || out.Now[at] != 0 {
			t.Errorf("a root at %d: %d, %d, want %d", at, now, e, want)
		}
		shows(t, "a root anywhere", out, now, []int{2, 3})
	}
}

// notNodes are blocks of no node.
func notNodes() [][]byte {
	other, _ := sum.Seal([]byte{77, 0, 0})
	x, _ := item.Write(api.Item{Key: nth(0), Ref: 8})
	high, _ := sum.Seal(append([]byte{78, 6, 1}, x...))
	none, _ := sum.Seal([]byte{78, 1, 0})
	behind, _ := sum.Seal([]byte{78, 0, 0, 1})
	odd := block(api.Node{Items: []api.Item{{Key: nth(0)}}})
	odd[60] ^= 1
	return [][]byte{filled(0), filled(78), some(128, 2), other, high, none, behind, odd}
}

// P12.2: find.Check's ErrBad, beside nothing, of what is no tree, on the way or off it; whatever the item is.
func TestNoTree(t *testing.T) {
	for _, c := range []tree{combs()[3], combs()[13], combs()[22]} {
		items := c.items(c.root)
		for i, at := range c.row {
			n := c.nodes[at]
			turns := []api.Node{{}, {Items: ids(9)}, {Level: n.Level, Items: slices.Clone(n.Items)}, {Level: (n.Level + 1) % 6, Items: []api.Item{{Key: n.Items[0].Key, Ref: at}}}}
			turns[2].Items[0].Key = before(n.Items[0].Key)
			var wrong []api.Store
			for _, m := range turns {
				g := c.twin()
				g.set(at, m)
				wrong = append(wrong, g.s)
			}
			noNode, none := c.twin(), c.twin()
			noNode.s.Disk.Waits = append(noNode.s.Disk.Waits, api.Write{At: at, Data: notNodes()[i%8]})
			none.s.Now[at] = 0
			wrong = append(wrong, noNode.s, none.s)
			for _, s := range wrong {
				if _, e := find.Check(s, c.root); e != api.OK {
					refused(t, "no tree", s, c.root, items[i%len(items)], e)
					refused(t, "no tree", s, c.root, api.Item{Key: next(items[i%len(items)].Key)}, e)
					refused(t, "no tree", s, c.root, wrongItems()[i%len(wrongItems())], e)
					refused(t, "no tree", s, c.root, api.Item{Key: lowest, Ref: none.take()}, e)
				} else if at != c.root {
					t.Errorf("a node at %d was turned, and it is a tree", at)
				}
			}
		}
	}
	for _, b := range notNodes() {
		s := room.New()
		s.Disk.Blocks[8], s.Now[8] = b, 1
		refused(t, "no node", s, 8, ids(1)[0], api.ErrBad)
		refused(t, "no node", s, 8, api.Item{Ref: 9}, api.ErrBad)
	}
	for level := 1; level < 6; level++ {
		g := bare(level)
		g.s.Now[8] = 200
		g.set(8, api.Node{Level: level, Items: []api.Item{{Key: nth(0), Ref: 8}}})
		refused(t, "a round", g.s, 8, api.Item{Key: nth(0)}, api.ErrBad)
	}
}

// P12.2: item.Check's ErrBad of an item that may not be, at its edges; what may be just goes well.
func TestItems(t *testing.T) {
	for _, c := range trees() {
		for _, x := range wrongItems() {
			refused(t, "an item that may not be", c.s, c.root, x, api.ErrBad)
		}
	}
	for many := range 13 {
		for _, k := range []api.Key{lowest, key(2, 0), key(3, 0), highest} {
			pair().grows(t, "any key, and as many bytes", 9, api.Item{Key: k, Val: some(many, many)})
		}
	}
	for ref := 8; ref < 256; ref++ {
		g := pair()
		g.s.Now[ref]++
		g.grows(t, "any Ref", 9, api.Item{Key: key(3, 0), Ref: ref})
	}
}

// P12.2: ErrNone of a Ref whose count is 0, be it free or pinned, and though that very block would be taken first.
func TestRefOfNone(t *testing.T) {
	for _, c := range trees() {
		free, e := room.Free(c.s)
		if e != api.OK {
			t.Fatal(e)
		}
		for ref := 8; ref < 256; ref++ {
			if c.s.Now[ref] == 0 && (ref < free[4] || ref%50 == 5) {
				refused(t, "nobody holds that", c.s, c.root, api.Item{Key: lowest, Ref: ref}, api.ErrNone)
				refused(t, "nobody holds that", c.s, c.root, api.Item{Key: nth(0), Ref: ref, Val: some(12, 1)}, api.ErrNone)
			}
		}
	}
}

// only is g's store with no more than so many blocks free.
func (g *garden) only(many int) api.Store {
	s := room.Twin(g.s)
	free, _ := room.Free(s)
	for _, at := range free[many:] {
		s.Last[at] = 1
	}
	return s
}

// P12.2: ErrFull, as long as fewer blocks are free, or fewer writes may wait, than are to be written; with just enough of them it goes well, though what is left comes free by it.
func TestFull(t *testing.T) {
	for _, c := range append(trees()[:15], combs()[4], combs()[11], combs()[17], combs()[23]) {
		for _, k := range []api.Key{lowest, next(nth(0)), nth(0)} {
			x := api.Item{Key: k, Ref: c.data[2]}
			w, _, e := c.told(c.root, x)
			if e != api.OK {
				continue
			}
			need := len(w.s.Disk.Waits) - len(c.s.Disk.Waits)
			for many := range need + 2 {
				few, waits := c.twin(), c.twin()
				few.s, waits.s = c.only(many), waiting(waits.s, 4096-many)
				for _, g := range []*garden{few, waits} {
					if many < need {
						refused(t, "too few", g.s, c.root, x, api.ErrFull)
					} else {
						g.grows(t, "just enough", c.root, x)
					}
				}
			}
		}
	}
}

// P12.2: a block on the way is shared no more, and may be counted 255 times; each other one below the same node, and what the items beside x refer to, counts once more: ErrCount, if it is at 255.
func TestCountedTooOften(t *testing.T) {
	for _, c := range append(trees()[6:14], combs()...) {
		items := c.items(c.root)
		for _, k := range []api.Key{items[0].Key, items[len(items)/2].Key, highest} {
			if c.nodes[c.root].Level == 5 && c.bursts(c.root, k) {
				continue
			}
			at := c.root
			for n := c.nodes[at]; n.Level > 0; n = c.nodes[at] {
				i := by(n, k)
				for j, y := range n.Items {
					g := c.twin()
					g.s.Now[y.Ref] = 255
					if j == i {
						g.grows(t, "on the way, at 255", c.root, api.Item{Key: k})
						continue
					}
					refused(t, "beside the way, at 255", g.s, c.root, api.Item{Key: k}, api.ErrCount)
					g.s.Now[y.Ref] = 254
					g.grows(t, "beside the way, at 254", c.root, api.Item{Key: k})
				}
				at = n.Items[i].Ref
			}
		}
	}
}

// P12.2: the counts of what the items of the leaf refer to, by hand: so often they count more till the old leaf is left.
func TestCountsByHand(t *testing.T) {
	for _, c := range []struct {
		refs        []int // the leaf's; its keys are 0, 10, 20 and so on
		id, ref     int
		more, after int // by how much the count of 200 is higher in between, and behind
	}{
		{[]int{200}, 5, 0, 1, 0}, {[]int{200}, 0, 0, 0, -1}, {[]int{200}, 0, 200, 1, -1}, {[]int{200}, 5, 200, 2, 0}, {[]int{0}, 5, 200, 1, 0}, {[]int{0}, 0, 200, 1, 0},
		{[]int{200, 200}, 20, 0, 2, 0}, {[]int{200, 200}, 10, 0, 1, -1}, {[]int{200, 200}, 10, 200, 2, -1}, {[]int{200, 0, 200}, 10, 200, 3, 0}, {[]int{200, 201, 200}, 10, 0, 2, 0},
		{[]int{200, 200, 200, 200, 200}, 40, 201, 4, -1}, {[]int{200, 200, 200, 200, 200}, 20, 200, 5, -1}, {[]int{200, 200, 200, 200, 200}, 45, 0, 5, 0}, {[]int{200, 200, 200, 200, 200}, 5, 201, 5, 0},
		{[]int{0, 0, 200, 200, 200}, 5, 0, 3, 0}, {[]int{0, 0, 0, 0, 0}, 5, 200, 1, 0}, {[]int{201, 201, 201, 201, 200}, 35, 0, 1, 0},
	} {
		for count := max(1, 248-c.more); count < 256; count++ {
			g := bare(1)
			n := api.Node{}
			for i, ref := range c.refs {
				n.Items = append(n.Items, api.Item{Key: key(10*i, 0), Ref: ref})
			}
			g.set(100, n)
			g.s.Now[100], g.s.Now[200], g.s.Now[201] = 1, byte(count), 99
			x := api.Item{Key: key(c.id, 0), Ref: c.ref}
			if count+c.more > 255 {
				refused(t, "once too often", g.s, 100, x, api.ErrCount)
				continue
			}
			w, _ := g.grows(t, "not too often", 100, x)
			if w.s.Now[200] != byte(count+c.after) {
				t.Errorf("%v: counted %d times, and behind that %d times", c, count, w.s.Now[200])
			}
			g.s.Now[100] = 2
			if c.ref != 200 {
				w, _ = g.grows(t, "and the old one stays", 100, x)
				if w.s.Now[200] != byte(count+c.more) {
					t.Errorf("%v: counted %d times, and with the old one %d times", c, count, w.s.Now[200])
				}
			}
		}
	}
}

// P12.2: of several errors of drop.Make the first one tells, from the leaf up: of each node its Refs' counts, then whether there is room.
func TestMakesInOrder(t *testing.T) {
	for _, c := range combs()[5:] {
		items := c.items(c.root)
		k := items[len(items)-1].Key
		for level := 1; level <= c.nodes[c.root].Level; level++ {
			at := c.root
			for c.nodes[at].Level > level {
				at = c.nodes[at].Items[by(c.nodes[at], k)].Ref
			}
			beside := c.nodes[at].Items[0].Ref
			if by(c.nodes[at], k) == 0 {
				continue
			}
			g := c.twin()
			g.s.Now[beside] = 255
			for many := range 8 {
				want := api.ErrFull
				if many >= level {
					want = api.ErrCount
				}
				s := g.only(many)
				refused(t, "too often at a level", s, c.root, api.Item{Key: k}, want)
				refused(t, "too often at a level", waiting(s, 4096), c.root, api.Item{Key: k}, api.ErrFull)
			}
		}
		g := c.twin()
		g.s.Now[c.data[0]] = 255
		refused(t, "too often at the leaf, and no room", g.only(0), c.root, api.Item{Key: k, Ref: c.data[0]}, api.ErrCount)
	}
}

// P12.2: drop.Leave's ErrBad, where what the old item referred to is counted too few times: it is the root, or another node of the way, which goes ahead of it. It comes behind drop.Make's errors.
func TestCountedTooFewTimes(t *testing.T) {
	for _, c := range append(trees()[1:14], combs()...) {
		g := c.twin()
		items := g.items(c.root)
		k := items[len(items)-1].Key
		l := []int{c.root}
		for n := g.nodes[c.root]; n.Level > 0; n = g.nodes[l[len(l)-1]] {
			l = append(l, n.Items[by(n, k)].Ref)
		}
		leaf := l[len(l)-1]
		for _, ref := range l {
			g := c.twin()
			n := g.nodes[leaf]
			n.Items[len(n.Items)-1].Ref = ref
			g.set(leaf, n)
			x := api.Item{Key: k, Val: []byte{3}}
			refused(t, "counted once", g.s, c.root, x, api.ErrBad)
			refused(t, "counted once, and no room", g.only(0), c.root, x, api.ErrFull)
			w, now := g.puts(t, "the old root stays", c.root, api.Item{Key: next(k)})
			if w != nil {
				has(t, "another key", w.s, now, with(g.items(c.root), api.Item{Key: next(k)}))
			}
			g.s.Now[ref]++
			g.grows(t, "counted twice", c.root, x)
			g.s.Now[ref]--
			g.s.Now[c.root]++
			g.grows(t, "the root stays", c.root, x)
		}
	}
}

// P12.2: of several errors that one comes that stands first, whichever others there are.
func TestErrorsInOrder(t *testing.T) {
	type ask struct {
		g    *garden
		s    api.Store
		root int
		x    api.Item
	}
	faults := []struct {
		what string
		want api.Errno
		turn func(a *ask)
	}{
		{"a store that may not be", api.ErrBad, func(a *ask) { a.s.Last = a.s.Last[:255] }},
		{"no such root", api.ErrArg, func(a *ask) { a.root = 7 }},
		{"nobody holds the root", api.ErrNone, func(a *ask) { a.s.Now[a.root] = 0 }},
		{"no tree", api.ErrBad, func(a *ask) {
			a.s.Disk.Waits = append(a.s.Disk.Waits, api.Write{At: a.g.row[3], Data: filled(0)})
		}},
		{"an item that may not be", api.ErrBad, func(a *ask) { a.x.Val = make([]byte, 13) }},
		{"nobody holds its Ref", api.ErrNone, func(a *ask) { a.x.Ref = 8 + slices.Index(a.s.Now[8:], 0) }},
		{"too high", api.ErrTall, func(a *ask) { a.x.Key = next(a.x.Key) }},
		{"counted too often", api.ErrCount, func(a *ask) { a.s.Now[a.g.data[1]] = 255 }},
		{"no room", api.ErrFull, func(a *ask) {
			for i, c := range a.s.Now[8:] {
				if c == 0 {
					a.s.Last[8+i] = 1
				}
			}
		}},
		{"counted too few times", api.ErrBad, func(a *ask) {
			n := a.g.nodes[a.g.end]
			n.Items[2].Ref = a.root
			a.s.Disk.Waits = append(a.s.Disk.Waits, api.Write{At: a.g.end, Data: block(n)})
		}},
	}
	g := bare(2)
	root := g.path(5, 63, 3, 1)
	n := g.nodes[g.end]
	n.Items[1].Ref = g.data[1]
	g.set(g.end, n)
	g.held(root)
	for mask := range 1 << len(faults) {
		c := g.twin()
		a := ask{c, c.s, root, api.Item{Key: n.Items[2].Key, Val: []byte{1}}}
		what, want := "", api.OK
		for i, f := range slices.Backward(faults) {
			if mask>>i&1 == 1 {
				f.turn(&a)
				what, want = f.what+"; "+what, f.want
			}
		}
		if want != api.OK {
			refused(t, what, a.s, a.root, a.x, want)
		} else {
			c.grows(t, "no fault", root, a.x)
		}
	}
}

// dice are numbers that look like chance, but are the same each time.
type dice uint32

// roll is a number below n.
func (d *dice) roll(n int) int {
	*d = *d*1664525 + 1013904223
	return int(*d>>8) % n
}

// plot is a garden with volumes: whose trees they are, and what is in them.
type plot struct {
	*garden
	dice
	vols []vol
}

// vol is a tree that is held, and its items.
type vol struct {
	root  int
	items []api.Item
}

// ref is a block that is held for an item: none, one that is taken anew, or one that an item has already.
func (p *plot) ref(t *testing.T) int {
	t.Helper()
	var e api.Errno
	at := 0
	switch p.roll(4) {
	case 0:
		if p.s, at, e = room.Take(p.s, some(128, p.roll(99))); e != api.OK {
			t.Fatal(e)
		}
		delete(p.nodes, at)
	case 1:
		l := p.vols[p.roll(len(p.vols))].items
		if len(l) == 0 || l[len(l)/2].Ref == 0 {
			return 0
		}
		at = l[len(l)/2].Ref
		if p.s, e = room.Share(p.s, at); e != api.OK {
			t.Fatal(e)
		}
	}
	return at
}

// plant puts an item into some volume.
func (p *plot) plant(t *testing.T) {
	t.Helper()
	i := p.roll(len(p.vols))
	v := &p.vols[i]
	x := api.Item{Key: nth(p.roll(120)), Val: some(p.roll(13), p.roll(99)), Ref: p.ref(t)}
	g, now := p.grows(t, "a plot", v.root, x)
	p.garden, v.root, v.items = g, now, with(v.items, x)
}

// fell leaves some volume.
func (p *plot) fell(t *testing.T) {
	t.Helper()
	i := p.roll(len(p.vols))
	s, e := drop.Leave(p.s, p.vols[i].root)
	if e != api.OK {
		t.Fatal(e)
	}
	p.s, p.vols = s, slices.Delete(p.vols, i, i+1)
}

// copy holds some volume's tree once more.
func (p *plot) copy(t *testing.T) {
	t.Helper()
	v := p.vols[p.roll(len(p.vols))]
	s, e := room.Share(p.s, v.root)
	if e != api.OK {
		t.Fatal(e)
	}
	p.s, p.vols = s, append(p.vols, v)
}

// settle commits all: what was counted by then is not free before the next time.
func (p *plot) settle() {
	p.s.Disk, _ = dev.Barrier(p.s.Disk)
	p.s.Last = bytes.Clone(p.s.Now)
}

// stands fails, unless each volume has its items, and each block is counted as often as it is referred to.
func (p *plot) stands(t *testing.T) {
	t.Helper()
	var holds []int
	for _, v := range p.vols {
		has(t, "a volume", p.s, v.root, v.items)
		holds = append(holds, v.root)
	}
	if want := p.counts(holds...); !bytes.Equal(p.s.Now, want) {
		t.Fatalf("counts %v, want %v", p.s.Now, want)
	}
}

// P12.1, P12.2, P12.4, W2, W3: behind each of many steps each volume has what was put into it, whatever was put into others that share blocks with it, and each block is counted as often as it is referred to; when all is left, nothing is.
func TestPlot(t *testing.T) {
	p := plot{garden: bare(0), dice: 5}
	p.s = room.New()
	highest, most := 0, 0
	for step := range 700 {
		free, e := room.Free(p.s)
		if e != api.OK {
			t.Fatal(e)
		}
		switch k := p.roll(40); {
		case len(p.vols) == 0 || k == 0 && len(p.vols) < 6 && len(free) > 0:
			s, root, e := put.New(p.s)
			if e != api.OK {
				t.Fatal(step, e)
			}
			p.s, p.nodes[root] = s, api.Node{}
			p.vols = append(p.vols, vol{root: root})
		case k < 3 && len(p.vols) < 6:
			p.copy(t)
		case len(free) < 20 && step%2 == 0:
			p.fell(t)
		case len(free) < 20 || k == 3:
			p.settle()
		default:
			p.plant(t)
		}
		p.stands(t)
		most = max(most, len(p.vols))
		for _, v := range p.vols {
			highest = max(highest, p.nodes[v.root].Level)
		}
	}
	if highest < 3 || most < 6 {
		t.Errorf("up to level %d, %d volumes: too few to tell", highest, most)
	}
	for len(p.vols) > 0 {
		p.fell(t)
	}
	if p.stands(t); !bytes.Equal(p.s.Now, make([]byte, 256)) {
		t.Error("all was left, but not all is gone", p.s.Now)
	}
}

// P12.4, W6: many keys that rise, that fall, that come from both sides, and in between: all are there in order, in a tree of four levels or five, each node of which but the root has three items or more.
func TestManyKeys(t *testing.T) {
	for what, of := range map[string]func(i int) int{
		"rising":     func(i int) int { return i },
		"falling":    func(i int) int { return 2000 - i },
		"by turns":   func(i int) int { return 1000 + i*(1-i%2*2) },
		"in between": func(i int) int { return i * 347 % 1009 },
	} {
		s, root, e := put.New(room.New())
		var items []api.Item
		for i := range 160 {
			x := api.Item{Key: key(of(i)/7, of(i)%7), Val: some(i%13, i)}
			if s, root, e = put.Put(s, root, x); e != api.OK {
				t.Fatal(what, i, e)
			}
			if items = with(items, x); i%40 == 39 {
				has(t, what, s, root, items)
			}
			if len(s.Disk.Waits) > 300 {
				s.Disk, _ = dev.Barrier(s.Disk)
			}
		}
		if height, e := find.Check(s, root); e != api.OK || height < 4 || height > 5 {
			t.Errorf("%s: %d high, %d", what, height, e)
		}
		nodes, _, _ := walk.Nodes(s, root)
		for _, at := range nodes {
			if n, e := room.Node(s, at); e != api.OK || len(n.Items) < 3 && at != root {
				t.Errorf("%s: at %d there is %v, %d", what, at, n, e)
			}
		}
	}
}

// spoil turns every byte of b and of its spare room.
func spoil(b []byte) {
	b = b[:cap(b)]
	for i := range b {
		b[i] ^= 0xff
	}
}

// lists is all lists of bytes that s has.
func lists(s api.Store) [][]byte {
	l := append(slices.Clone(s.Disk.Blocks), s.Now, s.Last)
	for _, w := range s.Disk.Waits {
		l = append(l, w.Data)
	}
	return l
}

// wreck turns all that s has, with all its spare room.
func wreck(s api.Store) {
	for _, b := range lists(s) {
		spoil(b)
	}
	clear(s.Disk.Blocks[:cap(s.Disk.Blocks)])
	clear(s.Disk.Waits[:cap(s.Disk.Waits)])
}

// bared is s, its spare room shown as elements, in other memory.
func bared(s api.Store) api.Store {
	d := api.Disk{Blocks: slices.Clone(s.Disk.Blocks[:cap(s.Disk.Blocks)]), Waits: slices.Clone(s.Disk.Waits[:cap(s.Disk.Waits)])}
	for at, b := range d.Blocks {
		d.Blocks[at] = b[:cap(b)]
	}
	for i, w := range d.Waits {
		d.Waits[i].Data = w.Data[:cap(w.Data)]
	}
	return room.Twin(api.Store{Disk: d, Now: s.Now[:cap(s.Now)], Last: s.Last[:cap(s.Last)]})
}

// roomy is the garden's store, all lists of which have spare room.
func (g *garden) roomy() api.Store {
	s := room.Twin(g.s)
	grow := func(b []byte) []byte { return append(b[:len(b):len(b)], some(9, 3)...)[:len(b)] }
	for at := range s.Disk.Blocks {
		s.Disk.Blocks[at] = grow(s.Disk.Blocks[at])
	}
	for i := range s.Disk.Waits {
		s.Disk.Waits[i].Data = grow(s.Disk.Waits[i].Data)
	}
	s.Disk.Blocks = append(s.Disk.Blocks, filled(5), filled(6))[:256]
	s.Disk.Waits = append(s.Disk.Waits, api.Write{At: 20, Data: filled(7)})[:len(s.Disk.Waits)]
	s.Now, s.Last = grow(s.Now), grow(s.Last)
	return s
}

// asks are calls that go well, of a tree's store, with such items; each item's value has spare room.
func (c tree) asks() []func(s api.Store) (api.Store, api.Errno) {
	l := []func(s api.Store) (api.Store, api.Errno){func(s api.Store) (api.Store, api.Errno) {
		s, _, e := put.New(s)
		return s, e
	}}
	for i, k := range ends(c.items(c.root), 1) {
		x := api.Item{Key: k, Ref: c.data[i%3], Val: some(12, i)[:5]}
		if _, _, e := c.told(c.root, x); e == api.OK {
			l = append(l, func(s api.Store) (api.Store, api.Errno) {
				s, _, e := put.Put(s, c.root, x)
				return s, e
			})
		}
	}
	return l
}

// some trees of different heights, for what is to be held against all that memory has.
func few() []tree {
	return []tree{trees()[0], trees()[3], trees()[5], combs()[2], combs()[14], combs()[21]}
}

// P12.3: what is handed in, its spare room too, stays as it was, whatever is answered, and whatever is done to that.
func TestReadsAlone(t *testing.T) {
	for _, c := range few() {
		odd, broken, full := c.roomy(), c.roomy(), c.roomy()
		odd.Now = odd.Now[:255]
		broken.Now[c.row[0]] = 0
		for at := 8; at < 256; at++ {
			full.Last[at] = 1
		}
		for _, s := range []api.Store{c.roomy(), odd, broken, full} {
			was := bared(s)
			for _, ask := range c.asks() {
				out, _ := ask(s)
				wreck(out)
			}
			for _, root := range []int{c.root, 7, 256, -1, c.data[0]} {
				for i, k := range []api.Key{lowest, nth(0), next(nth(0)), highest} {
					for _, ref := range []int{0, c.data[0], 5, 255} {
						x := api.Item{Key: k, Ref: ref, Val: some(20, i)[:8+i*2]}
						val := bytes.Clone(x.Val[:cap(x.Val)])
						out, _, _ := put.Put(s, root, x)
						wreck(out)
						if !bytes.Equal(x.Val[:cap(x.Val)], val) {
							t.Error("the item's value, or its spare room, was turned")
						}
					}
				}
			}
			if !room.Same(bared(s), was) {
				t.Error("what was handed in, or its spare room, was turned")
			}
		}
	}
}

// P12.3: what is done to a store that is answered is seen nowhere, and the other way; nor is what is done to the item.
func TestNewMemory(t *testing.T) {
	for _, c := range few() {
		for _, ask := range c.asks() {
			s := c.roomy()
			was := bared(s)
			first, e := ask(s)
			second, f := ask(s)
			if e != api.OK || f != api.OK {
				t.Fatal(e, f)
			}
			want := room.Twin(first)
			wreck(second)
			if !room.Same(first, want) || !room.Same(bared(s), was) {
				t.Error("what is done to an answer is seen in an earlier one, or in the argument")
			}
			if third, e := ask(s); e != api.OK || !room.Same(third, want) {
				t.Error("a later answer is another one")
			}
			wreck(s)
			if !room.Same(first, want) {
				t.Error("what is done to the argument is seen in the answer")
			}
		}
		x := api.Item{Key: next(nth(0)), Val: some(12, 3)}
		if _, _, e := c.told(c.root, x); e == api.OK {
			w, now := c.grows(t, "an item", c.root, x)
			is := item.Twin(x)
			spoil(x.Val)
			has(t, "what is done to the item", w.s, now, with(c.items(c.root), is))
		}
	}
}

// P12.3: no two lists of a store that is answered share memory, their spare room neither, though those that are handed in do.
func TestSharesNothing(t *testing.T) {
	for _, leaf := range [][]int{nil, {2, 4}, {2, 4, 6, 8, 10}} {
		counts := make([]byte, 256)
		counts[100], counts[101] = 1, 1
		leafs := block(api.Node{Items: ids(leaf...)})
		s := api.Store{Disk: api.Disk{Blocks: slices.Repeat([][]byte{counts[128:]}, 256)}, Now: counts, Last: counts}
		s.Disk.Waits = []api.Write{{At: 100, Data: leafs}, {At: 99, Data: leafs}, {At: 7, Data: counts[:128]}, {At: 6, Data: counts[128:]}}
		for i := range 2 {
			out, _, e := put.New(s)
			if i == 1 {
				out, _, e = put.Put(s, 100, api.Item{Key: key(5, 0), Ref: 101, Val: leafs[:12]})
			}
			if e != api.OK || room.Check(out) != api.OK {
				t.Fatal(e)
			}
			all, then := lists(out), lists(room.Twin(out))
			for i, b := range all {
				spoil(b)
				many := 0
				for j, c := range all {
					if !bytes.Equal(c, then[j]) {
						many++
					}
				}
				if spoil(b); many != 1 {
					t.Fatalf("what is done to list %d is seen in %d", i, many)
				}
			}
		}
	}
}

// R2: what is answered hangs on what is handed in alone: other stores, other roots, a store that was turned between two calls.
func TestHangsOnArgumentsAlone(t *testing.T) {
	l := []tree{trees()[12], combs()[7], combs()[22]}
	for range 3 {
		for i, c := range l {
			items := c.items(c.root)
			x := api.Item{Key: items[i].Key, Val: some(7, i), Ref: c.data[i]}
			c.grows(t, "among others", c.root, x)
			pair().grows(t, "among others", 9, ids(3)[0])
			if _, root, e := put.New(room.New()); e != api.OK || root != 8 {
				t.Error("New among others", root, e)
			}
			g := c.twin()
			g.s.Now[c.row[0]] = 0
			refused(t, "turned", g.s, c.root, x, api.ErrBad)
			g.s.Now[c.row[0]] = 1
			n := g.nodes[c.row[0]]
			n.Items[0].Val = []byte{99}
			g.set(c.row[0], n)
			g.grows(t, "written anew", c.root, x)
			g.s.Now[c.data[i]] = 0
			_, want := find.Check(g.s, c.root)
			refused(t, "turned once more", g.s, c.root, x, cmp.Or(want, api.ErrNone))
		}
	}
}

// P12.2: of gardens in which anything was turned Put has find.Check's error, or answers what the words tell.
func TestAsTheWordsTell(t *testing.T) {
	d := dice(17)
	errs := map[api.Errno]int{}
	for round := range 400 {
		g := bare(round)
		root := g.path(1+d.roll(3), d.roll(16), d.roll(5), 1+d.roll(4))
		g.held(root)
		was := g.twin()
		for range d.roll(4) {
			if g.turn(&d); !g.well() {
				g = was.twin()
			}
		}
		g.s = g.only(d.roll(10))
		for range 4 {
			x := api.Item{Key: nth(d.roll(g.keys + 1)), Val: some(d.roll(13), round), Ref: g.data[d.roll(3)] * d.roll(2)}
			if d.roll(2) == 0 {
				x.Key = next(x.Key)
			}
			switch d.roll(12) {
			case 0:
				x.Ref = g.row[d.roll(len(g.row))]
			case 1:
				x.Ref = 8 + d.roll(248)
			}
			if _, e := find.Check(g.s, root); e != api.OK {
				errs[e]++
				refused(t, "by the words none", g.s, root, x, e)
				continue
			}
			_, _, e := g.told(root, x)
			errs[e]++
			g.puts(t, "by the words one", root, x)
		}
	}
	for _, e := range []api.Errno{api.OK, api.ErrNone, api.ErrBad, api.ErrFull, api.ErrCount} {
		if errs[e] < 10 {
			t.Errorf("too few to tell: %v", errs)
		}
	}
}

// turn does something to a node, or to a count.
func (g *garden) turn(d *dice) {
	at, other := g.row[d.roll(len(g.row))], g.row[d.roll(len(g.row))]
	n := node.Twin(g.nodes[at])
	x := &n.Items[d.roll(len(n.Items))]
	switch d.roll(6) {
	case 0:
		x.Key = nth(d.roll(g.keys + 2))
	case 1:
		x.Ref = other
	case 2:
		x.Ref = g.data[d.roll(3)]
	case 3:
		g.s.Now[at] = []byte{0, 1, 2, 254, 255}[d.roll(5)]
	case 4, 5:
		g.s.Now[g.data[d.roll(3)]] = []byte{0, 1, 2, 253, 254, 255}[d.roll(6)]
	}
	if node.Check(n) == api.OK {
		g.set(at, n)
	}
}

// well tells whether all nodes may be, each by itself.
func (g *garden) well() bool {
	for _, n := range g.nodes {
		if node.Check(n) != api.OK {
			return false
		}
	}
	return true
}

// The chapter's examples.
func TestExamples(t *testing.T) {
	s, root, e := put.New(room.New())
	if e != api.OK || root != 8 {
		t.Fatal("New", root, e)
	}
	s, root, e = put.Put(s, 8, ids(2)[0])
	if free, _ := room.Free(s); e != api.OK || root != 9 || free[0] != 8 {
		t.Error("Put(New, 8, key 2)", root, e)
	}
	s, root, e = put.Put(s, 9, api.Item{Key: key(2, 0), Val: []byte{7}})
	if e != api.OK || root != 8 {
		t.Error("Put(that, 9, key 2 with another Val)", root, e)
	}
	has(t, "Put(that, 9, key 2 with another Val)", s, 8, []api.Item{{Key: key(2, 0), Val: []byte{7}}})
	refused(t, "Put(.., Ref 99)", s, 8, api.Item{Key: key(3, 0), Ref: 99}, api.ErrNone)
	refused(t, "Put(.., root 200)", s, 200, ids(3)[0], api.ErrNone)
	s, root, _ = put.New(room.New())
	for id := 1; id < 7; id++ {
		if s, root, e = put.Put(s, root, ids(id)[0]); e != api.OK {
			t.Fatal(id, e)
		}
	}
	if height, e := find.Check(s, root); e != api.OK || height != 2 {
		t.Error("six keys: height", height, e)
	}
	shows(t, "six keys", s, root, []int{1, 4}, []int{1, 2, 3}, []int{4, 5, 6})
}

// The chapter's errors, and its limits, have its numbers.
func TestErrors(t *testing.T) {
	if api.ErrArg != 2 || api.ErrNone != 6 || api.ErrBad != 8 || api.ErrFull != 9 || api.ErrCount != 70 || api.ErrTall != 120 {
		t.Error(int(api.ErrArg), int(api.ErrNone), int(api.ErrBad), int(api.ErrFull), int(api.ErrCount), int(api.ErrTall))
	}
	if api.Blocks != 256 || api.First != 8 || api.MaxFan != 5 || api.MaxHeight != 6 || api.MaxVal != 12 || api.MaxWaits != 4096 {
		t.Error(api.Blocks, api.First, api.MaxFan, api.MaxHeight, api.MaxVal, api.MaxWaits)
	}
}
