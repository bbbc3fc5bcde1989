package forest_test

import (
	"bytes"
	"fmt"
	"maps"
	"slices"
	"testing"

	"scionry/api"
	"scionry/dev"
	"scionry/drop"
	"scionry/find"
	"scionry/forest"
	"scionry/node"
	"scionry/put"
	"scionry/room"
	"scionry/walk"
)

// The signatures are the chapter's, to the letter.
var (
	_ func() api.Pool                                      = forest.New
	_ func(p api.Pool) api.Errno                           = forest.Check
	_ func(p api.Pool) ([]api.Volume, api.Errno)           = forest.Vols
	_ func(p api.Pool, id uint32) (api.Volume, api.Errno)  = forest.Vol
	_ func(p api.Pool, v api.Volume) (api.Pool, api.Errno) = forest.Set
	_ func(p api.Pool, id uint32) (api.Pool, api.Errno)    = forest.Unset
	_ func(p api.Pool) ([]int, api.Errno)                  = forest.Refs
	_ func(p api.Pool) ([]int, api.Errno)                  = forest.Nodes
	_ func(a, b api.Pool) bool                             = forest.Same
	_ func(p api.Pool) api.Pool                            = forest.Twin
)

// P14.1: a new pool is an empty store with an empty tree, Gen 0, Next 1, nothing in Dead; it may be, and there is nothing in it.
func TestNew(t *testing.T) {
	store, root, e := put.New(room.New())
	if e != api.OK {
		t.Fatal(e)
	}
	p := forest.New()
	if want := (api.Pool{Store: store, Gen: 0, Root: root, Next: 1}); !same(p, want) || root != 8 || len(p.Dead) != 0 {
		t.Errorf("New: Gen %d, Root %d, Next %d, Dead %v, or its store is another one", p.Gen, p.Root, p.Next, p.Dead)
	}
	refs := make([]int, 256)
	refs[8] = 1
	shows(t, "New", p, nil, refs, []int{8})
	for _, id := range ids(p) {
		unsetRefused(t, "New", p, id, api.ErrNone)
	}
	wreck(p)
	if q := forest.New(); !room.Same(q.Store, store) {
		t.Error("what was done to a new pool is seen in the next one")
	}
}

// P14.1, P14.2: pools of 0 to 16 volumes, in forests of all shapes: they may be, and all that is told of them is what was laid.
func TestPools(t *testing.T) {
	highest := 0
	for _, g := range plots() {
		g.stands(t, "a pool")
		highest = max(highest, g.nodes[g.p.Root].Level)
	}
	if highest < 4 {
		t.Errorf("up to level %d: too few to tell", highest)
	}
	grove().stands(t, "a grove")
	small().stands(t, "a small one")
}

// P14.1: at most 16 volumes; with one more, or with many more, a pool may not be.
func TestTooManyVolumes(t *testing.T) {
	for _, many := range []int{15, 16, 17, 18, 30, 64} {
		for fan := 2; fan < 6; fan++ {
			g := bare(fan)
			root := g.tree(0, 1)
			for i := range many {
				g.vol(uint32(i+1), root)
			}
			g.p.Next = 1000
			if g.plant(fan).settle(); many > 16 {
				refused(t, "too many volumes", g.p)
			} else {
				g.stands(t, "not too many volumes")
			}
		}
	}
}

// P14.1: the Id of each volume is from 1 to Next less 1, so with Next 0 or 1 there is none.
func TestIds(t *testing.T) {
	edges := []uint32{0, 1, 2, 3, 4, 255, 256, 257, 1<<31 - 1, 1 << 31, 1<<31 + 1, api.MaxWord - 1, api.MaxWord}
	for _, next := range edges {
		g := bare(int(next % 7))
		g.p.Next = next
		g.plant(1).settle()
		g.stands(t, "no volume, any Next")
		for _, id := range edges {
			g := bare(int(id % 5))
			g.vol(id, g.tree(1, 2))
			g.p.Next = next
			if g.plant(1).settle(); id > 0 && id < next {
				g.stands(t, "an Id that may be")
			} else {
				refused(t, "an Id that may not be", g.p)
			}
			if id == 0 || id > 1<<31 {
				continue
			}
			// Behind one that may be, and ahead of one.
			for _, l := range [][]uint32{{1, id + 1}, {id, id + 1}} {
				g := bare(3)
				for _, id := range l {
					g.vol(id, g.tree(0, 1))
				}
				g.p.Next = next
				if g.plant(2).settle(); id < api.MaxWord && id+1 < next {
					g.stands(t, "two Ids that may be")
				} else {
					refused(t, "two Ids, one of which may not be", g.p)
				}
			}
		}
	}
}

// P14.1: each item of the forest is a volume's: its Kind, Off, Ref, how many bytes its Val has, and Frozen are as they have to be, among others that are right, ahead and behind, too.
func TestItemsMayNotBe(t *testing.T) {
	turns := map[string]func(g *garden, x *api.Item){}
	for _, kind := range []uint8{0, 2, 3, 4, 128, 255} {
		turns[fmt.Sprint("its Kind ", kind)] = func(g *garden, x *api.Item) { x.Key.Kind = kind }
	}
	for _, off := range []uint32{1, 2, 256, 1 << 31, api.MaxWord} {
		turns[fmt.Sprint("its Off ", off)] = func(g *garden, x *api.Item) { x.Key.Off = off }
	}
	turns["its Ref, to data"] = func(g *garden, x *api.Item) { x.Ref = g.data[0] }
	turns["its Ref, to a node"] = func(g *garden, x *api.Item) { x.Ref = g.row[0] }
	turns["its Ref, to its Root"] = func(g *garden, x *api.Item) { x.Ref = int(x.Val[0]) }
	for many := range 13 {
		if many < 7 {
			turns[fmt.Sprint("its Val, too short: ", many)] = func(g *garden, x *api.Item) { x.Val = x.Val[:many] }
		} else if many > 7 {
			turns[fmt.Sprint("its Val, too long: ", many)] = func(g *garden, x *api.Item) { x.Val = append(x.Val, make([]byte, many-7)...) }
		}
	}
	for _, frozen := range []byte{2, 3, 4, 127, 128, 129, 254, 255} {
		turns[fmt.Sprint("Frozen ", frozen)] = func(g *garden, x *api.Item) { x.Val[2] = frozen }
	}
	turns["nothing"] = func(g *garden, x *api.Item) {}
	for what, turn := range turns {
		for many := 1; many < 7; many += 2 {
			for i := range many {
				g := bare(many + i)
				var items []api.Item
				for id := range many {
					g.vol(uint32(id+1), g.tree(id%2, 2))
					items = append(items, tells(g.vols[id]))
				}
				turn(g, &items[i])
				slices.SortFunc(items, func(a, b api.Item) int {
					return int(a.Key.Kind)<<40 + int(a.Key.Id) - int(b.Key.Kind)<<40 - int(b.Key.Id)
				})
				g.wild(1+many%5, items...).settle()
				for at := 8; at < 256; at++ {
					g.p.Store.Now[at] = min(g.p.Store.Now[at], 250) + 2
				}
				if what == "nothing" {
					g.stands(t, what)
					continue
				}
				if _, e := find.Check(g.p.Store, g.p.Root); e != api.OK {
					t.Fatal(what, e)
				}
				refused(t, what, g.p)
			}
		}
	}
}

// P14.1, P14.2: each field of a volume is told, at its edges, too: a Root at each place, both marks, From of any number.
func TestFields(t *testing.T) {
	for at := 8; at < 256; at++ {
		g := bare(1)
		g.set(at, api.Node{Items: []api.Item{{Key: nth(0)}}})
		forest := 8 + (at+1-8)%248
		g.vols = []api.Volume{{Id: uint32(at % 90), Root: at, Frozen: at%2 == 0, From: uint32(at * 77777777)}}
		g.set(forest, api.Node{Items: []api.Item{tells(g.vols[0])}})
		g.p.Root, g.data = forest, nil
		if g.settle(); at%90 == 0 {
			refused(t, "Id 0", g.p)
		} else {
			g.stands(t, "a Root anywhere")
		}
	}
	for _, from := range []uint32{0, 1, 2, 7, 99, 255, 256, 65535, 65536, 1<<24 - 1, 1 << 24, 0x01020304, 1 << 31, api.MaxWord - 1, api.MaxWord} {
		for _, frozen := range []bool{false, true} {
			g := bare(int(from % 9))
			g.vols = []api.Volume{{Id: 7, Root: g.tree(0, 2), Frozen: frozen, From: from}}
			g.plant(1).settle()
			g.stands(t, "From any one")
		}
	}
}

// P14.1: a volume's Root where no tree may be: no block that may be taken, a block that is counted 0 times, one of no node, a node below which something is wrong.
func TestRootsOfVolumes(t *testing.T) {
	for _, root := range []int{0, 1, 4, 7, 256, 257, 256 + 8, 511, 512, 1 << 15, 65535, 65535 - 255 + 8} {
		for many := 1; many < 5; many++ {
			for i := range many {
				g := bare(many)
				for id := range many {
					g.vol(uint32(id+1), g.tree(0, 1))
				}
				g.vols[i].Root = root
				g.plant(2)
				g.vols[i].Root = 200
				g.settle()
				refused(t, "a Root that is no block", g.p)
			}
		}
	}
	for _, c := range wrong() {
		g := bare(5)
		g.vol(1, g.tree(1, 2))
		at := c.lay(g)
		g.vol(2, at)
		g.vol(5, g.tree(0, 1))
		g.plant(2).settle()
		c.after(g, at)
		refused(t, c.what, g.p)
	}
}

// lame is how a tree that may not be is laid, and what is done to the garden when all else is.
type lame struct {
	what  string
	lay   func(g *garden) int
	after func(g *garden, at int)
}

// wrong are places where no tree may be.
func wrong() []lame {
	none := func(g *garden, at int) {}
	l := []lame{
		{"a block that is counted 0 times", func(g *garden) int { return g.tree(0, 1) }, func(g *garden, at int) { g.p.Store.Now[at] = 0 }},
		{"a block of data", func(g *garden) int { return g.data[1] }, none},
		{"a leaf that refers to what is counted 0 times", func(g *garden) int { return g.refers(0, g.take()) }, func(g *garden, at int) { g.p.Store.Now[g.nodes[at].Items[1].Ref] = 0 }},
		{"a node below is counted 0 times", func(g *garden) int { return g.tree(2, 2) }, func(g *garden, at int) { g.p.Store.Now[g.nodes[g.nodes[at].Items[1].Ref].Items[0].Ref] = 0 }},
		{"no node below", func(g *garden) int { return g.tree(1, 2) }, func(g *garden, at int) {
			g.p.Store.Disk.Waits = append(g.p.Store.Disk.Waits, api.Write{At: g.nodes[at].Items[1].Ref, Data: filled(9)})
		}},
		{"an empty leaf below", func(g *garden) int { return g.tree(1, 2) }, func(g *garden, at int) { g.set(g.nodes[at].Items[1].Ref, api.Node{}) }},
		{"another level below", func(g *garden) int {
			a, b := g.tree(0, 1), g.tree(1, 1)
			return g.lay(api.Node{Level: 1, Items: []api.Item{{Key: g.nodes[a].Items[0].Key, Ref: a}, {Key: g.nodes[b].Items[0].Key, Ref: b}}})
		}, none},
		{"another key above", func(g *garden) int { return g.tree(1, 2) }, func(g *garden, at int) {
			n := node.Twin(g.nodes[at])
			n.Items[1].Key.Off++
			g.set(at, n)
		}},
		{"keys that do not rise", func(g *garden) int {
			a, b := g.lay(api.Node{Items: []api.Item{{Key: nth(0)}, {Key: nth(9)}}}), g.lay(api.Node{Items: []api.Item{{Key: nth(5)}}})
			return g.above(a, b)
		}, none},
	}
	for i, b := range notNodes() {
		l = append(l, lame{fmt.Sprint("a block of no node ", i), func(g *garden) int { return g.tree(0, 1) }, func(g *garden, at int) {
			g.p.Store.Disk.Waits = append(g.p.Store.Disk.Waits, api.Write{At: at, Data: b})
		}})
	}
	return l
}

// P14.1: Dead are at most 40; the same block may stand there more than once, and one that is a volume's Root, or the forest's, or a node below one.
func TestDead(t *testing.T) {
	for _, many := range []int{0, 1, 2, 38, 39, 40, 41, 42, 200} {
		for different := 1; different < 40; different += 13 {
			g := bare(many)
			g.vol(1, g.tree(1, 2))
			var trees []int
			for range different {
				trees = append(trees, g.tree(0, 1))
			}
			for i := range many {
				g.p.Dead = append(g.p.Dead, trees[i*7%different])
			}
			if g.plant(1).settle(); many > 40 {
				refused(t, "too many in Dead", g.p)
			} else {
				g.stands(t, "not too many in Dead")
			}
		}
	}
	g := bare(2)
	below := g.tree(1, 2)
	top := g.above(below, g.tree(1, 1))
	g.vol(1, top)
	g.vol(2, g.tree(0, 0))
	g.plant(1)
	places := []int{top, below, g.nodes[below].Items[1].Ref, g.vols[1].Root, g.p.Root, g.nodes[g.p.Root].Items[1].Ref, g.tree(1, 1), g.tree(0, 5)}
	for _, a := range places {
		for _, b := range places {
			g.p.Dead = []int{a, b, a}
			g.settle()
			g.stands(t, "in Dead")
			for _, at := range []int{a, b} {
				h := g.twin()
				h.p.Store.Now[at]--
				refused(t, "in Dead, and counted too seldom", h.p)
			}
		}
	}
}

// P14.1: of Dead, whichever place it is at, where no tree may be.
func TestDeadMayNotBe(t *testing.T) {
	for i := range 3 {
		for _, at := range strays {
			g := grove()
			g.p.Dead[i*2] = at
			for at := 8; at < 256; at++ {
				g.p.Store.Now[at] = 200
			}
			refused(t, "Dead that is no block", g.p)
		}
		for _, c := range wrong() {
			g := bare(5 + i)
			g.vol(1, g.tree(1, 2))
			at := c.lay(g)
			g.p.Dead = slices.Insert([]int{g.tree(0, 1), g.tree(1, 1)}, i, at)
			g.plant(1).settle()
			c.after(g, at)
			refused(t, c.what, g.p)
		}
	}
}

// P14.1: the forest's Root where no tree may be.
func TestRootMayNotBe(t *testing.T) {
	for _, root := range strays {
		for _, g := range []*garden{small(), grove(), plots()[0]} {
			g.p.Root = root
			for at := 8; at < 256; at++ {
				g.p.Store.Now[at] = 200
			}
			refused(t, "a Root that is no block", g.p)
		}
	}
	for root := 8; root < 256; root++ {
		g := small()
		if g.p.Root = root; root != 10 {
			refused(t, "a Root that is no forest's, or nobody holds it", g.p)
		}
	}
	for _, b := range notNodes() {
		g := small()
		g.p.Store.Disk.Waits = append(g.p.Store.Disk.Waits, api.Write{At: 10, Data: b})
		refused(t, "a Root of no node", g.p)
	}
	for _, g := range plots() {
		l, _, _ := walk.Nodes(g.p.Store, g.p.Root)
		for _, at := range l {
			h := g.twin()
			h.p.Store.Disk.Waits = append(h.p.Store.Disk.Waits, api.Write{At: at, Data: filled(byte(at))})
			refused(t, "a node of the forest is none", h.p)
			h = g.twin()
			h.p.Store.Now[at] = 0
			refused(t, "a node of the forest is counted 0 times", h.p)
			h = g.twin()
			n := node.Twin(g.nodes[at])
			if at == g.p.Root && n.Level == 0 {
				// Another leaf may be a forest: that of some volumes fewer.
				continue
			}
			if n.Level == 0 {
				n.Items[0].Key.Id++
			} else {
				n.Items[len(n.Items)-1].Key.Id--
			}
			if node.Check(n) == api.OK {
				h.set(at, n)
				refused(t, "a node of the forest has another key", h.p)
			}
		}
	}
	for level := 1; level < 6; level++ {
		g := small()
		g.p.Store.Now[10] = 200
		g.set(10, api.Node{Level: level, Items: []api.Item{{Key: tells(g.vols[0]).Key, Ref: 10}}})
		refused(t, "a round", g.p)
	}
}

// P14.1: a store that may not be, for its disk, for Now, for Last, though all trees might.
func TestStoreMayNotBe(t *testing.T) {
	for _, turn := range odds() {
		for _, g := range []*garden{small(), grove(), plots()[0]} {
			g.stands(t, "but for what is turned")
			turn(&g.p.Store)
			refused(t, "a store that may not be", g.p)
		}
	}
	refused(t, "no pool", api.Pool{})
	refused(t, "no pool, but for its numbers", api.Pool{Root: 8, Next: 1})
	refused(t, "no pool, but for its store", api.Pool{Store: room.New(), Next: 1})
	refused(t, "no pool, but for its store, and Root", api.Pool{Store: room.New(), Root: 8, Next: 1})
	g := small()
	g.p = waiting(g.p, 4096)
	g.stands(t, "as many writes wait as may")
}

// P14.1, P14.2: two volumes, and more, with one Root: it is referred to for each, its nodes for all of them once.
func TestOneRoot(t *testing.T) {
	for many := 1; many < 17; many++ {
		for level := range 3 {
			g := bare(many)
			root := g.tree(level, 2)
			for i := range many {
				g.vol(uint32(i+1), root)
			}
			g.plant(2).settle()
			g.stands(t, "one Root")
			refs, e := forest.Refs(g.p)
			if e != api.OK || refs[root] != many || level > 0 && refs[g.nodes[root].Items[0].Ref] != 1 {
				t.Errorf("%d volumes: %v, %d", many, refs, e)
			}
			h := g.twin()
			h.p.Store.Now[root]--
			refused(t, "one Root, counted too seldom", h.p)
		}
	}
}

// P14.1, P14.2: a volume whose Root is the forest's own, or a node of the forest: its tree's items count for nothing but items there.
func TestForestsOwn(t *testing.T) {
	own := 8
	g := bare(1)
	g.vols = []api.Volume{{Id: 1, Root: own}, {Id: 2, Root: own, Frozen: true, From: 2}, {Id: 4, Root: g.tree(1, 2)}}
	g.set(own, api.Node{Items: []api.Item{tells(g.vols[0]), tells(g.vols[1]), tells(g.vols[2])}})
	g.p.Root = own
	g.settle()
	g.stands(t, "the forest's own")
	if refs, e := forest.Refs(g.p); e != api.OK || refs[own] != 3 {
		t.Errorf("the forest's own: %v, %d", refs[own], e)
	}
	for _, h := range []*garden{g, behindSnaps(t)} {
		h.stands(t, "the forest's own")
		for _, v := range h.vols {
			out := unsets(t, "the forest's own", h.p, v.Id)
			for _, w := range h.vols {
				out, _ = sets(t, "the forest's own, again", out, api.Volume{Id: w.Id, Root: v.Root, Frozen: true})
				if nothing(out) {
					break
				}
			}
		}
	}
	h := g.twin()
	h.p.Store.Now[own]--
	refused(t, "the forest's own, counted too seldom", h.p)
}

// behindSnaps is a garden whose volumes have forests as they were at times, and nodes of these; all was done by calls.
func behindSnaps(t *testing.T) *garden {
	t.Helper()
	p := forest.New()
	p.Next = 10
	var at []int
	for id := uint32(1); id < 9; id++ {
		root := p.Root
		if n, e := room.Node(p.Store, root); e == api.OK && id%2 == 0 && n.Level > 0 {
			root = n.Items[0].Ref
		}
		s, e := room.Share(p.Store, root)
		if e != api.OK {
			t.Fatal(e)
		}
		p.Store = s
		p, _ = sets(t, "a forest as it is", p, api.Volume{Id: id, Root: root})
		at = append(at, root)
	}
	vols, e := forest.Vols(p)
	if e != api.OK || len(vols) != 8 {
		t.Fatal(vols, e)
	}
	for i, v := range vols {
		if v.Root != at[i] {
			t.Fatal(vols, at)
		}
	}
	g := &garden{p: p, nodes: map[int]api.Node{}, vols: vols}
	for _, root := range append(at, p.Root) {
		l, _, _ := walk.Nodes(p.Store, root)
		for _, at := range l {
			g.nodes[at], _ = room.Node(p.Store, at)
		}
	}
	return g
}

// P14.1, P14.2: items with a Ref at 0, at nodes of the pool, at their own node, at a node of no tree of the pool, and at data: each is a reference more, none makes a node, what a leaf refers to is not gone into.
func TestItemsRefs(t *testing.T) {
	g := bare(3)
	side := g.tree(1, 2)
	mine := g.tree(2, 1)
	own := g.take()
	g.vol(1, mine)
	g.vol(2, g.refers(0, mine, g.data[0], side, side))
	g.vol(3, g.refers(g.nodes[mine].Items[0].Ref, g.data[0], g.data[0], g.data[1], 0))
	g.set(own, api.Node{Items: []api.Item{{Key: nth(200), Ref: own}, {Key: nth(201), Ref: own}}})
	g.vol(5, own)
	g.plant(2).settle()
	g.stands(t, "items' Refs")
	refs, e := forest.Refs(g.p)
	if e != api.OK || refs[mine] != 2 || refs[side] != 2 || refs[g.data[0]] < 3 || refs[own] != 3 || refs[g.nodes[side].Items[0].Ref] != 0 || refs[0] != 0 {
		t.Errorf("items' Refs: %v, %d", refs, e)
	}
	nodes, e := forest.Nodes(g.p)
	if e != api.OK || slices.Contains(nodes, side) || slices.Contains(nodes, g.data[0]) || !slices.Contains(nodes, own) {
		t.Errorf("items' Refs: %v, %d", nodes, e)
	}
	for _, at := range []int{mine, side, own, g.data[0]} {
		h := g.twin()
		h.p.Store.Now[at] = byte(refs[at] - 1)
		refused(t, "items' Refs, counted too seldom", h.p)
	}
}

// P14.1: each block counted just as often as the pool refers to it, or more often: it may be. Counted once less: not, whichever it is.
func TestCounts(t *testing.T) {
	for _, g := range append(pick(plots(), 3), grove(), small()) {
		g.data = nil
		g.settle()
		g.stands(t, "just as often")
		refs, _ := g.count()
		for at := 8; at < 256; at++ {
			h := g.twin()
			for _, more := range []int{1, 2, 255 - refs[at]} {
				h.p.Store.Now[at] = byte(refs[at] + more)
				if at%8 == 0 || refs[at] > 0 && at%3 == 0 {
					h.stands(t, "more often")
				}
			}
			if refs[at] > 0 {
				h.p.Store.Now[at] = byte(refs[at] - 1)
				refused(t, "once less", h.p)
				h.p.Store.Now[at] = 0
				refused(t, "not at all", h.p)
			}
		}
	}
}

// P14.1, P14.2: a block that is referred to 255 times may be counted so often; with one reference more it can't be.
func TestReferredToOften(t *testing.T) {
	for _, many := range []int{254, 255, 256, 257, 511, 512, 513} {
		g := bare(1)
		at := g.data[0]
		g.data = nil
		left := many
		var below []int
		for left > 0 {
			l := slices.Repeat([]int{at}, min(5, left))
			below = append(below, g.refers(l...))
			left -= len(l)
		}
		for l := range slices.Chunk(below, 25) {
			var up []int
			for m := range slices.Chunk(l, 5) {
				up = append(up, g.above(m...))
			}
			g.vol(uint32(len(g.vols)+1), g.above(up...))
		}
		g.plant(5).settle()
		if g.p.Store.Now[at] = 255; many > 255 {
			refused(t, "referred to too often", g.p)
		} else {
			g.stands(t, "referred to often")
		}
		g.p.Store.Now[at] = 254
		if many > 254 {
			refused(t, "counted too seldom", g.p)
		}
	}
}

// P14.2: Vol finds each volume that is there, and no other one: of Ids all around.
func TestVol(t *testing.T) {
	for _, g := range append(plots(), grove()) {
		for _, v := range g.vols {
			for _, id := range []uint32{v.Id, v.Id - 1, v.Id + 1, v.Id + 1<<8, v.Id + 1<<24, v.Id ^ 1<<31} {
				w, e := forest.Vol(g.p, id)
				want, is := vol(g.vols, id), has(g.vols, id)
				if w != want || is != (e == api.OK) || !is && e != api.ErrNone {
					t.Errorf("Vol of %d: %v, %d, want %v", id, w, e, want)
				}
			}
		}
	}
}

// sprout is p with a tree of many items that is held, and its root.
func sprout(t *testing.T, p api.Pool, many int) (api.Pool, int) {
	t.Helper()
	s, root, e := put.New(p.Store)
	for i := range many {
		if e != api.OK {
			break
		}
		s, root, e = put.Put(s, root, api.Item{Key: nth(i), Val: some(i%13, i)})
	}
	if e != api.OK {
		t.Fatal(e)
	}
	p.Store = s
	return p, root
}

// share is p with one hold more on that block.
func share(t *testing.T, p api.Pool, at int) api.Pool {
	t.Helper()
	s, e := room.Share(p.Store, at)
	if e != api.OK {
		t.Fatal(e)
	}
	p.Store = s
	return p
}

// P14.3, P14.5: a volume set by each Id that may be, with a new tree: where it was not there, where it was; in pools of all kinds. The hold on its Root goes, and comes to the one that it had.
func TestSetNewTrees(t *testing.T) {
	went := map[api.Errno]int{}
	for i, g := range append(plots(), grove()) {
		p := g.p
		if p.Next < 3 {
			p.Next = 3
		}
		p, root := sprout(t, p, i%8)
		l := []uint32{1, 4, p.Next - 1}
		for _, v := range pick(g.vols, 2) {
			l = append(l, v.Id)
		}
		for j, id := range l {
			v := api.Volume{Id: min(id, p.Next-1), Root: root, Frozen: j%2 == 0, From: uint32(j) * 99999999}
			out, e := sets(t, "a new tree", p, v)
			if went[e]++; e != api.OK {
				if e != api.ErrFull || len(g.vols) < 16 || has(g.vols, v.Id) {
					t.Errorf("Set of %v: %d", v, e)
				}
				continue
			}
			if out.Store.Now[root] != 1 {
				t.Errorf("Set of %v: its Root is counted %d times", v, out.Store.Now[root])
			}
			// It is nobody's but the volume's: not held any more.
			sets(t, "not held any more", out, v)
			setRefused(t, "not held any more", out, v, api.ErrNone)
			if old := vol(g.vols, v.Id); old.Root != 0 {
				out, _ = sets(t, "as it was", out, old)
				if before, e := forest.Vols(out); e != api.OK || !slices.Equal(before, g.vols) {
					t.Errorf("as it was: %v, %d, want %v", before, e, g.vols)
				}
			}
		}
	}
	if went[api.OK] < 100 || went[api.ErrFull] < 5 {
		t.Errorf("%d went well, %d not: too few to tell", went[api.OK], went[api.ErrFull])
	}
}

// P14.3, P14.5: a volume set with a Root that is in the pool already, and held once more: its own, another one's, a node below one, one of Dead, the forest's, a node of the forest.
func TestSetOldTrees(t *testing.T) {
	went := 0
	for _, g := range append(pick(plots(), 8), grove(), small()) {
		roots := append(pick(g.row, 4), g.p.Root)
		for _, v := range pick(g.vols, 2) {
			roots = append(roots, v.Root)
		}
		for _, root := range append(roots, pick(g.p.Dead, 2)...) {
			_, nodes := g.count()
			if !slices.Contains(nodes, root) {
				continue
			}
			for _, id := range append([]uint32{1, g.p.Next - 1}, ofVols(pick(g.vols, 2))...) {
				v := api.Volume{Id: id, Root: root, Frozen: id%2 == 0, From: id}
				if e := errorOf(g.p, v); e == api.OK {
					t.Errorf("Set of %v, whose Root nobody holds, went well", v)
				}
				if _, e := sets(t, "an old tree", share(t, g.p, root), v); e == api.OK {
					went++
				}
			}
		}
	}
	if went < 100 {
		t.Errorf("%d went well: too few to tell", went)
	}
}

// ofVols are the Ids of these volumes.
func ofVols(vols []api.Volume) []uint32 {
	var l []uint32
	for _, v := range vols {
		l = append(l, v.Id)
	}
	return l
}

// errorOf is Set's error.
func errorOf(p api.Pool, v api.Volume) api.Errno {
	_, e := forest.Set(p, v)
	return e
}

// P14.3: ErrArg of an Id that was not given, and of a Root that is no block that may be taken.
func TestSetArgs(t *testing.T) {
	for _, next := range []uint32{0, 1, 2, 3, 100, 1 << 31, api.MaxWord} {
		g := bare(2)
		root := g.tree(0, 2)
		g.p.Next = next
		g.plant(1).settle(root)
		for _, id := range []uint32{0, 1, 2, 3, 99, 100, 101, 1<<31 - 1, 1 << 31, api.MaxWord - 1, api.MaxWord} {
			v := api.Volume{Id: id, Root: root}
			if id == 0 || id >= next {
				setRefused(t, "an Id that was not given", g.p, v, api.ErrArg)
			} else if _, e := sets(t, "an Id that was given", g.p, v); e != api.OK {
				t.Errorf("Set of %v, Next %d: %d", v, next, e)
			}
			for _, v.Root = range strays {
				setRefused(t, "a Root that is no block", g.p, v, api.ErrArg)
			}
		}
	}
	for _, root := range []int{8, 255} {
		g := bare(1)
		g.set(root, api.Node{})
		g.plant(1).settle(root)
		if out, e := sets(t, "a Root at an edge", g.p, api.Volume{Id: 1, Root: root}); e != api.OK || out.Store.Now[root] != 1 {
			t.Errorf("a Root at %d: %d", root, e)
		}
	}
	for root := 8; root < 256; root++ {
		g := small()
		g.p.Store.Last = make([]byte, 256)
		if v := (api.Volume{Id: 3, Root: root}); root == 12 {
			sets(t, "the one that is held", g.p, v)
		} else if root == 11 {
			setRefused(t, "data that is held", g.p, v, api.ErrBad)
		} else {
			setRefused(t, "nobody holds it", g.p, v, api.ErrNone)
		}
	}
}

// P14.3: From is any number.
func TestSetFrom(t *testing.T) {
	for _, from := range []uint32{0, 1, 2, 3, 4, 99, 1 << 8, 1 << 16, 1 << 24, 0x04030201, 1 << 31, api.MaxWord - 1, api.MaxWord} {
		for _, frozen := range []bool{false, true} {
			for id := uint32(1); id < 4; id++ {
				v := api.Volume{Id: id, Root: 12, Frozen: frozen, From: from}
				if _, e := sets(t, "From any one", small().p, v); e != api.OK {
					t.Errorf("Set of %v: %d", v, e)
				}
			}
		}
	}
}

// full is a pool of many volumes, whose Ids are 1, 3, 5 and so on, and a root that is held.
func full(t *testing.T, many int) (api.Pool, int) {
	t.Helper()
	p := forest.New()
	p.Next = 100
	root := 0
	for i := range many {
		p, root = sprout(t, p, i%3)
		p, _ = sets(t, "one more", p, api.Volume{Id: uint32(2*i + 1), Root: root, From: uint32(i)})
	}
	return sprout(t, p, 2)
}

// P14.3: ErrFull of a volume that is not there, if there are 16; one that is there is set all the same, and one that is not, where there are fewer.
func TestMaxVols(t *testing.T) {
	for _, many := range []int{0, 1, 2, 14, 15, 16} {
		p, root := full(t, many)
		for id := uint32(1); id < 40; id++ {
			v := api.Volume{Id: id, Root: root}
			there := id%2 == 1 && int(id) < 2*many
			if many == 16 && !there {
				setRefused(t, "there are 16", p, v, api.ErrFull)
			} else if _, e := sets(t, "room for it", p, v); e != api.OK {
				t.Errorf("Set of %v among %d: %d", v, many, e)
			}
		}
		if many < 16 {
			continue
		}
		for _, v := range []api.Volume{{Id: 2, Root: 200}, {Id: 2, Root: p.Root}, {Id: 2, Root: 255}} {
			setRefused(t, "there are 16, and nobody holds it", p, v, api.ErrFull)
		}
		q := unsets(t, "one of 16", p, 9)
		sets(t, "instead of another one", q, api.Volume{Id: 2, Root: root})
	}
}

// P14.3: ErrNone of a Root that is counted no more often than the pool refers to it: not at all, by one, by several; held once more, it is well.
func TestSetNotHeld(t *testing.T) {
	for _, g := range []*garden{grove(), small(), plots()[22], plots()[40]} {
		refs, nodes := g.count()
		for at := 8; at < 256; at++ {
			for _, more := range []int{0, 1, 254 - refs[at]} {
				h := g.twin()
				h.p.Store.Now[at] = byte(refs[at] + more)
				v := api.Volume{Id: h.p.Next - 1, Root: at}
				switch {
				case len(g.vols) == 16 && !has(g.vols, v.Id):
					setRefused(t, "there are 16", h.p, v, api.ErrFull)
				case more == 0:
					setRefused(t, "nobody holds it", h.p, v, api.ErrNone)
				case slices.Contains(nodes, at):
					sets(t, "held", h.p, v)
				case at%9 == 0:
					sets(t, "held, a node or not", h.p, v)
				}
			}
		}
	}
}

// P14.3: ErrBad of a Root that is held, where no tree may be.
func TestSetNoTree(t *testing.T) {
	for _, c := range wrong()[1:] {
		g := bare(6)
		g.vol(1, g.tree(1, 2))
		g.vol(3, g.tree(0, 1))
		root := c.lay(g)
		g.plant(2)
		g.p.Dead = []int{root}
		g.settle(root)
		g.p.Dead = nil
		c.after(g, root)
		if g.p.Store.Now[root] == 0 {
			t.Fatal(c.what)
		}
		for id := uint32(1); id < 5; id++ {
			setRefused(t, c.what, g.p, api.Volume{Id: id, Root: root}, api.ErrBad)
		}
	}
}

// P14.3: ErrBad of a Root that is held, and a tree, below which a block is counted less often than the nodes there refer to it, whichever one it is: new nodes, such as the pool has, data. Counted just so, it is well.
func TestSetCountedTooSeldom(t *testing.T) {
	for level := range 4 {
		g := bare(level)
		shared := g.tree(max(0, level-1), 2)
		g.vol(1, g.above(shared))
		data := g.take()
		below := []int{shared}
		if level == 0 {
			below = []int{g.refers(data, data, shared, g.data[0], 0)}
		} else {
			at := g.refers(data, data, 0, g.data[1])
			for g.nodes[at].Level < level-1 {
				at = g.above(at, g.tree(g.nodes[at].Level, 2))
			}
			below = append(below, at)
		}
		root := below[0]
		if level > 0 {
			root = g.above(below...)
		}
		g.data = nil
		g.plant(1)
		// As often as the tree needs, it stands in Dead for that; then the hold is left.
		g.p.Dead = []int{root}
		g.settle()
		g.p.Dead = nil
		before, _ := g.count()
		for id := uint32(1); id < 4; id++ {
			v := api.Volume{Id: id, Root: root}
			out, e := sets(t, "counted just so", g.p, v)
			if e != api.OK {
				t.Fatal(e)
			}
			after, e := forest.Refs(out)
			if e != api.OK {
				t.Fatal(e)
			}
			many := 0
			for at := range 256 {
				if at == root || after[at] <= before[at] || at == out.Root {
					continue
				}
				for seldom := before[at]; seldom < after[at]; seldom++ {
					h := g.twin()
					h.p.Store.Now[at] = byte(seldom)
					setRefused(t, "counted too seldom", h.p, v, api.ErrBad)
					many++
				}
			}
			if many < 2 {
				t.Errorf("level %d: %d were counted too seldom: too few to tell", level, many)
			}
		}
	}
}

// P14.3: a Root that is held above a node of the forest itself, for which that is not counted: when the forest grows anew, the node goes, so it is ErrBad; counted for it, it is well.
func TestSetAboveTheForest(t *testing.T) {
	for id := uint32(1); id < 8; id++ {
		g := bare(2)
		for i := range uint32(6) {
			g.vol(i+1, g.tree(0, 1))
		}
		g.plant(3)
		leaf := g.nodes[g.p.Root].Items[(id-1)/3%2].Ref
		root := g.above(leaf)
		g.settle(root)
		v := api.Volume{Id: id, Root: root}
		setRefused(t, "above a node of the forest", g.p, v, api.ErrBad)
		g.settle(root, leaf)
		if _, e := sets(t, "above a node of the forest, counted for it", g.p, v); e != api.OK {
			t.Error(e)
		}
	}
}

// P14.3: put.Put's ErrFull, as long as fewer blocks are free, or fewer writes may wait, than it writes: with none, with one, and so on; with just enough of them it goes well.
func TestSetFull(t *testing.T) {
	most := 0
	for _, g := range append(pick(plots(), 8), grove(), small()) {
		if g.p.Next < 2 || len(g.vols) > 15 {
			continue
		}
		p, root := sprout(t, g.p, 2)
		for _, id := range append([]uint32{g.p.Next - 1, 1}, ofVols(pick(g.vols, 2))...) {
			v := api.Volume{Id: id, Root: root, From: id}
			out, e := sets(t, "room enough", p, v)
			if e != api.OK {
				t.Fatal(e)
			}
			need := len(out.Store.Disk.Waits) - len(p.Store.Disk.Waits)
			most = max(most, need)
			for many := range need + 2 {
				for _, q := range []api.Pool{only(p, many), waiting(p, 4096-many)} {
					if many < need {
						setRefused(t, "too few", q, v, api.ErrFull)
					} else if _, e := sets(t, "just enough", q, v); e != api.OK {
						t.Errorf("%d of %d: %d", many, need, e)
					}
				}
			}
		}
	}
	if most < 4 {
		t.Errorf("at most %d were written: too few to tell", most)
	}
}

// P14.3: put.Put's ErrCount, and del.Del's, of nodes of the forest that are held so often that one more is too many.
func TestCountedTooOften(t *testing.T) {
	well, not := 0, 0
	for _, g := range append(pick(plots(), 7), grove()) {
		if len(g.vols) == 0 {
			continue
		}
		p, root := sprout(t, g.p, 1)
		l, _, _ := walk.Nodes(p.Store, p.Root)
		for _, at := range l {
			for _, count := range []byte{254, 255} {
				q := twin(p)
				q.Store.Now[at] = count
				for _, v := range pick(g.vols, 1) {
					_, e := sets(t, "counted so often", q, api.Volume{Id: v.Id, Root: root})
					if _, f := forest.Unset(q, v.Id); f == api.OK {
						unsets(t, "counted so often", q, v.Id)
					} else {
						unsetRefused(t, "counted so often", q, v.Id, api.ErrCount)
						not++
					}
					if e == api.ErrCount {
						not++
					} else if e == api.OK {
						well++
					}
				}
			}
		}
	}
	if well < 20 || not < 20 {
		t.Errorf("%d went well, %d not: too few to tell", well, not)
	}
}

// set is what Set is asked.
type set struct {
	p api.Pool
	v api.Volume
}

// P14.3: of several errors of Set the first one tells.
func TestSetErrorsInOrder(t *testing.T) {
	g := bare(3)
	for i := range uint32(16) {
		g.vol(2*i+1, g.tree(0, 1))
	}
	g.p.Next = 50
	below := g.take()
	bad := g.refers(below)
	data := g.take()
	g.plant(3).settle(bad, bad, below, data)
	sibling := g.nodes[g.p.Root].Items[1].Ref
	faults := []struct {
		what string
		want api.Errno
		turn func(a *set)
	}{
		{"it may not be", api.ErrBad, func(a *set) { a.p.Dead = []int{below, 9, 7} }},
		{"no Id", api.ErrArg, func(a *set) { a.v.Id = 50 }},
		{"no block", api.ErrArg, func(a *set) { a.v.Root = 256 }},
		{"there are 16", api.ErrFull, func(a *set) { a.v.Id = 2 }},
		{"nobody holds it", api.ErrNone, func(a *set) { a.v.Root = a.p.Root }},
		{"no tree", api.ErrBad, func(a *set) { a.v.Root = data }},
		{"counted too often", api.ErrCount, func(a *set) { a.p.Store.Now[sibling] = 255 }},
		{"counted too seldom", api.ErrBad, func(a *set) {
			a.p.Store.Disk.Blocks[bad] = block(api.Node{Items: []api.Item{{Key: nth(0), Ref: below}, {Key: nth(1), Ref: below}}})
			a.p.Store.Disk.Waits = slices.DeleteFunc(a.p.Store.Disk.Waits, func(w api.Write) bool { return w.At == bad })
		}},
	}
	for mask := range 1 << len(faults) {
		a := set{twin(g.p), api.Volume{Id: 1, Root: bad}}
		what, want := "", api.OK
		for i, f := range slices.Backward(faults) {
			if mask>>i&1 == 1 {
				f.turn(&a)
				what, want = f.what+"; "+what, f.want
			}
		}
		if want != api.OK {
			setRefused(t, what, a.p, a.v, want)
		} else if _, e := sets(t, "no fault", a.p, a.v); e != api.OK {
			t.Errorf("no fault: %d", e)
		}
	}
	// No room comes behind all that v has to be, and ahead of what p with it has to be.
	few := set{p: only(g.p, 0)}
	faults[len(faults)-1].turn(&few)
	for _, c := range []struct {
		v    api.Volume
		want api.Errno
	}{
		{api.Volume{Id: 0, Root: bad}, api.ErrArg}, {api.Volume{Id: 1, Root: 7}, api.ErrArg}, {api.Volume{Id: 2, Root: bad}, api.ErrFull},
		{api.Volume{Id: 1, Root: g.p.Root}, api.ErrNone}, {api.Volume{Id: 1, Root: data}, api.ErrBad}, {api.Volume{Id: 1, Root: bad}, api.ErrFull},
	} {
		setRefused(t, "no room", only(g.p, 0), c.v, c.want)
		setRefused(t, "no room, and counted too seldom", few.p, c.v, c.want)
	}
}

// P14.3, P14.5: each volume taken out of pools of all kinds: it is there no more, all others are as they were, its Root is held; and of those that are not there: ErrNone.
func TestUnset(t *testing.T) {
	for _, g := range append(pick(plots(), 25), grove(), small()) {
		for _, id := range append(ofVols(pick(g.vols, 3)), ids(g.p)...) {
			if !has(g.vols, id) {
				unsetRefused(t, "one that is not there", g.p, id, api.ErrNone)
				unsetRefused(t, "one that is not there, and no room", only(g.p, 0), id, api.ErrNone)
				continue
			}
			out := unsets(t, "one that is there", g.p, id)
			unsetRefused(t, "once more", out, id, api.ErrNone)
			v := vol(g.vols, id)
			if out.Store.Now[v.Root] != g.p.Store.Now[v.Root] && v.Root != g.p.Root {
				t.Errorf("Unset of %v: its Root was counted %d times, and is %d times", v, g.p.Store.Now[v.Root], out.Store.Now[v.Root])
			}
			back, e := sets(t, "set again", out, v)
			if l, f := forest.Vols(back); e != api.OK || f != api.OK || !slices.Equal(l, g.vols) {
				t.Errorf("Unset of %v, and Set again: %v, %d, %d, want %v", v, l, e, f, g.vols)
			}
		}
	}
}

// P14.3: del.Del's ErrFull, as long as fewer blocks are free, or fewer writes may wait, than it writes: with just enough of them it goes well.
func TestUnsetFull(t *testing.T) {
	most := 0
	for _, g := range append(pick(plots(), 8), grove(), small()) {
		for _, v := range pick(g.vols, 2) {
			out := unsets(t, "room enough", g.p, v.Id)
			need := len(out.Store.Disk.Waits) - len(g.p.Store.Disk.Waits)
			most = max(most, need)
			for many := range need + 2 {
				for _, q := range []api.Pool{only(g.p, many), waiting(g.p, 4096-many)} {
					if many < need {
						unsetRefused(t, "too few", q, v.Id, api.ErrFull)
					} else {
						unsets(t, "just enough", q, v.Id)
					}
				}
			}
		}
	}
	if most < 3 {
		t.Errorf("at most %d were written: too few to tell", most)
	}
}

// P14.3, P14.5: all volumes of a pool taken out, one by one, in several orders: each Root is held then, and the forest is one leaf without items; then set anew.
func TestTillNoneIsLeft(t *testing.T) {
	for _, g := range append(pick(plots(), 5), grove()) {
		for _, from := range []func(i, many int) int{
			func(i, many int) int { return 0 },
			func(i, many int) int { return many - 1 },
			func(i, many int) int { return i * 7 % many },
		} {
			p, left := g.p, slices.Clone(g.vols)
			var gone []api.Volume
			for i := 0; len(left) > 0; i++ {
				at := from(i, len(left))
				p = unsets(t, "one by one", p, left[at].Id)
				gone = append(gone, left[at])
				left = slices.Delete(left, at, at+1)
			}
			if n, e := room.Node(p.Store, p.Root); e != api.OK || len(n.Items) != 0 || n.Level != 0 {
				t.Errorf("none is left: %v, %d", n, e)
			}
			for _, v := range gone {
				p, _ = sets(t, "set anew", p, v)
			}
			if l, e := forest.Vols(p); e != api.OK || !slices.Equal(l, g.vols) {
				t.Errorf("set anew: %v, %d, want %v", l, e, g.vols)
			}
			if !bytes.Equal(counted(t, p), counted(t, g.p)) {
				t.Error("set anew, other blocks are counted, or others are held")
			}
		}
	}
}

// counted is how often each block is counted, but for the nodes of the forest.
func counted(t *testing.T, p api.Pool) []byte {
	t.Helper()
	l, _, e := walk.Nodes(p.Store, p.Root)
	if e != api.OK {
		t.Fatal(e)
	}
	c := bytes.Clone(p.Store.Now)
	for _, at := range l {
		c[at] = 0
	}
	return c
}

// P14.1: Same tells each field apart, of pools that may be or not; a list without elements is the same, nil or not.
func TestSame(t *testing.T) {
	turns := []func(p *api.Pool){
		func(p *api.Pool) { p.Gen++ },
		func(p *api.Pool) { p.Gen += 1 << 31 },
		func(p *api.Pool) { p.Root++ },
		func(p *api.Pool) { p.Root += 1 << 32 },
		func(p *api.Pool) { p.Next++ },
		func(p *api.Pool) { p.Next += 1 << 31 },
		func(p *api.Pool) { p.Dead = p.Dead[1:] },
		func(p *api.Pool) { p.Dead = p.Dead[:2] },
		func(p *api.Pool) { p.Dead = nil },
		func(p *api.Pool) { p.Dead = append(p.Dead, 9) },
		func(p *api.Pool) { p.Dead[0]++ },
		func(p *api.Pool) { p.Dead[2] += 256 },
		func(p *api.Pool) { p.Dead[0], p.Dead[1] = p.Dead[1], p.Dead[0] },
		func(p *api.Pool) { p.Store = api.Store{} },
		func(p *api.Pool) { p.Store.Now[8]++ },
		func(p *api.Pool) { p.Store.Now[255]++ },
		func(p *api.Pool) { p.Store.Last[8]++ },
		func(p *api.Pool) { p.Store.Last = nil },
		func(p *api.Pool) { p.Store.Disk.Blocks[0][0]++ },
		func(p *api.Pool) { p.Store.Disk.Blocks[255][127]++ },
		func(p *api.Pool) { p.Store.Disk.Waits[0].At++ },
		func(p *api.Pool) { p.Store.Disk.Waits[1].Data[127]++ },
		func(p *api.Pool) { p.Store.Disk.Waits = p.Store.Disk.Waits[1:] },
	}
	odd := grove().p
	odd.Root, odd.Dead, odd.Store.Now = -4, []int{-9, 1 << 40, 700}, make([]byte, 300)
	for _, p := range []api.Pool{grove().p, odd} {
		if !forest.Same(p, p) || !forest.Same(p, twin(p)) || !forest.Same(p, forest.Twin(p)) {
			t.Error("a pool is not the same as itself")
		}
		for i, turn := range turns {
			q := twin(p)
			turn(&q)
			if forest.Same(p, q) || forest.Same(q, p) {
				t.Errorf("turn %d is not seen", i)
			}
		}
	}
	none, empty := forest.New(), forest.New()
	none.Dead, empty.Dead = nil, []int{}
	if !forest.Same(none, empty) || !forest.Same(empty, none) || !forest.Same(api.Pool{}, api.Pool{Dead: []int{}, Store: api.Store{Now: []byte{}}}) || forest.Same(none, api.Pool{}) {
		t.Error("a list without elements is told from another one, or a pool not from none")
	}
}

// P14.1, P14.4: Twin is the same, of any pool, in new memory.
func TestTwin(t *testing.T) {
	odd := roomy(grove().p)
	odd.Root, odd.Gen, odd.Next, odd.Store.Now = 1<<40, api.MaxWord, 0, odd.Store.Now[:9]
	odd.Dead = append(odd.Dead, -1, 1<<40)
	for _, p := range []api.Pool{forest.New(), roomy(grove().p), roomy(small().p), odd, {}, {Dead: []int{}}, {Gen: 1, Root: -2, Next: 3, Dead: make([]int, 50)}} {
		was := bared(p)
		a, b := forest.Twin(p), forest.Twin(p)
		if !same(a, p) || !same(b, p) || !same(bared(p), was) {
			t.Error("a twin is another one")
		}
		want := twin(a)
		wreck(b)
		if !same(a, want) || !same(bared(p), was) {
			t.Error("what is done to a twin is seen in another one, or in the pool")
		}
		wreck(p)
		if !same(a, want) {
			t.Error("what is done to the pool is seen in its twin")
		}
	}
}

// asked is what all calls of p tell, v and id being asked, each answer turned behind that.
func asked(p api.Pool, v api.Volume, id uint32) {
	forest.Check(p)
	vols, _ := forest.Vols(p)
	clear(vols[:cap(vols)])
	forest.Vol(p, id)
	refs, _ := forest.Refs(p)
	clear(refs[:cap(refs)])
	nodes, _ := forest.Nodes(p)
	clear(nodes[:cap(nodes)])
	one, _ := forest.Set(p, v)
	wreck(one)
	two, _ := forest.Unset(p, id)
	wreck(two)
	forest.Same(p, one)
	wreck(forest.Twin(p))
}

// P14.4: what is handed in, its spare room too, stays as it was, whatever is answered, and whatever is done to that.
func TestReadsAlone(t *testing.T) {
	for _, g := range append(pick(plots(), 6), grove(), small()) {
		p, root := sprout(t, g.p, 2)
		odd, broken, none := roomy(p), roomy(p), roomy(only(p, 0))
		odd.Store.Now = odd.Store.Now[:255]
		broken.Store.Now[p.Root] = 0
		for _, p := range []api.Pool{roomy(p), odd, broken, none} {
			was := bared(p)
			for _, id := range append(ids(p), ofVols(pick(g.vols, 3))...) {
				for _, at := range []int{root, 7, g.data[0]} {
					asked(p, api.Volume{Id: id, Root: at}, id)
				}
			}
			if !same(bared(p), was) {
				t.Error("what was handed in, or its spare room, was turned")
			}
		}
	}
}

// P14.4: what is done to what is answered is seen nowhere, and the other way.
func TestNewMemory(t *testing.T) {
	for _, g := range append(pick(plots(), 6), grove(), small()) {
		grown, root := sprout(t, g.p, 2)
		for _, v := range pick(g.vols, 3) {
			for what, call := range map[string]func(p api.Pool) api.Pool{
				"Set":   func(p api.Pool) api.Pool { out, _ := forest.Set(p, api.Volume{Id: v.Id, Root: root}); return out },
				"Unset": func(p api.Pool) api.Pool { out, _ := forest.Unset(p, v.Id); return out },
				"Twin":  forest.Twin,
			} {
				p := roomy(grown)
				was := bared(p)
				first, second := call(p), call(p)
				want := twin(first)
				if nothing(first) {
					t.Fatal(what)
				}
				wreck(second)
				if !same(first, want) || !same(bared(p), was) {
					t.Errorf("what is done to an answer of %s is seen in an earlier one, or in the argument", what)
				}
				if third := call(p); !same(third, want) {
					t.Errorf("a later answer of %s is another one", what)
				}
				wreck(p)
				if !same(first, want) {
					t.Errorf("what is done to the argument is seen in an answer of %s", what)
				}
			}
			p := roomy(grown)
			vols, _ := forest.Vols(p)
			refs, _ := forest.Refs(p)
			nodes, _ := forest.Nodes(p)
			keepVols, keepRefs, keepNodes := slices.Clone(vols), slices.Clone(refs), slices.Clone(nodes)
			asked(p, v, v.Id)
			wreck(p)
			if !slices.Equal(vols, keepVols) || !slices.Equal(refs, keepRefs) || !slices.Equal(nodes, keepNodes) {
				t.Error("what is done to later answers, or to the argument, is seen in lists")
			}
		}
	}
}

// P14.4: no two lists of a pool that is answered share memory, their spare room neither, though those that are handed in do.
func TestSharesNothing(t *testing.T) {
	counts := make([]byte, 256)
	counts[100], counts[101] = 1, 2
	leaf := block(api.Node{Items: []api.Item{tells(api.Volume{Id: 1, Root: 101})}})
	empty := block(api.Node{})
	p := api.Pool{Store: api.Store{Disk: api.Disk{Blocks: slices.Repeat([][]byte{counts[128:]}, 256)}, Now: counts, Last: counts}, Root: 100, Next: 5, Dead: make([]int, 0, 4)}
	p.Store.Disk.Waits = []api.Write{{At: 100, Data: leaf}, {At: 101, Data: empty}, {At: 99, Data: leaf}, {At: 7, Data: counts[:128]}, {At: 6, Data: counts[128:]}, {At: 98, Data: empty}}
	one, e := forest.Set(p, api.Volume{Id: 2, Root: 101})
	two, f := forest.Unset(p, 1)
	if e != api.OK || f != api.OK {
		t.Fatal(e, f)
	}
	for _, out := range []api.Pool{one, two, forest.Twin(p), forest.New()} {
		all, then := lists(out.Store), lists(room.Twin(out.Store))
		for i, b := range all {
			spoil(b)
			many := 0
			for j, c := range all {
				if !bytes.Equal(c, then[j]) {
					many++
				}
			}
			if spoil(b); many != 1 {
				t.Fatalf("what is done to list %d is seen in %d", i, many)
			}
		}
	}
	if a, b := append(one.Dead, 1, 2), append(two.Dead, 3, 4); !slices.Equal(a, []int{1, 2}) || !slices.Equal(b, []int{3, 4}) || !slices.Equal(p.Dead[:4], make([]int, 4)) {
		t.Error("what is put into Dead of an answer is seen elsewhere")
	}
}

// R2: what is answered hangs on what is handed in alone: other pools, and pools that were turned between two calls, turn nothing.
func TestHangsOnArgumentsAlone(t *testing.T) {
	for range 3 {
		for _, g := range []*garden{grove(), small(), plots()[33]} {
			g.stands(t, "among others")
			h := g.twin()
			h.p.Store.Now[h.p.Root] = 0
			refused(t, "turned", h.p)
			h.p.Store.Now[h.p.Root] = 9
			h.stands(t, "turned back")
			h.p.Next = h.vols[len(h.vols)-1].Id
			refused(t, "turned once more", h.p)
			p, root := sprout(t, g.p, 3)
			sets(t, "among others", p, api.Volume{Id: g.vols[0].Id, Root: root})
			unsets(t, "among others", p, g.vols[0].Id)
			g.stands(t, "among others")
		}
	}
}

// turn does something to a garden's pool.
func (g *garden) turn(d *dice) {
	at, other := g.row[d.roll(len(g.row))], g.row[d.roll(len(g.row))]
	n := node.Twin(g.nodes[at])
	var x *api.Item
	if len(n.Items) > 0 {
		x = &n.Items[d.roll(len(n.Items))]
	} else {
		x = &api.Item{}
	}
	now := g.p.Store.Now
	switch d.roll(12) {
	case 0:
		x.Key = nth(d.roll(g.keys + 2))
	case 1:
		x.Ref = other
		now[other]++
	case 2:
		x.Ref = g.data[d.roll(3)]
	case 3:
		now[at] += []byte{0, 1, 2, 254, 255}[d.roll(5)]
	case 4:
		now[g.data[d.roll(3)]] += []byte{1, 2, 255}[d.roll(3)]
	case 5:
		g.p.Dead = append(g.p.Dead, at)
		now[at] += byte(d.roll(2))
	case 6:
		g.p.Next = []uint32{0, 1, 2, 6, 7, 20, g.p.Next}[d.roll(7)]
	case 7:
		g.p.Root = at
	case 8:
		if len(x.Val) == 7 {
			x.Val[[]int{0, 0, 1, 2, 3, 6}[d.roll(6)]] = byte([]int{0, 1, at, other, 255}[d.roll(5)])
		}
	case 9:
		if len(x.Val) == 7 {
			x.Val[0] = byte(at)
			now[at]++
		}
	case 10:
		x.Key.Off++
	case 11:
		for at := range now[8:] {
			now[8+at] += byte(d.roll(2))
		}
	}
	if node.Check(n) == api.OK {
		g.set(at, n)
	}
}

// P14.1 to P14.3: gardens in which anything was turned may be, or not, as the words tell, and all that is told of them, and answered, is as the words tell.
func TestAsTheWordsTell(t *testing.T) {
	d := dice(17)
	may, errs := map[bool]int{}, map[api.Errno]int{}
	for round := range 500 {
		g := bare(round)
		for id := range d.roll(7) {
			g.vol(uint32(id+1), g.tree([]int{0, 0, 1, 2}[d.roll(4)], d.roll(3)+1))
		}
		for range d.roll(3) {
			g.p.Dead = append(g.p.Dead, g.tree(d.roll(2), 1))
		}
		g.p.Next = uint32(len(g.vols) + 1 + d.roll(2))
		held := g.tree(d.roll(2), 2)
		g.plant(1 + d.roll(5))
		g.p.Dead = append(g.p.Dead, held)
		g.settle()
		g.p.Dead = g.p.Dead[:len(g.p.Dead)-1]
		for range d.roll(4) {
			g.turn(&d)
		}
		if d.roll(3) == 0 {
			g.p = only(g.p, d.roll(5))
		}
		w, ok := told(g.p)
		may[ok]++
		if !ok {
			refused(t, "by the words it may not be", g.p)
			continue
		}
		shows(t, "by the words it may be", g.p, w.vols, w.refs, w.nodes)
		for range 3 {
			root := []int{held, held, held, g.row[d.roll(len(g.row))], 8 + d.roll(248), d.roll(300)}[d.roll(6)]
			_, e := sets(t, "by the words", g.p, api.Volume{Id: uint32(d.roll(8)), Root: root, Frozen: d.roll(2) == 0, From: uint32(d.roll(5))})
			errs[e]++
		}
		for _, v := range w.vols {
			if out, e := forest.Unset(g.p, v.Id); e == api.OK {
				unsets(t, "by the words", g.p, v.Id)
			} else if e != api.ErrFull && e != api.ErrCount || !nothing(out) {
				t.Errorf("by the words: Unset of %d: %d", v.Id, e)
			}
		}
	}
	if may[true] < 100 || may[false] < 100 {
		t.Errorf("too few to tell: %v", may)
	}
	for _, e := range []api.Errno{api.OK, api.ErrArg, api.ErrNone, api.ErrBad, api.ErrFull} {
		if errs[e] < 10 {
			t.Errorf("too few to tell: %v", errs)
		}
	}
}

// plot is a pool, and what is in its volumes and what waits to be reaped, as plain data.
type plot struct {
	dice
	p     api.Pool
	vols  []api.Volume
	items map[uint32]map[api.Key][]byte
}

// some is one of the plot's volumes.
func (p *plot) some() api.Volume { return p.vols[p.roll(len(p.vols))] }

// set sets v, whose Root is held, and tells what it is made of.
func (p *plot) set(t *testing.T, v api.Volume, items map[api.Key][]byte) {
	t.Helper()
	out, e := sets(t, "a plot", p.p, v)
	if e != api.OK {
		t.Fatal(v, e)
	}
	p.p, p.vols, p.items[v.Id] = out, with(p.vols, v), items
}

// plant puts an item into some volume: what it had is left.
func (p *plot) plant(t *testing.T) {
	t.Helper()
	v := p.some()
	k, val := nth(p.roll(40)), some(p.roll(13), p.roll(99))
	q := share(t, p.p, v.Root)
	s, root, e := put.Put(q.Store, v.Root, api.Item{Key: k, Val: val})
	if e != api.OK {
		t.Fatal(e)
	}
	p.p.Store = s
	items := maps.Clone(p.items[v.Id])
	items[k] = val
	old := v.Root
	v.Root = root
	p.set(t, v, items)
	p.leave(t, old)
}

// leave leaves a root that is held.
func (p *plot) leave(t *testing.T, at int) {
	t.Helper()
	s, e := drop.Leave(p.p.Store, at)
	if e != api.OK {
		t.Fatal(e)
	}
	p.p.Store = s
}

// create makes a volume: an empty one, or of another one's tree.
func (p *plot) create(t *testing.T, id uint32) {
	t.Helper()
	v, items := api.Volume{Id: id}, map[api.Key][]byte{}
	if len(p.vols) > 0 && p.roll(2) == 0 {
		of := p.some()
		p.p = share(t, p.p, of.Root)
		v.Root, v.From, v.Frozen, items = of.Root, of.Id, p.roll(2) == 0, maps.Clone(p.items[of.Id])
	} else {
		p.p, v.Root = sprout(t, p.p, 0)
	}
	p.set(t, v, items)
}

// fell takes some volume out: its Root is left, or waits to be reaped.
func (p *plot) fell(t *testing.T) {
	t.Helper()
	v := p.some()
	p.p = unsets(t, "a plot", p.p, v.Id)
	p.vols = without(p.vols, v.Id)
	delete(p.items, v.Id)
	if p.roll(2) == 0 {
		p.leave(t, v.Root)
	} else {
		p.p.Dead = append(p.p.Dead, v.Root)
	}
}

// stands fails, unless each volume has what was put into it, and each block is counted just as often as the pool refers to it.
func (p *plot) stands(t *testing.T) {
	t.Helper()
	refs, e := forest.Refs(p.p)
	if e != api.OK {
		t.Fatal(e)
	}
	for at, n := range refs {
		if n != int(p.p.Store.Now[at]) {
			t.Fatalf("block %d is counted %d times, want %d", at, p.p.Store.Now[at], n)
		}
	}
	l, e := forest.Vols(p.p)
	if e != api.OK || !slices.Equal(l, p.vols) {
		t.Fatalf("Vols %v, %d, want %v", l, e, p.vols)
	}
	for _, v := range l {
		l, e := walk.Range(p.p.Store, v.Root, lowest, highest)
		if e != api.OK || len(l) != len(p.items[v.Id]) {
			t.Fatal(v, l, e)
		}
		for _, x := range l {
			if !bytes.Equal(x.Val, p.items[v.Id][x.Key]) {
				t.Fatalf("volume %d: %v, want %v", v.Id, x, p.items[v.Id][x.Key])
			}
		}
	}
}

// P14.3, P14.5, W2, W3: behind each of many steps the pool has the volumes that were set and not taken out, each with what was put into it, whatever was done to others that share nodes with it, and each block is counted as often as the pool refers to it; when all is gone, only the forest is left.
func TestPlot(t *testing.T) {
	p := plot{dice: 3, p: forest.New(), items: map[uint32]map[api.Key][]byte{}}
	most := 0
	for step := range 300 {
		free, _ := room.Free(p.p.Store)
		switch k := p.roll(20); {
		case len(p.vols) == 0 || k < 3 && len(p.vols) < 16 && len(free) > 40:
			p.p.Next++
			p.create(t, p.p.Next-1)
		case len(free) < 40 && step%2 == 0:
			p.fell(t)
		case len(free) < 40 || k == 3:
			p.p.Store.Disk, _ = dev.Barrier(p.p.Store.Disk)
			p.p.Store.Last = bytes.Clone(p.p.Store.Now)
		case k == 4:
			p.fell(t)
		case k < 7 && len(p.p.Dead) > 0:
			at := p.p.Dead[len(p.p.Dead)-1]
			p.p.Dead = p.p.Dead[:len(p.p.Dead)-1]
			p.leave(t, at)
		default:
			p.plant(t)
		}
		p.stands(t)
		most = max(most, len(p.vols))
	}
	if most < 8 {
		t.Errorf("at most %d volumes: too few to tell", most)
	}
	for len(p.vols) > 0 {
		p.fell(t)
		p.stands(t)
	}
	for _, at := range p.p.Dead {
		p.p.Dead = p.p.Dead[1:]
		p.leave(t, at)
		p.stands(t)
	}
	want := make([]byte, 256)
	want[p.p.Root] = 1
	if !bytes.Equal(p.p.Store.Now, want) {
		t.Errorf("all is gone, but %v is counted", p.p.Store.Now)
	}
}

// The chapter's examples.
func TestExamples(t *testing.T) {
	p := forest.New()
	if p.Root != 8 {
		t.Error("New: Root", p.Root)
	}
	if l, e := forest.Vols(p); e != api.OK || len(l) != 0 {
		t.Error("Vols(New)", l, e)
	}
	if v, e := forest.Vol(p, 1); e != api.ErrNone || v != (api.Volume{}) {
		t.Error("Vol(New, 1)", v, e)
	}
	setRefused(t, "Set(New, Id 1)", p, api.Volume{Id: 1}, api.ErrArg)
	setRefused(t, "Set(New, Id 1)", share(t, p, 8), api.Volume{Id: 1, Root: 8}, api.ErrArg)
	unsetRefused(t, "Unset(New, 1)", p, 1, api.ErrNone)
	if e := forest.Check(api.Pool{}); e != api.ErrBad {
		t.Error("Check(no pool)", e)
	}
	refs, e := forest.Refs(p)
	many := 0
	for _, n := range refs {
		many += n
	}
	if e != api.OK || refs[8] != 1 || many != 1 {
		t.Error("Refs(New)", refs, e)
	}
}

// The chapter's errors, and its limits, have its numbers.
func TestErrors(t *testing.T) {
	if api.ErrArg != 2 || api.ErrNone != 6 || api.ErrBad != 8 || api.ErrFull != 9 || api.ErrCount != 70 || api.ErrTall != 120 {
		t.Error(int(api.ErrArg), int(api.ErrNone), int(api.ErrBad), int(api.ErrFull), int(api.ErrCount), int(api.ErrTall))
	}
	if api.Blocks != 256 || api.First != 8 || api.MaxFan != 5 || api.MaxVols != 16 || api.MaxDead != 40 || api.KindVol != 1 || api.MaxWaits != 4096 {
		t.Error(api.Blocks, api.First, api.MaxFan, api.MaxVols, api.MaxDead, api.KindVol, api.MaxWaits)
	}
}
