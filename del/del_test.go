package del_test

import (
	"bytes"
	"cmp"
	"maps"
	"slices"
	"testing"

	"scionry/api"
	"scionry/del"
	"scionry/dev"
	"scionry/drop"
	"scionry/find"
	"scionry/item"
	"scionry/node"
	"scionry/put"
	"scionry/room"
	"scionry/walk"
)

// The signature is the chapter's, to the letter.
var _ func(s api.Store, root int, k api.Key) (out api.Store, now int, e api.Errno) = del.Del

// P13.1, P13.3: an item taken out of trees of all heights: the first one, the last one, some between. Each block is counted behind it as often as it is referred to.
func TestTrees(t *testing.T) {
	for _, c := range trees() {
		for _, x := range pick(c.items(c.root), 9) {
			w, now := c.shrinks(t, "a tree", c.root, x.Key)
			w.counted(t, "a tree", now)
			if now != c.root && w.s.Now[c.root] != 0 {
				t.Errorf("%v taken out: the old root is counted", x)
			}
		}
	}
}

// P13.1: all items of leaves with one, two, four and five, by hand; with the last one goes no more than that, a leaf without items stays.
func TestLeavesByHand(t *testing.T) {
	for _, c := range []struct {
		leaf []int
		id   int
		want []int
	}{
		{[]int{2}, 2, nil},
		{[]int{2, 4}, 2, []int{4}}, {[]int{2, 4}, 4, []int{2}},
		{[]int{2, 4, 6, 8}, 2, []int{4, 6, 8}}, {[]int{2, 4, 6, 8}, 4, []int{2, 6, 8}}, {[]int{2, 4, 6, 8}, 6, []int{2, 4, 8}}, {[]int{2, 4, 6, 8}, 8, []int{2, 4, 6}},
		{[]int{2, 4, 6, 8, 10}, 2, []int{4, 6, 8, 10}}, {[]int{2, 4, 6, 8, 10}, 6, []int{2, 4, 8, 10}}, {[]int{2, 4, 6, 8, 10}, 10, []int{2, 4, 6, 8}},
	} {
		s, root, e := drop.Make(room.New(), api.Node{Items: ids(c.leaf...)})
		if e != api.OK || root != 8 {
			t.Fatal(root, e)
		}
		out, now, e := del.Del(s, root, key(c.id, 0))
		if e != api.OK || now != 9 || out.Now[8] != 0 || out.Now[9] != 1 {
			t.Fatalf("%d out of %v: root %d, %d", c.id, c.leaf, now, e)
		}
		if n, e := room.Node(out, now); e != api.OK || !node.Same(n, api.Node{Items: ids(c.want...)}) {
			t.Errorf("%d out of %v: %v, %d", c.id, c.leaf, n, e)
		}
		for id := range 12 {
			if !slices.Contains(c.leaf, id) {
				refused(t, "none of a leaf's", s, root, key(id, 0), api.ErrNone)
			}
		}
		refused(t, "out once more", out, now, key(c.id, 0), api.ErrNone)
	}
}

// P13.1: the neighbours by hand: the next one, or the one ahead, if there is none; at a leaf, and above; new first keys; roots that become lower.
func TestNeighboursByHand(t *testing.T) {
	three := [][]int{{10, 20, 30}, {40, 50}, {60, 62, 64, 66}}
	wide := [][]int{{10}, {20, 22}, {30, 32, 34, 36, 38}}
	eleven := [][]int{{10, 11}, {20, 21, 22, 23}, {30}, {40}, {50}, {60}, {70, 71, 72}, {80, 81, 82, 83}, {90}, {92}, {94}}
	for _, c := range []struct {
		leaves [][]int
		id     int
		want   [][]int
	}{
		// Behind and ahead there is room: the next one it is.
		{three, 40, [][]int{{10, 50}, {10, 20, 30}, {50, 60, 62, 64, 66}}},
		{three, 50, [][]int{{10, 40}, {10, 20, 30}, {40, 60, 62, 64, 66}}},
		{three, 10, [][]int{{20, 60}, {20, 30, 40, 50}, {60, 62, 64, 66}}},
		{three, 20, [][]int{{10, 60}, {10, 30, 40, 50}, {60, 62, 64, 66}}},
		{three, 30, [][]int{{10, 60}, {10, 20, 40, 50}, {60, 62, 64, 66}}},
		// Behind there is none.
		{three, 60, [][]int{{10, 40}, {10, 20, 30}, {40, 50, 62, 64, 66}}},
		{three, 66, [][]int{{10, 40}, {10, 20, 30}, {40, 50, 60, 62, 64}}},
		// Ahead there would be room, but there is a next one.
		{wide, 20, [][]int{{10, 22, 30}, {10}, {22}, {30, 32, 34, 36, 38}}},
		{wide, 22, [][]int{{10, 20, 30}, {10}, {20}, {30, 32, 34, 36, 38}}},
		// Of both one too many.
		{wide, 30, [][]int{{10, 20, 32}, {10}, {20, 22}, {32, 34, 36, 38}}},
		{wide, 34, [][]int{{10, 20, 30}, {10}, {20, 22}, {30, 32, 36, 38}}},
		// Nothing is left: the neighbours stay as they are.
		{wide, 10, [][]int{{20, 30}, {20, 22}, {30, 32, 34, 36, 38}}},
		{[][]int{{10}, {20}, {30}}, 10, [][]int{{20, 30}, {20}, {30}}},
		{[][]int{{10}, {20}, {30}}, 20, [][]int{{10, 30}, {10}, {30}}},
		{[][]int{{10}, {20}, {30}}, 30, [][]int{{10, 20}, {10}, {20}}},
		// One node alone is left below the root.
		{[][]int{{10}, {20, 22}}, 10, [][]int{{20, 22}}},
		{[][]int{{10}, {20, 22}}, 20, [][]int{{10, 22}}},
		{[][]int{{10}, {20, 22}}, 22, [][]int{{10, 20}}},
		{[][]int{{10, 20, 30}, {40, 50, 60}}, 10, [][]int{{20, 30, 40, 50, 60}}},
		{[][]int{{10, 20, 30}, {40, 50, 60}}, 40, [][]int{{10, 20, 30, 50, 60}}},
		{[][]int{{10, 20, 30}, {40, 50, 60, 70}}, 30, [][]int{{10, 40}, {10, 20}, {40, 50, 60, 70}}},
		{[][]int{{10, 20, 30}, {40, 50, 60, 70}}, 40, [][]int{{10, 50}, {10, 20, 30}, {50, 60, 70}}},
		// Six leaves: a root above a node of five and one of one.
		{[][]int{{10}, {20}, {30}, {40}, {50}, {60}}, 60, [][]int{{10, 20, 30, 40, 50}, {10}, {20}, {30}, {40}, {50}}},
		{[][]int{{10}, {20}, {30}, {40}, {50}, {60}}, 10, [][]int{{20, 30, 40, 50, 60}, {20}, {30}, {40}, {50}, {60}}},
		{[][]int{{10}, {20}, {30}, {40}, {50}, {60}}, 30, [][]int{{10, 20, 40, 50, 60}, {10}, {20}, {40}, {50}, {60}}},
		{[][]int{{10, 11}, {20}, {30}, {40}, {50}, {60}}, 10, [][]int{{11, 30, 40, 50, 60}, {11, 20}, {30}, {40}, {50}, {60}}},
		{[][]int{{10}, {20}, {30}, {40}, {50, 51}, {60}}, 50, [][]int{{10, 20, 30, 40, 60}, {10}, {20}, {30}, {40, 51}, {60}}},
		{[][]int{{10, 11, 12}, {20, 21, 22, 23}, {30}, {40}, {50}, {60}}, 10, [][]int{{11, 60}, {11, 20, 30, 40, 50}, {60}, {11, 12}, {20, 21, 22, 23}, {30}, {40}, {50}, {60}}},
		{[][]int{{10}, {20}, {30}, {40}, {50}, {60, 61}}, 60, [][]int{{10, 61}, {10, 20, 30, 40, 50}, {61}, {10}, {20}, {30}, {40}, {50}, {61}}},
		// Eleven: the middle node has one behind and one ahead.
		{eleven, 11, [][]int{{10, 60, 94}, {10, 30, 40, 50}, {60, 70, 80, 90, 92}, {94}, {10, 20, 21, 22, 23}, {30}, {40}, {50}, {60}, {70, 71, 72}, {80, 81, 82, 83}, {90}, {92}, {94}}},
		{eleven, 60, [][]int{{10, 70}, {10, 20, 30, 40, 50}, {70, 80, 90, 92, 94}, {10, 11}, {20, 21, 22, 23}, {30}, {40}, {50}, {70, 71, 72}, {80, 81, 82, 83}, {90}, {92}, {94}}},
		{eleven, 71, [][]int{{10, 60, 94}, {10, 20, 30, 40, 50}, {60, 70, 80, 90, 92}, {94}, {10, 11}, {20, 21, 22, 23}, {30}, {40}, {50}, {60}, {70, 72}, {80, 81, 82, 83}, {90}, {92}, {94}}},
		{eleven, 83, [][]int{{10, 60}, {10, 20, 30, 40, 50}, {60, 70, 80, 92, 94}, {10, 11}, {20, 21, 22, 23}, {30}, {40}, {50}, {60}, {70, 71, 72}, {80, 81, 82, 90}, {92}, {94}}},
		{eleven, 94, [][]int{{10, 60}, {10, 20, 30, 40, 50}, {60, 70, 80, 90, 92}, {10, 11}, {20, 21, 22, 23}, {30}, {40}, {50}, {60}, {70, 71, 72}, {80, 81, 82, 83}, {90}, {92}}},
	} {
		g, root := tower(c.leaves...)
		w, now := g.shrinks(t, "by hand", root, key(c.id, 0))
		shows(t, "by hand", w.s, now, c.want...)
		w.counted(t, "by hand", now)
	}
}

// P13.1, P13.3: a node and its neighbour have together one item fewer than MaxFan, just as many, or one more, at the leaf, at each level above, at some and at all; the neighbour is the next one, or the one ahead. At each level one node is written, of both or of one.
func TestTogether(t *testing.T) {
	for level := range 6 {
		ways := 1
		for range level {
			ways *= 3
		}
		for mask := range ways {
			for way := range 3 {
				// Of three items two stay where both became one below, or at the leaf.
				own, beside := slices.Repeat([]int{3}, 6), make([]int, 6)
				want, left, m := make([]int, level+1), 2, mask
				for i := range level {
					beside[i] = 5 - left + m%3 - 1
					want[i] = left
					left = 3
					if m%3 < 2 {
						want[i] += beside[i]
						left = 2
					}
					m /= 3
				}
				want[level] = left
				g := bare(mask + way)
				root := g.hedge(level, way, own, beside)
				g.held(root)
				x := g.nodes[g.end].Items[mask%3]
				w, now := g.shrinks(t, "together", root, x.Key)
				w.counted(t, "together", now)
				if many := w.written(g); many != level+1 || w.nodes[now].Level != level {
					t.Fatalf("level %d, %d: %d were written, %d high", level, mask, many, w.nodes[now].Level+1)
				}
				at := now
				for i := level; i >= 0; i-- {
					n := w.nodes[at]
					if len(n.Items) != want[i] {
						t.Fatalf("level %d, %d, way %d: %d items at level %d, want %d", level, mask, way, len(n.Items), i, want[i])
					}
					switch {
					case i > 0 && way == 2:
						// Of both the one on the way is the last one.
						at = n.Items[len(n.Items)-1].Ref
					case i > 0:
						at = n.Items[way].Ref
					}
				}
			}
		}
	}
}

// P13.1: nodes that have no new items, from the leaf up to each level: nothing of them is written, nor read of their neighbours; those above have one item less.
func TestNothingBelow(t *testing.T) {
	for level := range 6 {
		for empty := range level {
			for way := range 4 {
				own, beside := slices.Repeat([]int{1}, 6), slices.Repeat([]int{2}, 6)
				for i := empty + 1; i <= level; i++ {
					own[i] = 4
					beside[i] = 3
				}
				g := bare(level + way)
				root := g.hedge(level, way, own, beside)
				g.held(root)
				w, now := g.shrinks(t, "nothing below", root, g.nodes[g.end].Items[0].Key)
				w.counted(t, "nothing below", now)
				if many := w.written(g); many != level-empty {
					t.Errorf("level %d, nothing up to %d: %d were written", level, empty, many)
				}
				if n := w.nodes[now]; n.Level != level || len(n.Items) != 4-min(1, max(0, empty+2-level)) {
					t.Errorf("level %d, nothing up to %d: the root has %d items", level, empty, len(n.Items))
				}
			}
		}
	}
}

// P13.1, P13.3: the last item of trees of heights 1 to 6: one leaf without items is all that is written, and that stays.
func TestLastItem(t *testing.T) {
	for level := range 6 {
		g := bare(level)
		root := g.full(level, 1)
		g.held(root)
		k := g.items(root)[0].Key
		free, e := room.Free(g.s)
		if e != api.OK {
			t.Fatal(e)
		}
		w, now := g.shrinks(t, "the last item", root, k)
		w.counted(t, "the last item", now)
		if n, e := room.Node(w.s, now); e != api.OK || !node.Same(n, api.Node{}) || now != free[0] || w.written(g) != 1 {
			t.Errorf("level %d: %v, %d, at %d, want none, at %d", level, n, e, now, free[0])
		}
		for _, at := range g.row {
			if w.s.Now[at] != 0 {
				t.Errorf("level %d: block %d is counted still", level, at)
			}
		}
		refused(t, "the last item once more", w.s, now, k, api.ErrNone)
	}
}

// fork is the root of a tree of that level that has one item a node down to the level of its fork, where it has two; and where that is.
func (g *garden) fork(level, at int) (root, where int) {
	if level == at {
		where = g.bush(level, 2)
		return where, where
	}
	below, where := g.fork(level-1, at)
	return g.above(below), where
}

// P13.1: a root above one node that goes and one that stays becomes lower, level by level, down to the first node of two items, which stays where it is: one level, and several.
func TestLowerToAnOldNode(t *testing.T) {
	for level := 1; level < 6; level++ {
		for at := range level {
			for first := range 2 {
				g := bare(level + at)
				var below [2]int
				var where, goes int
				for i := range 2 {
					if i == first {
						below[i], where = g.fork(level-1, at)
					} else {
						below[i] = g.full(level-1, 1)
						goes = below[i]
					}
				}
				root := g.above(below[:]...)
				g.held(root)
				w, now := g.shrinks(t, "lower", root, g.items(goes)[0].Key)
				w.counted(t, "lower", now)
				if now != where || w.s.Now[now] != 1 || w.written(g) != 1 {
					t.Errorf("level %d: the root is %d, counted %d times, %d were written; want %d", level, now, w.s.Now[now], w.written(g), where)
				}
				// The root made in between is left: where it was written is free again.
				for _, x := range w.s.Disk.Waits[len(g.s.Disk.Waits):] {
					if w.s.Now[x.At] != 0 {
						t.Errorf("level %d: block %d is counted still", level, x.At)
					}
				}
			}
		}
	}
}

// P13.1: a root above new nodes becomes lower by none, one, and several levels: down to the first that has more items, or to the leaf.
func TestLowerToANewNode(t *testing.T) {
	for level := range 6 {
		for at := range level + 1 {
			for _, many := range []int{2, 3, 5} {
				// Above the level there is one item a node.
				own, beside := slices.Repeat([]int{1}, 6), slices.Repeat([]int{4}, 6)
				own[at] = many
				g := bare(level + many)
				root := g.hedge(level, 0, own, beside)
				g.held(root)
				w, now := g.shrinks(t, "lower", root, g.nodes[g.end].Items[0].Key)
				w.counted(t, "lower", now)
				want, written := at, level-at+1
				if at > 0 && many == 2 {
					// The chain below goes, the other one stays, from a node of four on.
					want = at - 1
				}
				if n := w.nodes[now]; n.Level != want || w.written(g) != written {
					t.Errorf("level %d, %d items at %d: down to level %d, %d were written, want %d, %d", level, many, at, n.Level, w.written(g), want, written)
				}
			}
		}
	}
	// Both become one: the root has one item, its new node more.
	for level := 1; level < 6; level++ {
		for way := range 2 {
			own, beside := slices.Repeat([]int{2}, 6), slices.Repeat([]int{3}, 6)
			g := bare(level)
			root := g.hedge(level, way, own, beside)
			g.held(root)
			w, now := g.shrinks(t, "lower by one", root, g.nodes[g.end].Items[0].Key)
			w.counted(t, "lower by one", now)
			if n := w.nodes[now]; n.Level != level-1 || len(n.Items) != 4 || w.written(g) != level+1 {
				t.Errorf("level %d: down to level %d, %d were written", level, n.Level, w.written(g))
			}
		}
	}
}

// P13.1: behind the first item taken out the next one's key is the first one on each level; behind another one it is as it was.
func TestNewFirstKey(t *testing.T) {
	for _, c := range trees() {
		items := c.items(c.root)
		if len(items) < 2 {
			continue
		}
		for i, want := range []api.Key{items[1].Key, items[0].Key} {
			w, at := c.shrinks(t, "the first one, the second one", c.root, items[i].Key)
			for level := w.nodes[at].Level; level >= 0; level-- {
				n, e := room.Node(w.s, at)
				if e != api.OK || n.Level != level || n.Items[0].Key != want {
					t.Errorf("%v taken out: at level %d there is %v, %d, want %v first", items[i], level, n, e, want)
				}
				at = n.Items[0].Ref
			}
		}
	}
	// The first item of a leaf within the tree: up to the level where its way is not the first one any more, and there, the next key stands instead; nothing else is turned.
	for level := 1; level < 6; level++ {
		for turn := range level {
			g := bare(level)
			root := g.hidden(level, turn)
			g.held(root)
			l := g.nodes[g.end].Items
			w, at := g.shrinks(t, "the first one of a leaf", root, l[0].Key)
			was := root
			for i := level; i > 0; i-- {
				m, n := g.nodes[was], w.nodes[at]
				place := 1 - min(1, max(0, turn+1-i))
				want := m.Items[place].Key
				if i <= turn+1 {
					want = l[1].Key
				}
				for j := range n.Items {
					if k := n.Items[j].Key; j == place && k != want || j != place && k != m.Items[j].Key {
						t.Errorf("level %d: at level %d there is %v, behind %v", level, i, n, m)
					}
				}
				was, at = m.Items[place].Ref, n.Items[place].Ref
			}
		}
	}
}

// hidden is the root of a tree of that level, of nodes that are too full to become one with others; the way to its end goes by the second item, and from the level of the turn on by the first one.
func (g *garden) hidden(level, turn int) int {
	if level == turn {
		return g.hedge(level, 0, slices.Repeat([]int{3}, 6), slices.Repeat([]int{5}, 6))
	}
	return g.above(g.bush(level-1, 5), g.hidden(level-1, turn), g.bush(level-1, 5))
}

// P13.1: items with a Ref: that of the one taken out is counted once less, all others as they were, whether the leaf becomes one with its neighbour or not.
func TestRefs(t *testing.T) {
	for _, c := range trees() {
		for _, x := range pick(c.items(c.root), 12) {
			w, _ := c.shrinks(t, "an item with a Ref", c.root, x.Key)
			for _, at := range c.data {
				want := c.s.Now[at]
				if at == x.Ref {
					want--
				}
				if w.s.Now[at] != want {
					t.Errorf("%v taken out: block %d is counted %d times, want %d", x, at, w.s.Now[at], want)
				}
			}
		}
	}
	for count := range 4 {
		// Held by the item alone, it is free; held more often, it stays.
		g := bare(count)
		at := g.take()
		root := g.lay(api.Node{Items: []api.Item{{Key: key(2, 0), Ref: at}, {Key: key(3, 0)}}})
		g.held(root)
		g.s.Now[at] += byte(count)
		g.s.Last[at] = 0
		w, _ := g.shrinks(t, "an item with a Ref", root, key(2, 0))
		free, _ := room.Free(w.s)
		if int(w.s.Now[at]) != count || slices.Contains(free, at) != (count == 0) {
			t.Errorf("its Ref was counted %d times, and is %d", count+1, w.s.Now[at])
		}
	}
}

// P13.3, W2: a root that is held more often stays with all that is below it; what both trees have is counted for both.
func TestHeldMoreOften(t *testing.T) {
	for _, c := range trees() {
		for _, more := range []int{1, 254} {
			g := c.twin()
			stay := slices.Repeat([]int{c.root}, more)
			g.held(append(stay, c.root)...)
			items := g.items(c.root)
			for _, x := range pick(items, 3) {
				w, now := g.shrinks(t, "held more often", c.root, x.Key)
				has(t, "the old one", w.s, c.root, items)
				w.counted(t, "held more often", append(stay, now)...)
				if height, e := find.Check(w.s, c.root); e != api.OK || height != g.nodes[c.root].Level+1 {
					t.Errorf("the old one: %d high, %d", height, e)
				}
			}
		}
	}
}

// P13.3, W2: a tree that shares nodes with others: taken out of each, the others have the same items in the same nodes, and each block is counted for all of them.
func TestShared(t *testing.T) {
	for level := 1; level < 6; level++ {
		for many := 1; many < 6; many++ {
			g := bare(level + many)
			var below []int
			for range 4 {
				below = append(below, g.bush(level-1, many))
			}
			roots := []int{g.above(below...), g.above(below[0], below[1], below[3]), g.above(below[1], below[2]), below[3]}
			g.held(roots...)
			for i, root := range roots {
				for _, x := range pick(g.items(root), 5) {
					w, now := g.shrinks(t, "shared", root, x.Key)
					others := slices.Delete(slices.Clone(roots), i, i+1)
					for _, other := range others {
						has(t, "the other one", w.s, other, g.items(other))
						nodes, _, _ := walk.Nodes(g.s, other)
						if behind, _, e := walk.Nodes(w.s, other); e != api.OK || !slices.Equal(nodes, behind) {
							t.Errorf("the other one: nodes %v, %d, were %v", behind, e, nodes)
						}
					}
					w.counted(t, "shared", append(others, now)...)
				}
			}
		}
	}
}

// P13.1: an item whose Ref is a block of the tree, be it on the way or not, held for that once more, or not: it is taken out, or another one is.
func TestRefOfTheTree(t *testing.T) {
	for _, c := range append(trees()[1:16], combs()[20:]...) {
		for i := range c.items(c.root) {
			if i%9 > 1 {
				continue
			}
			for _, ref := range pick(c.row, 3) {
				g := c.twin()
				x := g.refer(c.root, i, ref)
				g.dels(t, "a block of the tree that is not held for that", c.root, x.Key)
				for _, y := range pick(g.items(c.root), 2) {
					g.dels(t, "another one", c.root, y.Key)
				}
				g.s.Now[ref]++
				w, _ := g.shrinks(t, "a block of the tree", c.root, x.Key)
				if w.s.Now[ref] == 0 && g.s.Now[ref] > 2 {
					t.Errorf("%d goes, though it is held", ref)
				}
				for _, y := range pick(g.items(c.root), 2) {
					g.shrinks(t, "another one", c.root, y.Key)
				}
			}
		}
	}
}

// refer is the item of that place among all of the tree at root, its Ref turned to another block, which is not counted for it.
func (g *garden) refer(root, place, ref int) api.Item {
	at := root
	for n := g.nodes[at]; n.Level > 0; n = g.nodes[at] {
		for _, x := range n.Items {
			at = x.Ref
			if many := len(g.items(at)); place >= many {
				place -= many
			} else {
				break
			}
		}
	}
	n := g.nodes[at]
	if was := n.Items[place].Ref; was != 0 {
		g.s.Now[was]--
	}
	n.Items[place].Ref = ref
	g.set(at, n)
	return n.Items[place]
}

// P13.1: ErrBad of a store that may not be comes first, whatever the root and the key are.
func TestStoreMayNotBe(t *testing.T) {
	pair().shrinks(t, "but for what is turned", 9, key(2, 0))
	g := pair()
	g.s = waiting(g.s, 4000)
	g.shrinks(t, "many writes wait", 9, key(4, 0))
	for _, s := range odds() {
		for _, root := range append([]int{8, 9, 10, 255}, strayRoots...) {
			refused(t, "a store that may not be", s, root, key(2, 0), api.ErrBad)
			refused(t, "a store that may not be", s, root, key(3, 0), api.ErrBad)
		}
	}
}

// P13.1: ErrArg of a root that is not from 8 to 255, then ErrNone of one whose count is 0, be it free or pinned, though a tree stands there; whichever key it is.
func TestRoots(t *testing.T) {
	g := pair()
	for at := range 8 {
		g.s.Disk.Blocks[at] = block(g.nodes[8])
	}
	for _, k := range []api.Key{key(2, 0), key(4, 0), key(3, 0), lowest, highest} {
		for root := -10; root < 270; root++ {
			if root < 8 || root > 255 {
				refused(t, "no such block", g.s, root, k, api.ErrArg)
			} else if root > 9 {
				refused(t, "nobody holds it", g.s, root, k, api.ErrNone)
			}
		}
		for _, root := range strayRoots {
			refused(t, "no such block", g.s, root, k, api.ErrArg)
		}
		for _, last := range []byte{0, 1, 255} {
			for _, root := range []int{8, 9} {
				s := room.Twin(g.s)
				s.Now[root], s.Last[root] = 0, last
				refused(t, "nobody holds it", s, root, k, api.ErrNone)
			}
		}
	}
	for at := 8; at < 256; at++ {
		s := room.New()
		s.Disk.Blocks[at], s.Now[at] = block(api.Node{Items: ids(2, 3)}), 1
		out, now, e := del.Del(s, at, key(2, 0))
		if want := 8 + 9/(at+1); e != api.OK || now != want || out.Now[at] != 0 {
			t.Errorf("a root at %d: %d, %d, want %d", at, now, e, want)
		}
		shows(t, "a root anywhere", out, now, []int{3})
	}
}

// P13.1: find.Check's ErrBad, beside nothing, of what is no tree, on the way or off it; whichever key it is.
func TestNoTree(t *testing.T) {
	for _, c := range []tree{combs()[3], combs()[13], combs()[22]} {
		items := c.items(c.root)
		for i, at := range c.row {
			n := c.nodes[at]
			turns := []api.Node{{}, {Items: ids(9)}, {Level: n.Level, Items: slices.Clone(n.Items)}, {Level: (n.Level + 1) % 6, Items: []api.Item{{Key: n.Items[0].Key, Ref: at}}}}
			turns[2].Items[0].Key = before(n.Items[0].Key)
			var wrong []api.Store
			for _, m := range turns {
				g := c.twin()
				g.set(at, m)
				wrong = append(wrong, g.s)
			}
			noNode, none := c.twin(), c.twin()
			noNode.s.Disk.Waits = append(noNode.s.Disk.Waits, api.Write{At: at, Data: notNodes()[i%8]})
			none.s.Now[at] = 0
			wrong = append(wrong, noNode.s, none.s)
			for _, s := range wrong {
				if _, e := find.Check(s, c.root); e != api.OK {
					refused(t, "no tree", s, c.root, items[i%len(items)].Key, e)
					refused(t, "no tree", s, c.root, next(items[i%len(items)].Key), e)
					refused(t, "no tree", s, c.root, lowest, e)
				} else if at != c.root {
					t.Errorf("a node at %d was turned, and it is a tree", at)
				}
			}
		}
	}
	for _, b := range notNodes() {
		s := room.New()
		s.Disk.Blocks[8], s.Now[8] = b, 1
		refused(t, "no node", s, 8, key(1, 0), api.ErrBad)
		refused(t, "no node", s, 8, lowest, api.ErrBad)
	}
	for level := 1; level < 6; level++ {
		g := bare(level)
		g.s.Now[8] = 200
		g.set(8, api.Node{Level: level, Items: []api.Item{{Key: nth(0), Ref: 8}}})
		refused(t, "a round", g.s, 8, nth(0), api.ErrBad)
	}
}

// P13.1: ErrNone of a key that no item has: ahead of all, behind all, between two, and such as differ from one in one part; whether there is room or not.
func TestKeyOfNone(t *testing.T) {
	for _, c := range trees() {
		for _, s := range []api.Store{c.s, c.only(0)} {
			refused(t, "no item's key", s, c.root, lowest, api.ErrNone)
			refused(t, "no item's key", s, c.root, highest, api.ErrNone)
			for _, x := range pick(c.items(c.root), 5) {
				k := x.Key
				for _, k := range []api.Key{before(k), next(k), {Kind: k.Kind + 1, Id: k.Id, Off: k.Off}, {Kind: k.Kind, Id: k.Id - 1, Off: k.Off}, {Kind: k.Kind, Id: k.Id, Off: k.Off + 1<<8}, {Kind: k.Kind, Id: k.Id + 1<<24, Off: k.Off}} {
					refused(t, "no item's key", s, c.root, k, api.ErrNone)
				}
			}
		}
	}
	for _, k := range []api.Key{lowest, highest} {
		g := bare(1)
		root := g.lay(api.Node{Items: []api.Item{{Key: k, Ref: g.data[0]}}})
		g.held(root)
		g.shrinks(t, "a key at an end", root, k)
	}
}

// P13.1: ErrFull, as long as fewer blocks are free, or fewer writes may wait, than are to be written: with none, with one, and so on; with just enough of them it goes well, though what is left comes free by it.
func TestFull(t *testing.T) {
	for _, c := range append(trees()[:19], combs()[4], combs()[11], combs()[17], combs()[23]) {
		for _, x := range pick(c.items(c.root), 2) {
			w, _, e := c.told(c.root, x.Key)
			if e != api.OK {
				t.Fatal(e)
			}
			need := w.written(c.garden)
			for many := range need + 2 {
				few, waits := c.twin(), c.twin()
				few.s, waits.s = c.only(many), waiting(waits.s, 4096-many)
				for _, g := range []*garden{few, waits} {
					if many < need {
						refused(t, "too few", g.s, c.root, x.Key, api.ErrFull)
					} else {
						g.shrinks(t, "just enough", c.root, x.Key)
					}
				}
			}
		}
	}
}

// P13.1: any block of a tree, or any to which its items refer, counted nearly as often as may be: ErrCount, if it would be counted more often in between.
func TestCountedTooOften(t *testing.T) {
	well, not := 0, 0
	for _, c := range append(trees()[1:14], combs()...) {
		for _, x := range pick(c.items(c.root), 2) {
			for _, at := range append(pick(c.row, 20), c.data...) {
				for _, count := range []byte{253, 254, 255} {
					g := c.twin()
					g.s.Now[at] = count
					if w, _ := g.dels(t, "counted so often", c.root, x.Key); w != nil {
						well++
					} else {
						not++
					}
				}
			}
		}
	}
	if well < 100 || not < 100 {
		t.Errorf("%d went well, %d not: too few to tell", well, not)
	}
}

// P13.1: the counts of shared nodes by hand, at their bounds: a node that stays below a new one counts once more; one that becomes the root, twice; one that goes into another, or is on the way, not at all, but what it refers to, once.
func TestSharedByHand(t *testing.T) {
	for _, c := range []struct {
		what  string
		id    int
		block func(g *garden, n api.Node) int // which one is counted often, n being the root
		most  int                             // how often it may be counted
	}{
		{"beside the way", 13, func(g *garden, n api.Node) int { return n.Items[0].Ref }, 254},
		{"beside the way, behind", 11, func(g *garden, n api.Node) int { return n.Items[2].Ref }, 254},
		{"on the way", 11, func(g *garden, n api.Node) int { return n.Items[0].Ref }, 255},
		{"the neighbour behind", 11, func(g *garden, n api.Node) int { return n.Items[1].Ref }, 255},
		{"the neighbour ahead", 31, func(g *garden, n api.Node) int { return n.Items[1].Ref }, 255},
		{"the neighbour's Ref", 11, func(g *garden, n api.Node) int { return g.nodes[n.Items[1].Ref].Items[0].Ref }, 254},
		{"the leaf's other Ref", 11, func(g *garden, n api.Node) int { return g.nodes[n.Items[0].Ref].Items[1].Ref }, 254},
		{"its own Ref", 11, func(g *garden, n api.Node) int { return g.nodes[n.Items[0].Ref].Items[0].Ref }, 255},
		{"a Ref beside the way", 11, func(g *garden, n api.Node) int { return g.nodes[n.Items[2].Ref].Items[0].Ref }, 255},
	} {
		for count := 250; count < 256; count++ {
			g := bare(1)
			var row []int
			for _, l := range [][]int{{11, 13}, {21, 23, 25}, {31, 33}} {
				n := api.Node{Items: ids(l...)}
				for i := range n.Items {
					n.Items[i].Ref = g.take()
				}
				row = append(row, g.lay(n))
			}
			root := g.above(row...)
			// 13 taken out: its leaf and the next one are together four; the first node beside the way is another one then.
			if c.id == 13 {
				leaf := g.lay(api.Node{Items: ids(1, 2, 3, 4, 5)})
				root = g.above(leaf, row[0], row[1], row[2])
			}
			g.held(root)
			at := c.block(g, g.nodes[root])
			g.s.Now[at] = byte(count)
			if count > c.most {
				refused(t, c.what, g.s, root, key(c.id, 0), api.ErrCount)
			} else {
				g.shrinks(t, c.what, root, key(c.id, 0))
			}
		}
	}
	for level := 1; level < 6; level++ {
		for i := range level {
			for count := 250; count < 256; count++ {
				// A leaf goes, a chain of nodes stays: the i-th from above is counted often. The leaf at its end is the root then.
				g := bare(level)
				goes := g.full(level-1, 1)
				root := g.above(goes, g.full(level-1, 1))
				g.held(root)
				at, most := g.nodes[root].Items[1].Ref, 253
				for range i {
					at, most = g.nodes[at].Items[0].Ref, 254
				}
				g.s.Now[at] = byte(count)
				if k := g.items(goes)[0].Key; count > most {
					refused(t, "a chain that becomes the tree", g.s, root, k, api.ErrCount)
				} else {
					g.shrinks(t, "a chain that becomes the tree", root, k)
				}
			}
		}
	}
}

// P13.1: the counts of what the items of the leaf refer to, by hand: so often they count more till the old leaf is left.
func TestCountsByHand(t *testing.T) {
	for _, c := range []struct {
		refs        []int // the leaf's; its keys are 0, 1, 2 and so on
		id          int
		more, after int // by how much the count of 200 is higher in between, and behind
	}{
		{[]int{200}, 0, 0, -1}, {[]int{0}, 0, 0, 0}, {[]int{200, 201}, 0, 0, -1}, {[]int{200, 201}, 1, 1, 0}, {[]int{200, 0}, 1, 1, 0},
		{[]int{200, 200}, 0, 1, -1}, {[]int{200, 200}, 1, 1, -1}, {[]int{200, 0, 200}, 1, 2, 0}, {[]int{200, 201, 200}, 2, 1, -1},
		{[]int{200, 200, 200, 200, 200}, 4, 4, -1}, {[]int{200, 200, 200, 200, 200}, 2, 4, -1}, {[]int{200, 200, 200, 201, 200}, 3, 4, 0}, {[]int{201, 201, 201, 201, 200}, 0, 1, 0},
	} {
		for count := max(1, 248-c.more); count < 256; count++ {
			g := bare(1)
			n := api.Node{}
			for i, ref := range c.refs {
				n.Items = append(n.Items, api.Item{Key: key(i, 0), Ref: ref})
			}
			g.set(100, n)
			g.s.Now[100], g.s.Now[200], g.s.Now[201] = 1, byte(count), 99
			k := key(c.id, 0)
			if count+c.more > 255 {
				refused(t, "once too often", g.s, 100, k, api.ErrCount)
				continue
			}
			if count < c.more-c.after {
				g.dels(t, "too few times", 100, k)
				continue
			}
			w, _ := g.shrinks(t, "not too often", 100, k)
			if w.s.Now[200] != byte(count+c.after) {
				t.Errorf("%v: counted %d times, and behind that %d times", c, count, w.s.Now[200])
			}
			g.s.Now[100] = 2
			w, _ = g.shrinks(t, "and the old one stays", 100, k)
			if w.s.Now[200] != byte(count+c.more) {
				t.Errorf("%v: counted %d times, and with the old one %d times", c, count, w.s.Now[200])
			}
		}
	}
}

// P13.1: of several errors of drop.Make the first one tells, from the leaf up: of each node its Refs' counts, then whether there is room.
func TestMakesInOrder(t *testing.T) {
	for level := 1; level < 6; level++ {
		for way := 2; way < 5; way++ {
			g := bare(way)
			root := g.path(level, 63, way, 1)
			g.held(root)
			k := g.nodes[g.end].Items[0].Key
			at := root
			for i := level; i > 0; i-- {
				n := g.nodes[at]
				for many := range 8 {
					// The first node is not the one on the way, nor its neighbour: it stays.
					c := g.twin()
					c.s.Now[n.Items[0].Ref] = 255
					want := api.ErrFull
					if many >= i {
						want = api.ErrCount
					}
					s := c.only(many)
					refused(t, "too often at a level", s, root, k, want)
					refused(t, "too often at a level", waiting(s, 4096), root, k, api.ErrFull)
				}
				at = n.Items[way].Ref
			}
			c := g.twin()
			for _, x := range g.nodes[g.end].Items[1:] {
				if x.Ref != 0 {
					c.s.Now[x.Ref] = 255
				}
			}
			refused(t, "too often at the leaf, and no room", c.only(0), root, k, api.ErrCount)
		}
	}
}

// P13.1: drop.Leave's ErrBad, where what the item refers to is counted too few times: it is the root, or another node of the way, which goes ahead of it. It comes behind drop.Make's errors.
func TestCountedTooFewTimes(t *testing.T) {
	for _, c := range append(trees()[1:14], combs()...) {
		items := c.items(c.root)
		k := items[len(items)-1].Key
		way := []int{c.root}
		for n := c.nodes[c.root]; n.Level > 0; n = c.nodes[way[len(way)-1]] {
			way = append(way, n.Items[by(n, k)].Ref)
		}
		for _, ref := range way {
			g := c.twin()
			g.refer(c.root, len(items)-1, ref)
			refused(t, "counted once", g.s, c.root, k, api.ErrBad)
			refused(t, "counted once, and no room", g.only(0), c.root, k, api.ErrFull)
			g.s.Now[ref]++
			g.shrinks(t, "counted twice", c.root, k)
			g.s.Now[ref]--
			g.s.Now[c.root]++
			g.shrinks(t, "the root stays", c.root, k)
		}
	}
}

// P13.1: of several errors that one comes that stands first, whichever others there are.
func TestErrorsInOrder(t *testing.T) {
	type ask struct {
		s    api.Store
		root int
		k    api.Key
	}
	g := bare(2)
	goes, stays := g.leaf(1), g.leaf(3)
	root := g.above(goes, stays)
	g.held(root)
	faults := []struct {
		what string
		want api.Errno
		turn func(a *ask)
	}{
		{"a store that may not be", api.ErrBad, func(a *ask) { a.s.Last = a.s.Last[:255] }},
		{"no such root", api.ErrArg, func(a *ask) { a.root = 7 }},
		{"nobody holds the root", api.ErrNone, func(a *ask) { a.s.Now[a.root] = 0 }},
		{"no tree", api.ErrBad, func(a *ask) { a.s.Disk.Waits = append(a.s.Disk.Waits, api.Write{At: stays, Data: filled(0)}) }},
		{"no item's key", api.ErrNone, func(a *ask) { a.k = next(a.k) }},
		{"counted too often to be below a new root", api.ErrCount, func(a *ask) { a.s.Now[stays] = 255 }},
		{"no room", api.ErrFull, func(a *ask) {
			for i, c := range a.s.Now[8:] {
				if c == 0 {
					a.s.Last[8+i] = 1
				}
			}
		}},
		{"counted too often to be the root", api.ErrCount, func(a *ask) { a.s.Now[stays] = 254 }},
		{"counted too few times", api.ErrBad, func(a *ask) {
			n := node.Twin(g.nodes[goes])
			n.Items[0].Ref = root
			a.s.Disk.Waits = append(a.s.Disk.Waits, api.Write{At: goes, Data: block(n)})
		}},
	}
	for mask := range 1 << len(faults) {
		c := g.twin()
		a := ask{c.s, root, g.nodes[goes].Items[0].Key}
		what, want := "", api.OK
		for i, f := range slices.Backward(faults) {
			if mask>>i&1 == 1 {
				f.turn(&a)
				what, want = f.what+"; "+what, f.want
			}
		}
		if want != api.OK {
			refused(t, what, a.s, a.root, a.k, want)
		} else {
			c.shrinks(t, "no fault", root, a.k)
		}
	}
}

// P13.3: what is put in by a key that was not there, and then taken out, leaves the items as they were, and each block counted as often as it is referred to.
func TestPutAndTakenOut(t *testing.T) {
	for _, c := range trees() {
		items := c.items(c.root)
		keys := []api.Key{lowest, highest}
		for _, x := range pick(items, 6) {
			keys = append(keys, before(x.Key), next(x.Key))
		}
		for i, k := range keys {
			s, x := c.s, api.Item{Key: k, Val: some(i%13, i)}
			if i%3 > 0 {
				// A hold that the item takes over.
				x.Ref = c.data[i%3]
				s, _ = room.Share(s, x.Ref)
			}
			s, root, e := put.Put(s, c.root, x)
			if e == api.ErrTall {
				continue
			}
			if e != api.OK {
				t.Fatal(e)
			}
			g := c.twin()
			g.s = s
			g.know(t, root)
			w, now := g.shrinks(t, "put in, and taken out", root, k)
			has(t, "put in, and taken out", w.s, now, items)
			w.counted(t, "put in, and taken out", now)
		}
	}
}

// P13.1, P13.3, W6: item by item out of trees of all kinds, from the first one, from the last one, and from between, till none is left: the tree gets no higher, and in the end it is one leaf.
func TestTillNoneIsLeft(t *testing.T) {
	for _, c := range trees() {
		for _, from := range []func(i, many int) int{
			func(i, many int) int { return 0 },
			func(i, many int) int { return many - 1 },
			func(i, many int) int { return i * 7 % many },
		} {
			g, root := c.twin(), c.root
			for i := 0; len(g.items(root)) > 0; i++ {
				l := g.items(root)
				g, root = g.shrinks(t, "item by item", root, l[from(i, len(l))].Key)
				g.counted(t, "item by item", root)
				// What is left waits to be written still: all is committed now and then.
				if i%6 == 5 {
					g.s.Disk, _ = dev.Barrier(g.s.Disk)
					g.s.Last = bytes.Clone(g.s.Now)
				}
			}
			if n, e := room.Node(g.s, root); e != api.OK || !node.Same(n, api.Node{}) {
				t.Errorf("none is left: %v, %d", n, e)
			}
		}
	}
}

// plot is a garden with volumes: whose trees they are, and what is in them.
type plot struct {
	*garden
	dice
	vols []vol
}

// vol is a tree that is held, and its items.
type vol struct {
	root  int
	items []api.Item
}

// ref is a block that is held for an item: none, one that is taken anew, or one that an item has already.
func (p *plot) ref(t *testing.T) int {
	t.Helper()
	var e api.Errno
	at := 0
	switch p.roll(4) {
	case 0:
		if p.s, at, e = room.Take(p.s, some(128, p.roll(99))); e != api.OK {
			t.Fatal(e)
		}
		delete(p.nodes, at)
	case 1:
		l := p.vols[p.roll(len(p.vols))].items
		if len(l) == 0 || l[len(l)/2].Ref == 0 {
			return 0
		}
		at = l[len(l)/2].Ref
		if p.s, e = room.Share(p.s, at); e != api.OK {
			t.Fatal(e)
		}
	}
	return at
}

// plant puts an item into some volume.
func (p *plot) plant(t *testing.T) {
	t.Helper()
	v := &p.vols[p.roll(len(p.vols))]
	x := api.Item{Key: nth(p.roll(90)), Val: some(p.roll(13), p.roll(99)), Ref: p.ref(t)}
	s, now, e := put.Put(p.s, v.root, x)
	if e != api.OK {
		t.Fatal(e)
	}
	p.s, v.root, v.items = s, now, with(v.items, x)
	p.know(t, now)
}

// pluck takes an item out of some volume that has one.
func (p *plot) pluck(t *testing.T) {
	t.Helper()
	v := &p.vols[p.roll(len(p.vols))]
	if len(v.items) == 0 {
		refused(t, "a plot", p.s, v.root, nth(p.roll(90)), api.ErrNone)
		return
	}
	k := v.items[p.roll(len(v.items))].Key
	g, now := p.shrinks(t, "a plot", v.root, k)
	p.garden, v.root, v.items = g, now, without(v.items, k)
}

// fell leaves some volume.
func (p *plot) fell(t *testing.T) {
	t.Helper()
	i := p.roll(len(p.vols))
	s, e := drop.Leave(p.s, p.vols[i].root)
	if e != api.OK {
		t.Fatal(e)
	}
	p.s, p.vols = s, slices.Delete(p.vols, i, i+1)
}

// copy holds some volume's tree once more.
func (p *plot) copy(t *testing.T) {
	t.Helper()
	v := p.vols[p.roll(len(p.vols))]
	s, e := room.Share(p.s, v.root)
	if e != api.OK {
		t.Fatal(e)
	}
	p.s, p.vols = s, append(p.vols, v)
}

// settle commits all: what was counted by then is not free before the next time.
func (p *plot) settle() {
	p.s.Disk, _ = dev.Barrier(p.s.Disk)
	p.s.Last = bytes.Clone(p.s.Now)
}

// stands fails, unless each volume has its items, and each block is counted as often as it is referred to.
func (p *plot) stands(t *testing.T) {
	t.Helper()
	var holds []int
	for _, v := range p.vols {
		has(t, "a volume", p.s, v.root, v.items)
		holds = append(holds, v.root)
	}
	if want := p.counts(holds...); !bytes.Equal(p.s.Now, want) {
		t.Fatalf("counts %v, want %v", p.s.Now, want)
	}
}

// P13.1, P13.3, W2, W3: behind each of many steps each volume has what was put into it and not taken out, whatever was done to others that share blocks with it, and each block is counted as often as it is referred to; when all is taken out and left, nothing is.
func TestPlot(t *testing.T) {
	p := plot{garden: bare(0), dice: 5}
	p.s = room.New()
	highest, most := 0, 0
	for step := range 900 {
		free, e := room.Free(p.s)
		if e != api.OK {
			t.Fatal(e)
		}
		switch k := p.roll(40); {
		case len(p.vols) == 0 || k == 0 && len(p.vols) < 6 && len(free) > 0:
			s, root, e := put.New(p.s)
			if e != api.OK {
				t.Fatal(step, e)
			}
			p.s, p.nodes[root] = s, api.Node{}
			p.vols = append(p.vols, vol{root: root})
		case k < 3 && len(p.vols) < 6:
			p.copy(t)
		case len(free) < 20 && step%2 == 0:
			p.fell(t)
		case len(free) < 20 || k == 3:
			p.settle()
		case k < 22+step/300*3:
			p.plant(t)
		default:
			p.pluck(t)
		}
		p.stands(t)
		most = max(most, len(p.vols))
		for _, v := range p.vols {
			highest = max(highest, p.nodes[v.root].Level)
		}
	}
	if highest < 2 || most < 6 {
		t.Errorf("up to level %d, %d volumes: too few to tell", highest, most)
	}
	for len(p.vols) > 0 {
		for len(p.vols[0].items) > 0 {
			k := p.vols[0].items[0].Key
			g, now := p.shrinks(t, "all of a plot", p.vols[0].root, k)
			p.garden, p.vols[0].root, p.vols[0].items = g, now, p.vols[0].items[1:]
			p.settle()
			p.stands(t)
		}
		s, e := drop.Leave(p.s, p.vols[0].root)
		if e != api.OK {
			t.Fatal(e)
		}
		p.s, p.vols = s, p.vols[1:]
	}
	if p.stands(t); !bytes.Equal(p.s.Now, make([]byte, 256)) {
		t.Error("all was left, but not all is gone", p.s.Now)
	}
}

// P13.3, W6: many keys, put in and taken out in any order: what is left is there in order, in a tree that gets no higher, and in the end is a leaf.
func TestManyKeys(t *testing.T) {
	for what, of := range map[string]func(i int) int{
		"rising":     func(i int) int { return i },
		"falling":    func(i int) int { return 159 - i },
		"by turns":   func(i int) int { return 80 - i%2 + i/2*(1-i%2*2) },
		"in between": func(i int) int { return i * 47 % 160 },
	} {
		s, root, e := put.New(room.New())
		there := map[int]api.Item{}
		for i := range 160 {
			x := api.Item{Key: nth(of(i)), Val: some(i%13, i)}
			if s, root, e = put.Put(s, root, x); e != api.OK {
				t.Fatal(what, i, e)
			}
			s.Disk, _ = dev.Barrier(s.Disk)
			there[of(i)] = x
		}
		highest, e := find.Check(s, root)
		if e != api.OK || len(there) != 160 {
			t.Fatal(what, len(there), e)
		}
		for i := range 160 {
			n := of((i*57 + 11) % 160)
			if s, root, e = del.Del(s, root, nth(n)); e != api.OK {
				t.Fatal(what, i, e)
			}
			delete(there, n)
			if i%20 == 0 {
				var want []api.Item
				for _, n := range slices.Sorted(maps.Keys(there)) {
					want = append(want, there[n])
				}
				has(t, what, s, root, want)
			}
			height, e := find.Check(s, root)
			if e != api.OK || height > highest {
				t.Fatalf("%s: %d high, %d, was %d", what, height, e, highest)
			}
			highest = height
			s.Disk, _ = dev.Barrier(s.Disk)
		}
		if want := ones(root); highest != 1 || !bytes.Equal(s.Now, want) {
			t.Errorf("%s: %d high, counts %v", what, highest, s.Now)
		}
	}
}

// ones is counts of no block but these, each of which is counted once.
func ones(blocks ...int) []byte {
	c := make([]byte, 256)
	for _, at := range blocks {
		c[at] = 1
	}
	return c
}

// few is some trees of different heights, for what is to be held against all that memory has.
func few() []tree {
	return []tree{trees()[1], trees()[5], trees()[7], combs()[2], combs()[14], combs()[21]}
}

// P13.2: what is handed in, its spare room too, stays as it was, whatever is answered, and whatever is done to that.
func TestReadsAlone(t *testing.T) {
	for _, c := range few() {
		odd, broken, full := c.roomy(), c.roomy(), c.roomy()
		odd.Now = odd.Now[:255]
		broken.Now[c.row[0]] = 0
		for at := 8; at < 256; at++ {
			full.Last[at] = 1
		}
		for _, s := range []api.Store{c.roomy(), odd, broken, full} {
			was := bared(s)
			for _, root := range []int{c.root, 7, 256, -1, c.data[0]} {
				keys := []api.Key{lowest, next(nth(0)), highest}
				for _, x := range pick(c.items(c.root), 4) {
					keys = append(keys, x.Key)
				}
				for _, k := range keys {
					out, _, _ := del.Del(s, root, k)
					wreck(out)
				}
			}
			if !room.Same(bared(s), was) {
				t.Error("what was handed in, or its spare room, was turned")
			}
		}
	}
}

// P13.2: what is done to a store that is answered is seen nowhere, and the other way.
func TestNewMemory(t *testing.T) {
	for _, c := range few() {
		for _, x := range pick(c.items(c.root), 4) {
			s := c.roomy()
			was := bared(s)
			first, _, e := del.Del(s, c.root, x.Key)
			second, _, f := del.Del(s, c.root, x.Key)
			if e != api.OK || f != api.OK {
				t.Fatal(e, f)
			}
			want := room.Twin(first)
			wreck(second)
			if !room.Same(first, want) || !room.Same(bared(s), was) {
				t.Error("what is done to an answer is seen in an earlier one, or in the argument")
			}
			if third, _, e := del.Del(s, c.root, x.Key); e != api.OK || !room.Same(third, want) {
				t.Error("a later answer is another one")
			}
			wreck(s)
			if !room.Same(first, want) {
				t.Error("what is done to the argument is seen in the answer")
			}
		}
	}
}

// P13.2: no two lists of a store that is answered share memory, their spare room neither, though those that are handed in do.
func TestSharesNothing(t *testing.T) {
	for _, leaf := range [][]int{{2}, {2, 4}, {2, 4, 6, 8, 10}} {
		counts := make([]byte, 256)
		counts[100], counts[101] = 1, 1
		leafs := block(api.Node{Items: ids(leaf...)})
		s := api.Store{Disk: api.Disk{Blocks: slices.Repeat([][]byte{counts[128:]}, 256)}, Now: counts, Last: counts}
		s.Disk.Waits = []api.Write{{At: 100, Data: leafs}, {At: 99, Data: leafs}, {At: 7, Data: counts[:128]}, {At: 6, Data: counts[128:]}}
		out, _, e := del.Del(s, 100, key(2, 0))
		if e != api.OK || room.Check(out) != api.OK {
			t.Fatal(e)
		}
		all, then := lists(out), lists(room.Twin(out))
		for i, b := range all {
			spoil(b)
			many := 0
			for j, c := range all {
				if !bytes.Equal(c, then[j]) {
					many++
				}
			}
			if spoil(b); many != 1 {
				t.Fatalf("what is done to list %d is seen in %d", i, many)
			}
		}
	}
}

// R2: what is answered hangs on what is handed in alone: other stores, other roots, a store that was turned between two calls.
func TestHangsOnArgumentsAlone(t *testing.T) {
	l := []tree{trees()[12], combs()[7], combs()[22]}
	for range 3 {
		for i, c := range l {
			k := c.items(c.root)[i].Key
			c.shrinks(t, "among others", c.root, k)
			pair().shrinks(t, "among others", 9, key(4, 0))
			g := c.twin()
			g.s.Now[c.row[0]] = 0
			_, want := find.Check(g.s, c.root)
			refused(t, "turned", g.s, c.root, k, want)
			g.s.Now[c.row[0]] = 1
			n := g.nodes[c.row[0]]
			n.Items[0].Val = []byte{99}
			g.set(c.row[0], n)
			g.shrinks(t, "written anew", c.root, k)
			g.s.Now[c.data[i]] = 0
			_, want = find.Check(g.s, c.root)
			refused(t, "turned once more", g.s, c.root, next(k), cmp.Or(want, api.ErrNone))
		}
	}
}

// P13.1: of gardens in which anything was turned Del has find.Check's error, or answers what the words tell.
func TestAsTheWordsTell(t *testing.T) {
	d := dice(17)
	errs := map[api.Errno]int{}
	for round := range 500 {
		g := bare(round)
		own, beside := make([]int, 6), make([]int, 6)
		for i := range 6 {
			own[i], beside[i] = 1+d.roll(4), 1+d.roll(4)
		}
		root := g.hedge(1+d.roll(3), d.roll(4), own, beside)
		g.held(root)
		was := g.twin()
		for range d.roll(4) {
			if g.turn(&d); !g.well() {
				g = was.twin()
			}
		}
		g.s = g.only(d.roll(6))
		for range 5 {
			k := nth(d.roll(g.keys))
			if d.roll(3) > 0 {
				// One of the leaf on the way, where neighbours are of all sizes.
				l := g.nodes[g.end].Items
				k = l[d.roll(len(l))].Key
			}
			if d.roll(12) == 0 {
				k = next(k)
			}
			if _, e := find.Check(g.s, root); e != api.OK {
				errs[e]++
				refused(t, "by the words none", g.s, root, k, e)
				continue
			}
			_, _, e := g.told(root, k)
			errs[e]++
			g.dels(t, "by the words one", root, k)
		}
	}
	for _, e := range []api.Errno{api.OK, api.ErrNone, api.ErrBad, api.ErrFull, api.ErrCount} {
		if errs[e] < 10 {
			t.Errorf("too few to tell: %v", errs)
		}
	}
}

// The chapter's examples.
func TestExamples(t *testing.T) {
	s, root, e := put.New(room.New())
	for id := 1; id < 7; id++ {
		if s, root, e = put.Put(s, root, ids(id)[0]); e != api.OK {
			t.Fatal(id, e)
		}
	}
	out, now, e := del.Del(s, root, key(1, 0))
	if e != api.OK {
		t.Fatal("Del(six, .., 1)", e)
	}
	if height, e := find.Check(out, now); e != api.OK || height != 1 {
		t.Error("Del(six, .., 1): height", height, e)
	}
	has(t, "Del(six, .., 1)", out, now, ids(2, 3, 4, 5, 6))
	refused(t, "Del(.., root 7)", s, 7, key(1, 0), api.ErrArg)
	one, root, e := drop.Make(room.New(), api.Node{Items: []api.Item{{Key: key(5, 0), Val: []byte{7}}}})
	if e != api.OK {
		t.Fatal(e)
	}
	none, now, e := del.Del(one, root, key(5, 0))
	if e != api.OK {
		t.Fatal("Del(a leaf of one item)", e)
	}
	has(t, "Del(a leaf of one item)", none, now, nil)
	refused(t, "Del(that, the same key)", none, now, key(5, 0), api.ErrNone)
	if x, e := find.Find(one, root, key(5, 0)); e != api.OK || !item.Same(x, api.Item{Key: key(5, 0), Val: []byte{7}}) {
		t.Error("what was handed in", x, e)
	}
}

// The chapter's errors, and its limits, have its numbers.
func TestErrors(t *testing.T) {
	if api.ErrArg != 2 || api.ErrNone != 6 || api.ErrBad != 8 || api.ErrFull != 9 || api.ErrCount != 70 {
		t.Error(int(api.ErrArg), int(api.ErrNone), int(api.ErrBad), int(api.ErrFull), int(api.ErrCount))
	}
	if api.Blocks != 256 || api.First != 8 || api.MaxFan != 5 || api.MaxHeight != 6 || api.MaxVal != 12 || api.MaxWaits != 4096 {
		t.Error(api.Blocks, api.First, api.MaxFan, api.MaxHeight, api.MaxVal, api.MaxWaits)
	}
}
