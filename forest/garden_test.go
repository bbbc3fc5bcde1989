package forest_test

import (
	"bytes"
	"maps"
	"math"
	"slices"
	"testing"

	"scionry/api"
	"scionry/dev"
	"scionry/find"
	"scionry/forest"
	"scionry/item"
	"scionry/node"
	"scionry/put"
	"scionry/room"
	"scionry/sum"
	"scionry/walk"
)

// lowest and highest are the keys at both ends.
var (
	lowest  = api.Key{}
	highest = api.Key{Kind: 255, Id: api.MaxWord, Off: api.MaxWord}
)

// strays are the places of no block that may be taken: the first ones at its edges, then such of which some bytes are right.
var strays = []int{0, 7, 256, 65536, -1, 1, 4, 257, -8, -248, 256 + 8, 1<<16 + 9, 1 << 32, 1<<32 + 9, -1<<32 + 9, math.MaxInt, math.MinInt, math.MinInt + 9}

// nth is the n-th of keys that rise.
func nth(n int) api.Key {
	return api.Key{Kind: uint8(2 + n/32*2), Id: uint32(10 + n/8%4*2), Off: uint32(100 + n%8*2)}
}

// filled is a block of one byte, again and again.
func filled(c byte) []byte { return bytes.Repeat([]byte{c}, 128) }

// some is many bytes that differ from place to place, and by seed.
func some(many, seed int) []byte {
	b := make([]byte, many)
	for i := range b {
		b[i] = byte(i*i*29 + i*seed + i>>1 + seed*83)
	}
	return b
}

// block is n's block.
func block(n api.Node) []byte {
	b, e := node.Write(n)
	if e != api.OK {
		panic(e)
	}
	return b
}

// tells is the item that tells v, byte by byte.
func tells(v api.Volume) api.Item {
	val := []byte{byte(v.Root), byte(v.Root >> 8), 0, byte(v.From), byte(v.From >> 8), byte(v.From >> 16), byte(v.From >> 24)}
	if v.Frozen {
		val[2] = 1
	}
	return api.Item{Key: api.Key{Kind: 1, Id: v.Id, Off: 0}, Ref: 0, Val: val}
}

// garden is a pool, and the nodes that are in its blocks; what grows in it has keys behind all that were given out.
type garden struct {
	p     api.Pool
	nodes map[int]api.Node
	row   []int        // the places of the nodes, each behind those below it
	vols  []api.Volume // rising
	data  []int        // blocks of no nodes, to which leaves refer: each is held once
	keys  int          // how many were given out
	taken int          // how many blocks were
	seed  int
}

// bare is a garden of no nodes, all of whose blocks differ; where blocks are taken differs by seed. Of the others one of three was counted when all was committed last.
func bare(seed int) *garden {
	g := &garden{p: api.Pool{Store: room.New(), Gen: uint32(seed * 3), Next: uint32(100 + seed)}, nodes: map[int]api.Node{}, seed: seed}
	for at := range g.p.Store.Disk.Blocks {
		g.p.Store.Disk.Blocks[at] = append(some(127, at), byte(at))
		if at > 7 && (at+seed)%3 == 0 {
			g.p.Store.Last[at] = byte(at)
		}
	}
	for range 3 {
		g.data = append(g.data, g.take())
	}
	return g
}

// take is the place of a block that wasn't taken.
func (g *garden) take() int {
	at := 8 + (g.taken*37+g.seed*11)%248
	g.taken++
	return at
}

// set is that node in that block; in every other one it waits to be written, over a leaf that lasts, and over others that wait.
func (g *garden) set(at int, n api.Node) {
	g.nodes[at] = n
	d := &g.p.Store.Disk
	if at%2 == 0 {
		d.Blocks[at] = block(n)
		return
	}
	d.Blocks[at] = block(api.Node{})
	d.Waits = append(d.Waits, api.Write{At: at, Data: filled(1)}, api.Write{At: at, Data: block(n)})
}

// lay is the place of a block with that node.
func (g *garden) lay(n api.Node) int {
	at := g.take()
	g.set(at, n)
	g.row = append(g.row, at)
	return at
}

// leaf is the place of a leaf with many items; some of them refer to nothing, several to one block.
func (g *garden) leaf(many int) int {
	n := api.Node{}
	for range many {
		x := api.Item{Key: nth(g.keys), Val: some(g.keys%13, g.keys)}
		if g.keys%4 > 0 {
			x.Ref = g.data[g.keys%4-1]
		}
		n.Items = append(n.Items, x)
		g.keys++
	}
	return g.lay(n)
}

// refers is the place of a leaf, whose items refer to these.
func (g *garden) refers(refs ...int) int {
	n := api.Node{}
	for _, ref := range refs {
		n.Items = append(n.Items, api.Item{Key: nth(g.keys), Ref: ref})
		g.keys++
	}
	return g.lay(n)
}

// above is the place of a node above these, all of one level.
func (g *garden) above(below ...int) int {
	n := api.Node{Level: g.nodes[below[0]].Level + 1}
	for _, at := range below {
		n.Items = append(n.Items, api.Item{Key: g.nodes[at].Items[0].Key, Ref: at})
	}
	return g.lay(n)
}

// tree is the root of a tree of that level, all nodes of which have many items.
func (g *garden) tree(level, many int) int {
	if level == 0 {
		return g.leaf(many)
	}
	var below []int
	for range many {
		below = append(below, g.tree(level-1, many))
	}
	return g.above(below...)
}

// vol makes the tree at root a volume, behind all that are there; whether it is frozen, and of which one it was made, differs.
func (g *garden) vol(id uint32, root int) {
	v := api.Volume{Id: id, Root: root, Frozen: (g.seed+len(g.vols))%2 == 1}
	v.From = []uint32{0, 1, id, 1<<24 + 7, api.MaxWord, 0xfedcba98}[(g.seed+len(g.vols))%6]
	g.vols = append(g.vols, v)
}

// plant lays the forest of all volumes, with at most so many items a leaf, and as many a node above, but two at least.
func (g *garden) plant(fan int) *garden {
	var items []api.Item
	for _, v := range g.vols {
		items = append(items, tells(v))
	}
	return g.wild(fan, items...)
}

// wild lays a forest of these items.
func (g *garden) wild(fan int, items ...api.Item) *garden {
	var row []int
	for l := range slices.Chunk(items, fan) {
		row = append(row, g.lay(api.Node{Items: l}))
	}
	if len(row) == 0 {
		row = []int{g.lay(api.Node{})}
	}
	for len(row) > 1 {
		var up []int
		for l := range slices.Chunk(row, max(2, fan)) {
			up = append(up, g.above(l...))
		}
		row = up
	}
	g.p.Root = row[0]
	return g
}

// count is of each block how often the pool refers to it, and its nodes, rising, as the words tell it of what was laid.
func (g *garden) count() ([]int, []int) {
	refs, met := make([]int, 256), map[int]int{}
	var enter func(at int)
	enter = func(at int) {
		if met[at]++; met[at] > 1 {
			return
		}
		n := g.nodes[at]
		for _, x := range n.Items {
			if x.Ref != 0 {
				refs[x.Ref]++
			}
			if n.Level > 0 {
				enter(x.Ref)
			}
		}
	}
	roots := append([]int{g.p.Root}, g.p.Dead...)
	for _, v := range g.vols {
		roots = append(roots, v.Root)
	}
	for _, at := range roots {
		refs[at]++
		enter(at)
	}
	return refs, slices.Sorted(maps.Keys(met))
}

// settle is g, each block counted as often as the pool refers to it, the data and these blocks once more for each time they are held.
func (g *garden) settle(holds ...int) *garden {
	refs, _ := g.count()
	for _, at := range append(holds, g.data...) {
		refs[at]++
	}
	for at, n := range refs {
		g.p.Store.Now[at] = byte(n)
	}
	return g
}

// twin is g with a pool, nodes and lists of its own.
func (g *garden) twin() *garden {
	o := *g
	o.p, o.nodes, o.row, o.vols, o.data = twin(g.p), maps.Clone(g.nodes), slices.Clone(g.row), slices.Clone(g.vols), slices.Clone(g.data)
	for at, n := range g.nodes {
		o.nodes[at] = node.Twin(n)
	}
	return &o
}

// twin is p in new memory.
func twin(p api.Pool) api.Pool {
	p.Store, p.Dead = room.Twin(p.Store), slices.Clone(p.Dead)
	return p
}

// same tells whether a and b have the same in all fields.
func same(a, b api.Pool) bool {
	return room.Same(a.Store, b.Store) && a.Gen == b.Gen && a.Root == b.Root && a.Next == b.Next && slices.Equal(a.Dead, b.Dead)
}

// nothing tells whether p is as it stands beside an error.
func nothing(p api.Pool) bool {
	s := p.Store
	return len(s.Disk.Blocks)+len(s.Disk.Waits)+len(s.Now)+len(s.Last)+len(p.Dead)+p.Root == 0 && p.Gen == 0 && p.Next == 0
}

// ids are numbers of volumes at all edges of p's, and some between.
func ids(p api.Pool) []uint32 {
	return []uint32{0, 1, 2, 3, p.Next - 2, p.Next - 1, p.Next, p.Next + 1, 1 << 31, api.MaxWord - 1, api.MaxWord}
}

// refused fails, unless p may not be: all calls are refused by ErrBad, whatever is asked, beside nothing, and p stays.
func refused(t *testing.T, what string, p api.Pool) {
	t.Helper()
	was := twin(p)
	if e := forest.Check(p); e != api.ErrBad {
		t.Fatalf("%s: Check %d, want ErrBad", what, e)
	}
	if l, e := forest.Vols(p); e != api.ErrBad || len(l) != 0 {
		t.Errorf("%s: Vols %v, %d, want ErrBad", what, l, e)
	}
	if l, e := forest.Refs(p); e != api.ErrBad || len(l) != 0 {
		t.Errorf("%s: Refs %v, %d, want ErrBad", what, l, e)
	}
	if l, e := forest.Nodes(p); e != api.ErrBad || len(l) != 0 {
		t.Errorf("%s: Nodes %v, %d, want ErrBad", what, l, e)
	}
	for i, id := range []uint32{1, p.Next - 1, 0} {
		if v, e := forest.Vol(p, id); e != api.ErrBad || v != (api.Volume{}) {
			t.Errorf("%s: Vol of %d %v, %d, want ErrBad", what, id, v, e)
		}
		unsetRefused(t, what, p, id, api.ErrBad)
		setRefused(t, what, p, api.Volume{Id: id, Root: []int{p.Root, 8, 7}[i]}, api.ErrBad)
	}
	if !same(p, was) {
		t.Errorf("%s: what was handed in was turned", what)
	}
}

// setRefused fails, unless Set has that error, beside nothing.
func setRefused(t *testing.T, what string, p api.Pool, v api.Volume, want api.Errno) {
	t.Helper()
	was := twin(p)
	if out, e := forest.Set(p, v); e != want || !nothing(out) {
		t.Errorf("%s: Set of %v: %d, want %d, and nothing beside", what, v, e, want)
	}
	if !same(p, was) {
		t.Errorf("%s: Set of %v turned what was handed in", what, v)
	}
}

// unsetRefused fails, unless Unset has that error, beside nothing.
func unsetRefused(t *testing.T, what string, p api.Pool, id uint32, want api.Errno) {
	t.Helper()
	was := twin(p)
	if out, e := forest.Unset(p, id); e != want || !nothing(out) {
		t.Errorf("%s: Unset of %d: %d, want %d, and nothing beside", what, id, e, want)
	}
	if !same(p, was) {
		t.Errorf("%s: Unset of %d turned what was handed in", what, id)
	}
}

// shows fails, unless p may be, and all that is told of it is this.
func shows(t *testing.T, what string, p api.Pool, vols []api.Volume, refs, nodes []int) {
	t.Helper()
	was := twin(p)
	if e := forest.Check(p); e != api.OK {
		t.Fatalf("%s: Check %d", what, e)
	}
	if l, e := forest.Vols(p); e != api.OK || !slices.Equal(l, vols) {
		t.Fatalf("%s: Vols %v, %d, want %v", what, l, e, vols)
	}
	if l, e := forest.Refs(p); e != api.OK || len(l) != 256 || !slices.Equal(l, refs) {
		t.Fatalf("%s: Refs %v, %d, want %v", what, l, e, refs)
	}
	if l, e := forest.Nodes(p); e != api.OK || !slices.Equal(l, nodes) {
		t.Fatalf("%s: Nodes %v, %d, want %v", what, l, e, nodes)
	}
	for _, v := range pick(vols, 3) {
		if w, e := forest.Vol(p, v.Id); e != api.OK || w != v {
			t.Fatalf("%s: Vol %v, %d, want %v", what, w, e, v)
		}
	}
	for _, id := range []uint32{0, p.Next} {
		if v, e := forest.Vol(p, id); e != api.ErrNone || v != (api.Volume{}) {
			t.Fatalf("%s: Vol of %d, which is none: %v, %d", what, id, v, e)
		}
	}
	if !same(p, was) {
		t.Fatalf("%s: what was handed in was turned", what)
	}
}

// stands fails, unless g's pool may be, and all that is told of it is what was laid.
func (g *garden) stands(t *testing.T, what string) {
	t.Helper()
	refs, nodes := g.count()
	shows(t, what, g.p, g.vols, refs, nodes)
}

// has tells whether one of the volumes has that Id.
func has(vols []api.Volume, id uint32) bool {
	return slices.ContainsFunc(vols, func(v api.Volume) bool { return v.Id == id })
}

// view is what a pool that may be shows.
type view struct {
	vols        []api.Volume
	refs, nodes []int
}

// told is what p shows, as the words tell it, tree by tree, and whether p may be.
func told(p api.Pool) (view, bool) {
	if room.Check(p.Store) != api.OK || len(p.Dead) > 40 {
		return view{}, false
	}
	items, e := walk.Range(p.Store, p.Root, lowest, highest)
	if e != api.OK || len(items) > 16 {
		return view{}, false
	}
	w := view{refs: make([]int, 256)}
	roots := append([]int{p.Root}, p.Dead...)
	for _, x := range items {
		if x.Key.Kind != 1 || x.Key.Off != 0 || x.Ref != 0 || len(x.Val) != 7 || x.Val[2] > 1 {
			return view{}, false
		}
		v := api.Volume{Id: x.Key.Id, Root: int(x.Val[0]) + int(x.Val[1])*256, Frozen: x.Val[2] == 1}
		v.From = uint32(x.Val[3]) + uint32(x.Val[4])*1<<8 + uint32(x.Val[5])*1<<16 + uint32(x.Val[6])*1<<24
		if int64(v.Id) < 1 || int64(v.Id) > int64(p.Next)-1 {
			return view{}, false
		}
		w.vols, roots = append(w.vols, v), append(roots, v.Root)
	}
	met := map[int]int{}
	for _, root := range roots {
		l, _, e := walk.Nodes(p.Store, root)
		if e != api.OK {
			return view{}, false
		}
		w.refs[root]++
		for _, at := range l {
			met[at]++
		}
	}
	w.nodes = slices.Sorted(maps.Keys(met))
	for _, at := range w.nodes {
		n, _ := room.Node(p.Store, at)
		for _, x := range n.Items {
			w.refs[x.Ref]++
		}
	}
	w.refs[0] = 0
	for at, n := range w.refs {
		if int(p.Store.Now[at]) < n {
			return view{}, false
		}
	}
	return w, true
}

// toldSet is p with v set, or the error of that, as the words tell it.
func toldSet(p api.Pool, v api.Volume) (api.Pool, api.Errno) {
	w, ok := told(p)
	if !ok {
		return api.Pool{}, api.ErrBad
	}
	if int64(v.Id) < 1 || int64(v.Id) > int64(p.Next)-1 || v.Root < 8 || v.Root > 255 {
		return api.Pool{}, api.ErrArg
	}
	if !has(w.vols, v.Id) && len(w.vols) == 16 {
		return api.Pool{}, api.ErrFull
	}
	if int(p.Store.Now[v.Root]) <= w.refs[v.Root] {
		return api.Pool{}, api.ErrNone
	}
	if _, e := find.Check(p.Store, v.Root); e != api.OK {
		return api.Pool{}, api.ErrBad
	}
	out := twin(p)
	var e api.Errno
	if out.Store, out.Root, e = put.Put(p.Store, p.Root, tells(v)); e != api.OK {
		return api.Pool{}, e
	}
	if _, ok := told(out); !ok {
		return api.Pool{}, api.ErrBad
	}
	return out, api.OK
}

// with is the volumes with v among them, in order.
func with(vols []api.Volume, v api.Volume) []api.Volume {
	l := append(without(vols, v.Id), v)
	slices.SortFunc(l, func(a, b api.Volume) int { return int(int64(a.Id) - int64(b.Id)) })
	return l
}

// without is the volumes but the one that has that Id.
func without(vols []api.Volume, id uint32) []api.Volume {
	return slices.DeleteFunc(slices.Clone(vols), func(v api.Volume) bool { return v.Id == id })
}

// vol is the volume that has that Id, or a zero one.
func vol(vols []api.Volume, id uint32) api.Volume {
	for _, v := range vols {
		if v.Id == id {
			return v
		}
	}
	return api.Volume{}
}

// contents are the items of each tree of a volume, by its Id.
func contents(t *testing.T, p api.Pool, vols []api.Volume) map[uint32][]api.Item {
	t.Helper()
	all := map[uint32][]api.Item{}
	for _, v := range vols {
		l, e := walk.Range(p.Store, v.Root, lowest, highest)
		if e != api.OK {
			t.Fatal(v, e)
		}
		all[v.Id] = l
	}
	return all
}

// sets fails, unless Set answers what the words tell of p, or their error. Where it goes well, what is answered may be: v is there, all others are as they were, with what is in them, and the Root that v had is held. Else it answers nothing.
func sets(t *testing.T, what string, p api.Pool, v api.Volume) (api.Pool, api.Errno) {
	t.Helper()
	want, e := toldSet(p, v)
	if e != api.OK {
		setRefused(t, what, p, v, e)
		return api.Pool{}, e
	}
	was := twin(p)
	out, e := forest.Set(p, v)
	if e != api.OK || !same(out, want) {
		t.Fatalf("%s: Set of %v: %d, or another pool than the words tell", what, v, e)
	}
	if !same(p, was) {
		t.Fatalf("%s: Set of %v turned what was handed in", what, v)
	}
	before, _ := told(p)
	after, ok := told(out)
	if !ok {
		t.Fatalf("%s: behind Set of %v it may not be", what, v)
	}
	shows(t, what, out, with(before.vols, v), after.refs, after.nodes)
	old := vol(before.vols, v.Id).Root
	if old != 0 && int(out.Store.Now[old]) <= after.refs[old] {
		t.Fatalf("%s: behind Set of %v the Root that it had, %d, is not held", what, v, old)
	}
	// What v gets, it has: so it stands among the others here.
	stays := append(without(before.vols, v.Id), v)
	if a, b := contents(t, p, stays), contents(t, out, stays); !maps.EqualFunc(a, b, alike) {
		t.Fatalf("%s: Set of %v turned what is in a volume", what, v)
	}
	stay(t, what, p, out)
	return out, api.OK
}

// unsets fails, unless Unset answers p without that volume, which it has: it may be, all others are as they were, with what is in them, and its Root is held.
func unsets(t *testing.T, what string, p api.Pool, id uint32) api.Pool {
	t.Helper()
	was := twin(p)
	out, e := forest.Unset(p, id)
	if e != api.OK {
		t.Fatalf("%s: Unset of %d: %d", what, id, e)
	}
	if !same(p, was) {
		t.Fatalf("%s: Unset of %d turned what was handed in", what, id)
	}
	before, _ := told(p)
	after, ok := told(out)
	if !ok {
		t.Fatalf("%s: behind Unset of %d it may not be", what, id)
	}
	others := without(before.vols, id)
	shows(t, what, out, others, after.refs, after.nodes)
	if out.Gen != p.Gen || out.Next != p.Next || !slices.Equal(out.Dead, p.Dead) || !bytes.Equal(out.Store.Last, p.Store.Last) {
		t.Fatalf("%s: Unset of %d turned Gen, Next, Dead or Last", what, id)
	}
	v := vol(before.vols, id)
	if int(out.Store.Now[v.Root]) <= after.refs[v.Root] {
		t.Fatalf("%s: behind Unset of %d its Root, %d, is not held", what, id, v.Root)
	}
	if _, e := find.Check(out.Store, v.Root); e != api.OK {
		t.Fatalf("%s: behind Unset of %d its tree is none: %d", what, id, e)
	}
	if a, b := contents(t, p, others), contents(t, out, others); !maps.EqualFunc(a, b, alike) {
		t.Fatalf("%s: Unset of %d turned other volumes", what, id)
	}
	stay(t, what, p, out)
	return out
}

// alike tells whether these are the same items.
func alike(a, b []api.Item) bool { return slices.EqualFunc(a, b, item.Same) }

// stay fails, unless each block is counted as often behind as ahead, but for the nodes of both forests.
func stay(t *testing.T, what string, p, out api.Pool) {
	t.Helper()
	was, _, _ := walk.Nodes(p.Store, p.Root)
	now, _, _ := walk.Nodes(out.Store, out.Root)
	for at := range 256 {
		if p.Store.Now[at] != out.Store.Now[at] && !slices.Contains(was, at) && !slices.Contains(now, at) {
			t.Fatalf("%s: block %d was counted %d times, and is %d times", what, at, p.Store.Now[at], out.Store.Now[at])
		}
	}
}

// dice are numbers that look like chance, but are the same each time.
type dice uint32

// roll is a number below n.
func (d *dice) roll(n int) int {
	*d = *d*1664525 + 1013904223
	return int(*d>>8) % n
}

// pick is some of l: all of it, or about many, the first and the last one too.
func pick[T any](l []T, many int) []T {
	step := len(l)/many + 1
	var out []T
	for i, x := range l {
		if i%step == 0 || i == len(l)-1 {
			out = append(out, x)
		}
	}
	return out
}

// spread are many Ids that rise, the first of them 1, some in a row, others far from one another.
func spread(many int) []uint32 {
	var l []uint32
	id := uint32(1)
	for i := range many {
		l = append(l, id)
		id += []uint32{1, 1, 2, 5, 250, 1 << 20, 1}[i%7]
	}
	return l
}

// plots are gardens of 0 to 16 volumes, whose forests are of different heights, with trees of different heights, and with nodes that wait to be reaped.
func plots() []*garden {
	var l []*garden
	for _, many := range []int{0, 1, 2, 3, 5, 6, 9, 15, 16} {
		for fan := 1; fan < 6; fan++ {
			g := bare(many*5 + fan)
			for i, id := range spread(many) {
				level, fan := []int{0, 0, 1, 0, 2, 1, 0}[(i+many)%7], 1+(i+fan)%3
				if level == 0 {
					fan = (i + many) % 6
				}
				g.vol(id, g.tree(level, fan))
			}
			if many > 0 {
				g.p.Next = g.vols[many-1].Id + uint32(1+fan%2)
			}
			for range fan % 3 {
				g.p.Dead = append(g.p.Dead, g.tree(fan%2, 2))
			}
			l = append(l, g.plant(fan).settle())
		}
	}
	return l
}

// grove is a garden with volumes that share nodes in all ways: two of one tree, one of what stands below another one, two above the same; some wait to be reaped, too; a leaf refers to nodes.
func grove() *garden {
	g := bare(4)
	a, b := g.tree(1, 3), g.tree(1, 2)
	top, side := g.above(a, b), g.tree(0, 4)
	g.vol(2, top)
	g.vol(3, top)
	g.vol(4, a)
	g.vol(6, g.above(b, g.tree(1, 2)))
	g.vol(7, g.nodes[b].Items[1].Ref)
	g.vol(9, g.refers(a, 0, g.data[1], side, a))
	g.vol(10, side)
	g.vol(11, g.tree(0, 0))
	g.p.Next = 13
	g.p.Dead = []int{b, top, b, g.tree(2, 1), side}
	return g.plant(3).settle()
}

// small is a pool of two volumes at 8 and 9, their forest at 10, a data block at 11, and a tree that is held at 12.
func small() *garden {
	g := &garden{p: api.Pool{Store: room.New(), Gen: 5, Next: 4}, nodes: map[int]api.Node{}, data: []int{11}}
	g.set(8, api.Node{Items: []api.Item{{Key: nth(0), Ref: 11}, {Key: nth(1)}}})
	g.set(9, api.Node{Items: []api.Item{{Key: nth(2), Val: []byte{7}}}})
	g.vols = []api.Volume{{Id: 1, Root: 8}, {Id: 2, Root: 9, Frozen: true, From: 1}}
	g.set(10, api.Node{Items: []api.Item{tells(g.vols[0]), tells(g.vols[1])}})
	g.set(12, api.Node{Items: []api.Item{{Key: nth(3)}}})
	g.p.Root, g.row = 10, []int{8, 9, 10}
	return g.settle(12)
}

// waiting is p, and many writes wait for its disk, none of them for a block of a tree.
func waiting(p api.Pool, many int) api.Pool {
	p = twin(p)
	p.Store.Disk, _ = dev.Barrier(p.Store.Disk)
	b := filled(1)
	for i := range many {
		p.Store.Disk.Waits = append(p.Store.Disk.Waits, api.Write{At: i % 8, Data: b})
	}
	return p
}

// only is p with no more than so many blocks free.
func only(p api.Pool, many int) api.Pool {
	p = twin(p)
	free, _ := room.Free(p.Store)
	for _, at := range free[min(many, len(free)):] {
		p.Store.Last[at] = 1
	}
	return p
}

// notNodes are blocks of no node.
func notNodes() [][]byte {
	other, _ := sum.Seal([]byte{77, 0, 0})
	x, _ := item.Write(api.Item{Key: nth(0), Ref: 8})
	high, _ := sum.Seal(append([]byte{78, 6, 1}, x...))
	none, _ := sum.Seal([]byte{78, 1, 0})
	behind, _ := sum.Seal([]byte{78, 0, 0, 1})
	odd := block(api.Node{Items: []api.Item{{Key: nth(0)}}})
	odd[60] ^= 1
	return [][]byte{filled(0), filled(78), some(128, 2), other, high, none, behind, odd}
}

// odds turn a store to one that may not be: for its disk alone, for Now, for Last, for several of them.
func odds() []func(s *api.Store) {
	return []func(s *api.Store){
		func(s *api.Store) { *s = api.Store{} },
		func(s *api.Store) { s.Disk = api.Disk{} },
		func(s *api.Store) { s.Disk.Blocks = s.Disk.Blocks[:255] },
		func(s *api.Store) { s.Disk.Blocks = append(s.Disk.Blocks, filled(1)) },
		func(s *api.Store) { s.Disk.Blocks[7] = nil },
		func(s *api.Store) { s.Disk.Blocks[255] = s.Disk.Blocks[255][:127] },
		func(s *api.Store) { s.Disk.Blocks[20] = append(s.Disk.Blocks[20], 0) },
		func(s *api.Store) { s.Disk.Waits = append(s.Disk.Waits, api.Write{At: 256, Data: filled(1)}) },
		func(s *api.Store) { s.Disk.Waits = append(s.Disk.Waits, api.Write{At: -1, Data: filled(1)}) },
		func(s *api.Store) { s.Disk.Waits = append(s.Disk.Waits, api.Write{At: 20, Data: filled(1)[1:]}) },
		func(s *api.Store) { s.Disk.Waits = slices.Insert(s.Disk.Waits, 0, api.Write{At: 9}) },
		func(s *api.Store) {
			s.Disk.Waits = append(slices.Repeat([]api.Write{{At: 7, Data: filled(1)}}, 4097-len(s.Disk.Waits)), s.Disk.Waits...)
		},
		func(s *api.Store) { s.Now = nil },
		func(s *api.Store) { s.Now = s.Now[:255] },
		func(s *api.Store) { s.Now = s.Now[:13] },
		func(s *api.Store) { s.Now = append(s.Now, 0) },
		func(s *api.Store) { s.Now[0] = 1 },
		func(s *api.Store) { s.Now[7] = 255 },
		func(s *api.Store) { s.Last = nil },
		func(s *api.Store) { s.Last = s.Last[:255] },
		func(s *api.Store) { s.Last = append(s.Last, 0) },
		func(s *api.Store) { s.Last[0] = 255 },
		func(s *api.Store) { s.Last[7] = 1 },
		func(s *api.Store) { s.Now, s.Last = nil, nil },
	}
}

// spoil turns every byte of b and of its spare room.
func spoil(b []byte) {
	b = b[:cap(b)]
	for i := range b {
		b[i] ^= 0xff
	}
}

// lists is all lists of bytes that s has.
func lists(s api.Store) [][]byte {
	l := append(slices.Clone(s.Disk.Blocks), s.Now, s.Last)
	for _, w := range s.Disk.Waits {
		l = append(l, w.Data)
	}
	return l
}

// wreck turns all that p has, with all its spare room.
func wreck(p api.Pool) {
	for _, b := range lists(p.Store) {
		spoil(b)
	}
	clear(p.Store.Disk.Blocks[:cap(p.Store.Disk.Blocks)])
	clear(p.Store.Disk.Waits[:cap(p.Store.Disk.Waits)])
	for i := range p.Dead[:cap(p.Dead)] {
		p.Dead[:cap(p.Dead)][i] = -99
	}
}

// bared is p, its spare room shown as elements, in other memory.
func bared(p api.Pool) api.Pool {
	s := p.Store
	d := api.Disk{Blocks: slices.Clone(s.Disk.Blocks[:cap(s.Disk.Blocks)]), Waits: slices.Clone(s.Disk.Waits[:cap(s.Disk.Waits)])}
	for at, b := range d.Blocks {
		d.Blocks[at] = b[:cap(b)]
	}
	for i, w := range d.Waits {
		d.Waits[i].Data = w.Data[:cap(w.Data)]
	}
	p.Store, p.Dead = api.Store{Disk: d, Now: s.Now[:cap(s.Now)], Last: s.Last[:cap(s.Last)]}, p.Dead[:cap(p.Dead)]
	return twin(p)
}

// roomy is p in new memory, all lists of which have spare room.
func roomy(p api.Pool) api.Pool {
	p = twin(p)
	s := &p.Store
	grow := func(b []byte) []byte { return append(b[:len(b):len(b)], some(9, 3)...)[:len(b)] }
	for at := range s.Disk.Blocks {
		s.Disk.Blocks[at] = grow(s.Disk.Blocks[at])
	}
	for i := range s.Disk.Waits {
		s.Disk.Waits[i].Data = grow(s.Disk.Waits[i].Data)
	}
	s.Disk.Blocks = append(s.Disk.Blocks, filled(5), filled(6))[:len(s.Disk.Blocks)]
	s.Disk.Waits = append(s.Disk.Waits, api.Write{At: 20, Data: filled(7)})[:len(s.Disk.Waits)]
	s.Now, s.Last = grow(s.Now), grow(s.Last)
	p.Dead = append(p.Dead, 9, 10, 11)[:len(p.Dead)]
	return p
}
