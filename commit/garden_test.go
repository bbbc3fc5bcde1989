package commit_test

import (
	"bytes"
	"encoding/binary"
	"fmt"
	"hash/crc32"
	"maps"
	"math"
	"slices"
	"testing"

	"scionry/api"
	"scionry/commit"
	"scionry/count"
	"scionry/dev"
	"scionry/forest"
	"scionry/node"
	"scionry/ring"
	"scionry/room"
	"scionry/walk"
)

// lowest and highest are the keys at both ends.
var (
	lowest  = api.Key{}
	highest = api.Key{Kind: 255, Id: api.MaxWord, Off: api.MaxWord}
)

// strays are the places of no block that may be taken: the first ones at its edges, then such of which some bytes are right.
var strays = []int{0, 7, 256, 65536, -1, 4, 256 + 8, 1<<16 + 9, 1<<32 + 9, math.MaxInt, math.MinInt}

// nth is the n-th of keys that rise.
func nth(n int) api.Key {
	return api.Key{Kind: uint8(2 + n/32*2), Id: uint32(10 + n/8%4*2), Off: uint32(100 + n%8*2)}
}

// filled is a block of one byte, again and again.
func filled(c byte) []byte { return bytes.Repeat([]byte{c}, 128) }

// some is many bytes that differ from place to place, and by seed.
func some(many, seed int) []byte {
	b := make([]byte, many)
	for i := range b {
		b[i] = byte(i*i*29 + i*seed + i>>1 + seed*83)
	}
	return b
}

// block is n's block.
func block(n api.Node) []byte {
	b, e := node.Write(n)
	if e != api.OK {
		panic(e)
	}
	return b
}

// tells is the item that tells v, byte by byte.
func tells(v api.Volume) api.Item {
	val := []byte{byte(v.Root), byte(v.Root >> 8), 0, byte(v.From), byte(v.From >> 8), byte(v.From >> 16), byte(v.From >> 24)}
	if v.Frozen {
		val[2] = 1
	}
	return api.Item{Key: api.Key{Kind: 1, Id: v.Id, Off: 0}, Ref: 0, Val: val}
}

// garden is a pool, and the nodes that are in its blocks; what grows in it has keys behind all that were given out. Nothing waits for its disk.
type garden struct {
	p     api.Pool
	nodes map[int]api.Node
	vols  []api.Volume // rising
	data  []int        // blocks of no nodes, to which leaves refer: each is held once
	keys  int          // how many were given out
	taken int          // how many blocks were
	seed  int
}

// bare is a garden of no nodes, all of whose blocks differ; where blocks are taken differs by seed. Of the others one of three was counted when all was committed last.
func bare(seed int) *garden {
	g := &garden{p: api.Pool{Store: room.New(), Gen: uint32(seed * 3), Next: uint32(100 + seed)}, nodes: map[int]api.Node{}, seed: seed}
	for at := range g.p.Store.Disk.Blocks {
		g.p.Store.Disk.Blocks[at] = append(some(127, at), byte(at))
		if at > 7 && (at+seed)%3 == 0 {
			g.p.Store.Last[at] = byte(at)
		}
	}
	for range 3 {
		g.data = append(g.data, g.take())
	}
	return g
}

// take is the place of a block that wasn't taken.
func (g *garden) take() int {
	at := 8 + (g.taken*37+g.seed*11)%248
	g.taken++
	return at
}

// set is that node in that block.
func (g *garden) set(at int, n api.Node) {
	g.nodes[at], g.p.Store.Disk.Blocks[at] = n, block(n)
}

// lay is the place of a block with that node.
func (g *garden) lay(n api.Node) int {
	at := g.take()
	g.set(at, n)
	return at
}

// leaf is the place of a leaf with many items; some of them refer to nothing, several to one block.
func (g *garden) leaf(many int) int {
	n := api.Node{}
	for range many {
		x := api.Item{Key: nth(g.keys), Val: some(g.keys%13, g.keys)}
		if g.keys%4 > 0 {
			x.Ref = g.data[g.keys%4-1]
		}
		n.Items = append(n.Items, x)
		g.keys++
	}
	return g.lay(n)
}

// above is the place of a node above these, all of one level.
func (g *garden) above(below ...int) int {
	n := api.Node{Level: g.nodes[below[0]].Level + 1}
	for _, at := range below {
		n.Items = append(n.Items, api.Item{Key: g.nodes[at].Items[0].Key, Ref: at})
	}
	return g.lay(n)
}

// tree is the root of a tree of that level, all nodes of which have many items.
func (g *garden) tree(level, many int) int {
	if level == 0 {
		return g.leaf(many)
	}
	var below []int
	for range many {
		below = append(below, g.tree(level-1, many))
	}
	return g.above(below...)
}

// vol makes the tree at root a volume, behind all that are there.
func (g *garden) vol(id uint32, root int) {
	g.vols = append(g.vols, api.Volume{Id: id, Root: root, Frozen: (g.seed+len(g.vols))%2 == 1, From: id - 1})
}

// plant lays the forest of all volumes.
func (g *garden) plant() *garden {
	var items []api.Item
	for _, v := range g.vols {
		items = append(items, tells(v))
	}
	return g.wild(items...)
}

// wild lays a forest of these items.
func (g *garden) wild(items ...api.Item) *garden {
	row := []int{}
	for l := range slices.Chunk(items, 3) {
		row = append(row, g.lay(api.Node{Items: l}))
	}
	if len(row) == 0 {
		row = append(row, g.lay(api.Node{}))
	}
	for len(row) > 1 {
		var up []int
		for l := range slices.Chunk(row, 3) {
			up = append(up, g.above(l...))
		}
		row = up
	}
	g.p.Root = row[0]
	return g
}

// settle is g, each block counted as often as the pool refers to it, as it was laid, and the data once more.
func (g *garden) settle() *garden {
	refs, met := make([]int, 256), map[int]int{}
	var enter func(at int)
	enter = func(at int) {
		if met[at]++; met[at] > 1 {
			return
		}
		n := g.nodes[at]
		for _, x := range n.Items {
			refs[x.Ref]++
			if n.Level > 0 {
				enter(x.Ref)
			}
		}
	}
	roots := append([]int{g.p.Root}, g.p.Dead...)
	for _, v := range g.vols {
		roots = append(roots, v.Root)
	}
	for _, at := range roots {
		refs[at]++
		enter(at)
	}
	for _, at := range g.data {
		refs[at]++
	}
	for at := 8; at < 256; at++ {
		g.p.Store.Now[at] = byte(refs[at])
	}
	return g
}

// grown is a garden of so many volumes, of different heights, some of one root, and of so many nodes that wait to be reaped: some of them stand there more than once, some are nodes of volumes.
func grown(seed, vols, dead int) *garden {
	g := bare(seed)
	for i := range vols {
		id, level := uint32(1+i*i+i), (i+seed)%5/2
		switch {
		case i%7 == 6:
			g.vol(id, g.vols[i-1].Root)
		case level > 0 && i < 12:
			g.vol(id, g.tree(level, 2))
		default:
			g.vol(id, g.leaf((i+seed)%6))
		}
	}
	for i := range dead {
		switch {
		case i%4 == 3:
			g.p.Dead = append(g.p.Dead, g.p.Dead[i/2])
		case i%4 == 2 && vols > 0:
			g.p.Dead = append(g.p.Dead, g.vols[i%vols].Root)
		default:
			g.p.Dead = append(g.p.Dead, g.tree(i%2*(i%3), 1))
		}
	}
	g.p.Next = uint32(2 + vols*vols + vols)
	return g.plant().settle()
}

// wait is p, and that waits for its disk behind all that does.
func wait(p *api.Pool, at int, data []byte) {
	p.Store.Disk.Waits = append(p.Store.Disk.Waits, api.Write{At: at, Data: data})
}

// hide is p's block at that place waiting, behind as many others to the same one, over what lasts.
func hide(p *api.Pool, at, many int) {
	b := p.Store.Disk.Blocks[at]
	for i := range many {
		wait(p, at, filled(byte(i+at)))
	}
	wait(p, at, b)
	p.Store.Disk.Blocks[at] = filled(3)
}

// own is the blocks that a commit of p writes itself: two of a table, and one of the ring.
func own(p api.Pool) []int {
	side := int(1 - p.Gen%2)
	return []int{4 + 2*side, 5 + 2*side, int((uint64(p.Gen) + 1) % 4)}
}

// unused is a block to which nobody refers.
func unused(p api.Pool) int { return 8 + bytes.IndexByte(p.Store.Now[8:], 0) }

// waits are what may wait for a pool's disk; the pool may be ahead of it and behind.
func waits() []func(p *api.Pool) {
	return []func(p *api.Pool){
		func(p *api.Pool) {},
		func(p *api.Pool) { wait(p, unused(*p), some(128, 7)) },
		func(p *api.Pool) { hide(p, p.Root, 0) },
		func(p *api.Pool) {
			for i := range 3 {
				wait(p, unused(*p), some(128, i))
			}
		},
		func(p *api.Pool) { hide(p, p.Root, 2) },
		func(p *api.Pool) {
			for i, at := range append(own(*p), own(*p)...) {
				wait(p, at, some(128, i))
			}
		},
		func(p *api.Pool) {
			for at := range 8 {
				wait(p, at, some(128, at+9))
			}
		},
		func(p *api.Pool) {
			for at := range 256 {
				hide(p, at, at%3%2)
			}
		},
		func(p *api.Pool) {
			for i := range 4096 {
				wait(p, []int{unused(*p), i % 8}[i%2], filled(byte(i)))
			}
		},
	}
}

// stand is p, the superblocks of its Gen and of those ahead in the ring, their tables on both sides: Last is that of its Gen.
func stand(p *api.Pool) {
	d := &p.Store.Disk
	for back := uint32(3); back < 4; back-- {
		if back > p.Gen {
			continue
		}
		q := twin(*p)
		q.Gen, q.Store.Now = p.Gen-back-1, bytes.Clone(p.Store.Last)
		if back > 0 {
			q.Store.Now = append(make([]byte, 8), some(248, int(back))...)
			q.Root, q.Dead, q.Next = 8+int(back), []int{9, 10}[:back%3], back
		}
		for _, phase := range []int{2, 3} {
			for _, w := range written(q, phase) {
				d.Blocks[w.At] = w.Data
			}
		}
	}
}

// gens are those that pools have here: even and odd, at both ends.
var gens = []uint32{0, 1, 2, 3, 4, 5, 255, 65535, 1<<31 - 1, 1 << 31, api.MaxWord - 3, api.MaxWord - 2, api.MaxWord - 1}

// plot is a pool that may be, and what it is.
type plot struct {
	what string
	p    api.Pool
}

// plots are pools of no volume, of one, of 16, and of some between; with none, one and 40 nodes that wait to be reaped; of each generation; for whose disk all kinds of writes wait; Now being Last, or not; on disks with superblocks, or without.
func plots() []plot {
	var l []plot
	for i, gen := range gens {
		for j, vols := range []int{0, 1, 5, 16} {
			for k, dead := range []int{0, 1, 40} {
				g := grown(i+5*j+k, vols, dead)
				g.p.Gen = gen
				for n, put := range waits() {
					p := twin(g.p)
					if (i+j+k+n)%2 == 1 {
						p.Store.Last = bytes.Clone(p.Store.Now)
					}
					if (i+j+n)%3 > 0 {
						stand(&p)
					}
					put(&p)
					l = append(l, plot{fmt.Sprintf("Gen %d, %d volumes, %d in Dead, waits of kind %d", gen, vols, dead, n), p})
				}
			}
		}
	}
	return l
}

// pick is some of l: all of it, or at most many, and the last one. What comes again each second time, or each third time, is met all the same.
func pick[T any](l []T, many int) []T {
	step := len(l)/many + 1
	for step > 1 && (step%2 == 0 || step%3 == 0) {
		step++
	}
	var out []T
	for i, x := range l {
		if i%step == 0 || i == len(l)-1 {
			out = append(out, x)
		}
	}
	return out
}

// twin is p in new memory.
func twin(p api.Pool) api.Pool {
	p.Store, p.Dead = room.Twin(p.Store), slices.Clone(p.Dead)
	return p
}

// same tells whether a and b have the same in all fields.
func same(a, b api.Pool) bool {
	return room.Same(a.Store, b.Store) && a.Gen == b.Gen && a.Root == b.Root && a.Next == b.Next && slices.Equal(a.Dead, b.Dead)
}

// nothing tells whether p is as it stands beside an error.
func nothing(p api.Pool) bool {
	s := p.Store
	return noDisk(s.Disk) && len(s.Now)+len(s.Last)+len(p.Dead)+p.Root == 0 && p.Gen == 0 && p.Next == 0
}

// noDisk tells whether d is as it stands beside an error.
func noDisk(d api.Disk) bool { return len(d.Blocks)+len(d.Waits) == 0 }

// written is what waits ahead of the barrier of that phase of a commit of p, as the words tell it, byte by byte.
func written(p api.Pool, phase int) []api.Write {
	at := own(p)
	switch phase {
	case 1:
		return p.Store.Disk.Waits
	case 2:
		return []api.Write{{At: at[0], Data: p.Store.Now[:128]}, {At: at[1], Data: p.Store.Now[128:]}}
	}
	b := make([]byte, 4, 128)
	b = binary.LittleEndian.AppendUint32(b, p.Gen+1)
	b = binary.LittleEndian.AppendUint16(b, uint16(p.Root))
	b = binary.LittleEndian.AppendUint32(b, p.Next)
	b = binary.LittleEndian.AppendUint32(b, crc32.ChecksumIEEE(p.Store.Now))
	b = append(b, byte(len(p.Dead)))
	for _, at := range p.Dead {
		b = binary.LittleEndian.AppendUint16(b, uint16(at))
	}
	b = append(b, make([]byte, 128-len(b))...)
	binary.LittleEndian.PutUint32(b, crc32.ChecksumIEEE(b[4:]))
	return []api.Write{{At: at[2], Data: b}}
}

// told is the disk behind a commit of p up to the barrier of that phase, ahead of which only the writes with these marks are kept, as the words tell it.
func told(p api.Pool, phase int, keep ...bool) api.Disk {
	blocks := slices.Clone(p.Store.Disk.Blocks)
	for ahead := 1; ahead <= phase; ahead++ {
		for i, w := range written(p, ahead) {
			if ahead < phase || keep[i] {
				blocks[w.At] = w.Data
			}
		}
	}
	return dev.Twin(api.Disk{Blocks: blocks})
}

// mixes are lists of so many marks: each mix, where there are few; else all false, all true, each second one, the first and the last one alone, and all but these.
func mixes(many int) [][]bool {
	var l [][]bool
	add := func(is func(i int) bool) {
		keep := make([]bool, many)
		for i := range keep {
			keep[i] = is(i)
		}
		l = append(l, keep)
	}
	if many <= 6 {
		for mask := range 1 << many {
			add(func(i int) bool { return mask>>i&1 == 1 })
		}
		return l
	}
	for _, turn := range []bool{false, true} {
		add(func(i int) bool { return turn })
		add(func(i int) bool { return i%2 == 0 != turn })
		add(func(i int) bool { return i == 0 != turn })
		add(func(i int) bool { return i == many-1 != turn })
	}
	return l
}

// marks is so many marks, all of them true or none.
func marks(many int, mark bool) []bool { return slices.Repeat([]bool{mark}, many) }

// shows is what a pool that may be shows: its volumes, its nodes, how often it refers to each block, and what is in its volumes.
func shows(t *testing.T, what string, p api.Pool) (vols []api.Volume, nodes, refs []int, items map[uint32][]api.Item) {
	t.Helper()
	var e [3]api.Errno
	vols, e[0] = forest.Vols(p)
	nodes, e[1] = forest.Nodes(p)
	refs, e[2] = forest.Refs(p)
	if e != [3]api.Errno{} {
		t.Fatal(what, e)
	}
	items = map[uint32][]api.Item{}
	for _, v := range vols {
		l, e := walk.Range(p.Store, v.Root, lowest, highest)
		if e != api.OK {
			t.Fatal(what, v, e)
		}
		items[v.Id] = l
	}
	return vols, nodes, refs, items
}

// committed fails, unless a commit of p is what the words tell, and p stays.
func committed(t *testing.T, what string, p api.Pool) api.Pool {
	t.Helper()
	was := twin(p)
	out, e := commit.Commit(p)
	if e != api.OK {
		t.Fatalf("%s: Commit: %d", what, e)
	}
	if !same(p, was) {
		t.Fatalf("%s: Commit turned what was handed in", what)
	}
	want := twin(p)
	want.Gen, want.Store.Last, want.Store.Disk = p.Gen+1, want.Store.Now, told(p, 3, true)
	if !same(out, want) {
		t.Fatalf("%s: Commit: Gen %d, Root %d, Next %d, Dead %v, or its store is another one than the words tell", what, out.Gen, out.Root, out.Next, out.Dead)
	}
	return out
}

// cut fails, unless a power cut in that phase of a commit of p leaves what the words tell, and p and keep stay.
func cut(t *testing.T, what string, p api.Pool, phase int, keep []bool) api.Disk {
	t.Helper()
	was, kept := twin(p), slices.Clone(keep)
	d, e := commit.Cut(p, phase, keep)
	if e != api.OK {
		t.Fatalf("%s: Cut in phase %d, %d marks: %d", what, phase, len(keep), e)
	}
	if !same(p, was) || !slices.Equal(keep, kept) {
		t.Fatalf("%s: Cut in phase %d turned what was handed in", what, phase)
	}
	if !dev.Same(d, told(p, phase, keep...)) {
		t.Fatalf("%s: Cut in phase %d: another disk than the words tell", what, phase)
	}
	return d
}

// refused fails, unless Commit has that error, beside nothing, and p stays.
func refused(t *testing.T, what string, p api.Pool, want api.Errno) {
	t.Helper()
	was := twin(p)
	if out, e := commit.Commit(p); e != want || !nothing(out) {
		t.Errorf("%s: Commit: %d, want %d, and nothing beside", what, e, want)
	}
	if !same(p, was) {
		t.Errorf("%s: Commit turned what was handed in", what)
	}
}

// cutRefused fails, unless Cut has that error, beside nothing, and p and keep stay.
func cutRefused(t *testing.T, what string, p api.Pool, phase int, keep []bool, want api.Errno) {
	t.Helper()
	was, kept := twin(p), slices.Clone(keep)
	if d, e := commit.Cut(p, phase, keep); e != want || !noDisk(d) {
		t.Errorf("%s: Cut in phase %d, %d marks: %d, want %d, and nothing beside", what, phase, len(keep), e, want)
	}
	if !same(p, was) || !slices.Equal(keep, kept) {
		t.Errorf("%s: Cut in phase %d turned what was handed in", what, phase)
	}
}

// opened is the pool of the newest superblock of d that is right, as chapter 16 tells it, and whether there is one.
func opened(d api.Disk) (api.Pool, bool) {
	l, _ := ring.Find(d)
	for _, s := range l {
		table, e := count.Read(d, int(s.Gen%2))
		if e != api.OK || crc32.ChecksumIEEE(table) != s.Table {
			continue
		}
		p := api.Pool{Store: api.Store{Disk: d, Now: table, Last: table}, Gen: s.Gen, Root: s.Root, Next: s.Next, Dead: s.Dead}
		if forest.Check(p) == api.OK {
			return twin(p), true
		}
	}
	return api.Pool{}, false
}

// spoil turns every byte of b and of its spare room.
func spoil(b []byte) {
	b = b[:cap(b)]
	for i := range b {
		b[i] ^= 0xff
	}
}

// lists is all lists of bytes that s has.
func lists(s api.Store) [][]byte {
	l := append(slices.Clone(s.Disk.Blocks), s.Now, s.Last)
	for _, w := range s.Disk.Waits {
		l = append(l, w.Data)
	}
	return l
}

// wreck turns all that p has, with all its spare room.
func wreck(p api.Pool) {
	for _, b := range lists(p.Store) {
		spoil(b)
	}
	clear(p.Store.Disk.Blocks[:cap(p.Store.Disk.Blocks)])
	clear(p.Store.Disk.Waits[:cap(p.Store.Disk.Waits)])
	for i := range p.Dead[:cap(p.Dead)] {
		p.Dead[:cap(p.Dead)][i] = -99
	}
}

// bared is p, its spare room shown as elements, in other memory.
func bared(p api.Pool) api.Pool {
	s := p.Store
	d := api.Disk{Blocks: slices.Clone(s.Disk.Blocks[:cap(s.Disk.Blocks)]), Waits: slices.Clone(s.Disk.Waits[:cap(s.Disk.Waits)])}
	for at, b := range d.Blocks {
		d.Blocks[at] = b[:cap(b)]
	}
	for i, w := range d.Waits {
		d.Waits[i].Data = w.Data[:cap(w.Data)]
	}
	p.Store, p.Dead = api.Store{Disk: d, Now: s.Now[:cap(s.Now)], Last: s.Last[:cap(s.Last)]}, p.Dead[:cap(p.Dead)]
	return twin(p)
}

// roomy is p in new memory, all lists of which have spare room.
func roomy(p api.Pool) api.Pool {
	p = twin(p)
	s := &p.Store
	grow := func(b []byte) []byte { return append(b[:len(b):len(b)], some(9, 3)...)[:len(b)] }
	for at := range s.Disk.Blocks {
		s.Disk.Blocks[at] = grow(s.Disk.Blocks[at])
	}
	for i := range s.Disk.Waits {
		s.Disk.Waits[i].Data = grow(s.Disk.Waits[i].Data)
	}
	s.Disk.Blocks = append(s.Disk.Blocks, filled(5), filled(6))[:len(s.Disk.Blocks)]
	s.Disk.Waits = append(s.Disk.Waits, api.Write{At: 20, Data: filled(7)})[:len(s.Disk.Waits)]
	s.Now, s.Last = grow(s.Now), grow(s.Last)
	p.Dead = append(p.Dead, 9, 10, 11)[:len(p.Dead)]
	return p
}

// dice are numbers that look like chance, but are the same each time.
type dice uint32

// roll is a number below n.
func (d *dice) roll(n int) int {
	*d = *d*1664525 + 1013904223
	return int(*d>>8) % n
}

// sorted are the keys of a map of volumes, rising.
func sorted[T any](m map[uint32]T) []uint32 { return slices.Sorted(maps.Keys(m)) }
