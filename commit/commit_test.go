package commit_test

import (
	"bytes"
	"fmt"
	"maps"
	"math"
	"slices"
	"testing"

	"scionry/api"
	"scionry/commit"
	"scionry/count"
	"scionry/dev"
	"scionry/drop"
	"scionry/forest"
	"scionry/item"
	"scionry/put"
	"scionry/ring"
	"scionry/room"
	"scionry/sum"
)

// The signatures are the chapter's, to the letter.
var (
	_ func(p api.Pool) (api.Pool, api.Errno)                         = commit.Commit
	_ func(p api.Pool, phase int, keep []bool) (api.Disk, api.Errno) = commit.Cut
)

// P15.1: a commit of pools of all kinds is what the words tell, to the byte.
func TestCommit(t *testing.T) {
	for _, l := range plots() {
		committed(t, l.what, l.p)
	}
	committed(t, "a new pool", forest.New())
}

// P15.1, P15.4, W3: behind a commit nothing waits, Gen is one more, Root, Next and Dead are as they were, Last is Now, and Now stays; it may be; nothing is pinned.
func TestBehind(t *testing.T) {
	for _, l := range pick(plots(), 400) {
		out, e := commit.Commit(l.p)
		if e != api.OK || forest.Check(out) != api.OK {
			t.Fatalf("%s: %d, and Check of that: %d", l.what, e, forest.Check(out))
		}
		if len(out.Store.Disk.Waits) != 0 || uint64(out.Gen) != uint64(l.p.Gen)+1 || out.Root != l.p.Root || out.Next != l.p.Next || !slices.Equal(out.Dead, l.p.Dead) {
			t.Fatalf("%s: %d wait, Gen %d, Root %d, Next %d, Dead %v", l.what, len(out.Store.Disk.Waits), out.Gen, out.Root, out.Next, out.Dead)
		}
		if !bytes.Equal(out.Store.Now, l.p.Store.Now) || !bytes.Equal(out.Store.Last, l.p.Store.Now) {
			t.Fatalf("%s: Now or Last is not what Now was", l.what)
		}
		var free []int
		for at := 8; at < 256; at++ {
			if l.p.Store.Now[at] == 0 {
				free = append(free, at)
			}
		}
		if got, e := room.Free(out.Store); e != api.OK || !slices.Equal(got, free) {
			t.Fatalf("%s: free are %v, %d, want %v: something is pinned", l.what, got, e, free)
		}
	}
}

// P15.4: behind a commit the volumes, what is in them, the nodes and how often the pool refers to each block are as they were.
func TestShowsTheSame(t *testing.T) {
	met := map[[3]int]int{}
	for _, l := range pick(plots(), 300) {
		out := committed(t, l.what, l.p)
		vols, nodes, refs, items := shows(t, l.what, l.p)
		last := 0
		if bytes.Equal(l.p.Store.Now, l.p.Store.Last) {
			last = 1
		}
		met[[3]int{len(vols), len(l.p.Dead), last}]++
		vols2, nodes2, refs2, items2 := shows(t, l.what, out)
		if !slices.Equal(vols, vols2) || !slices.Equal(nodes, nodes2) || !slices.Equal(refs, refs2) {
			t.Fatalf("%s: volumes %v, nodes %v; were %v, %v; or other references", l.what, vols2, nodes2, vols, nodes)
		}
		if !maps.EqualFunc(items, items2, func(a, b []api.Item) bool { return slices.EqualFunc(a, b, item.Same) }) {
			t.Fatalf("%s: other things are in the volumes", l.what)
		}
	}
	for _, vols := range []int{0, 1, 16} {
		for _, dead := range []int{0, 1, 40} {
			if met[[3]int{vols, dead, 0}] == 0 || met[[3]int{vols, dead, 1}] == 0 {
				t.Errorf("%d volumes, %d in Dead: too few to tell: %v", vols, dead, met)
			}
		}
	}
}

// P15.1: on the disk of a commit a superblock stands, with its Gen, Root, Next, Dead and the sum of Now, the first one unless there was a newer one; count.Read tells Now on the side of that Gen.
func TestToldByTheDisk(t *testing.T) {
	for _, l := range pick(plots(), 400) {
		out := committed(t, l.what, l.p)
		table, e := count.Sum(l.p.Store.Now)
		if e != api.OK {
			t.Fatal(e)
		}
		want := api.Super{Gen: l.p.Gen + 1, Root: l.p.Root, Next: l.p.Next, Table: table, Dead: l.p.Dead}
		supers, e := ring.Find(out.Store.Disk)
		if e != api.OK || len(supers) == 0 || !ring.Same(supers[0], want) {
			t.Fatalf("%s: superblocks %v, %d, want %v first", l.what, supers, e, want)
		}
		if now, e := count.Read(out.Store.Disk, int(out.Gen%2)); e != api.OK || !bytes.Equal(now, l.p.Store.Now) {
			t.Fatalf("%s: the table on the side of Gen %d is not Now, %d", l.what, out.Gen, e)
		}
	}
	// A newer one that stands is no hindrance.
	p := grown(3, 2, 1).p
	disk, e := ring.Put(p.Store.Disk, api.Super{Gen: 1<<31 + 2, Root: 8})
	if e != api.OK {
		t.Fatal(e)
	}
	p.Gen, p.Store.Disk = 4, disk
	supers, e := ring.Find(committed(t, "behind a newer one", p).Store.Disk)
	if e != api.OK || len(supers) != 2 || supers[0].Gen != 1<<31+2 || supers[1].Gen != 5 {
		t.Errorf("behind a newer one: %v, %d", supers, e)
	}
}

// P15.1: all blocks but those that the commit writes are as they were seen, and those for which nothing waited as they lasted.
func TestOtherBlocks(t *testing.T) {
	for _, l := range pick(plots(), 300) {
		out, e := commit.Commit(l.p)
		if e != api.OK {
			t.Fatal(l.what, e)
		}
		turned := own(l.p)
		for at := range 256 {
			if slices.Contains(turned, at) {
				continue
			}
			seen, e := dev.Read(l.p.Store.Disk, at)
			if e != api.OK || !bytes.Equal(out.Store.Disk.Blocks[at], seen) {
				t.Fatalf("%s: block %d is not as it was seen, %d", l.what, at, e)
			}
		}
		for _, w := range l.p.Store.Disk.Waits {
			turned = append(turned, w.At)
		}
		for at, b := range l.p.Store.Disk.Blocks {
			if !slices.Contains(turned, at) && !bytes.Equal(out.Store.Disk.Blocks[at], b) {
				t.Fatalf("%s: block %d, for which nothing waited, is another one", l.what, at)
			}
		}
	}
}

// P15.1: one commit behind the other, things being done between them or not: the sides take turns, the slots go round, what was told by those ahead stays until its slot, or its side, comes again.
func TestInARow(t *testing.T) {
	for _, first := range []uint32{0, 1, 2, 3, 4, 1<<31 - 3, api.MaxWord - 9} {
		p := forest.New()
		p.Gen = first
		var tables [][]byte
		for i := range 9 {
			if i%3 < 2 {
				p = sown(t, p, uint32(i))
			}
			was := p
			p = committed(t, fmt.Sprint("commit ", i), p)
			tables = append(tables, p.Store.Now)
			supers, e := ring.Find(p.Store.Disk)
			if e != api.OK || len(supers) != min(i+1, 4) {
				t.Fatalf("behind commit %d: %v, %d", i, supers, e)
			}
			for j, s := range supers {
				if s.Gen != first+uint32(i+1-j) {
					t.Errorf("behind commit %d: superblock %d has Gen %d", i, j, s.Gen)
				}
				if table, _ := count.Read(p.Store.Disk, int(s.Gen%2)); j < 2 && !bytes.Equal(table, tables[i-j]) {
					t.Errorf("behind commit %d: the table of Gen %d is another one", i, s.Gen)
				}
			}
			if q, ok := opened(p.Store.Disk); !ok || !same(p, q) {
				t.Errorf("behind commit %d: the pool that the disk tells of is another one than %d", i, was.Gen+1)
			}
		}
	}
}

// sown is p with an item more in its volume 1, which it gets if it has none.
func sown(t *testing.T, p api.Pool, key uint32) api.Pool {
	t.Helper()
	v, e := forest.Vol(p, 1)
	old, had := v.Root, e == api.OK
	if had {
		p.Store, e = room.Share(p.Store, v.Root)
	} else {
		p.Next, v.Id = 2, 1
		p.Store, v.Root, e = put.New(p.Store)
	}
	if e == api.OK {
		p.Store, v.Root, e = put.Put(p.Store, v.Root, api.Item{Key: api.Key{Kind: 2, Off: key}, Val: some(5, int(key))})
	}
	if e == api.OK {
		p, e = forest.Set(p, v)
	}
	if e == api.OK && had {
		p.Store, e = drop.Leave(p.Store, old)
	}
	if e != api.OK {
		t.Fatal(e)
	}
	return p
}

// P15.2: a cut in each phase, with all kinds of marks, leaves what the words tell, to the byte; nothing waits.
func TestCut(t *testing.T) {
	for _, l := range pick(plots(), 400) {
		for phase := 1; phase < 4; phase++ {
			for _, keep := range mixes(len(written(l.p, phase))) {
				if d := cut(t, l.what, l.p, phase, keep); dev.Check(d) != api.OK || len(d.Waits) != 0 {
					t.Fatalf("%s: behind a cut %d wait, Check %d", l.what, len(d.Waits), dev.Check(d))
				}
			}
		}
	}
}

// P15.2, P15.4: what waits in phase 1 is what waited for the disk, in phase 2 two writes wait, in phase 3 one: so many marks there are; with fewer or more it is ErrArg.
func TestMarks(t *testing.T) {
	for _, l := range pick(plots(), 100) {
		for phase := 1; phase < 4; phase++ {
			want := []int{len(l.p.Store.Disk.Waits), 2, 1}[phase-1]
			for _, many := range []int{0, 1, 2, 3, 4, 5, want - 1, want, want + 1, 256, 4095, 4096, 4097, 10000} {
				if many < 0 {
					continue
				}
				for _, mark := range []bool{false, true} {
					if keep := marks(many, mark); many == want {
						cut(t, l.what, l.p, phase, keep)
					} else {
						cutRefused(t, l.what, l.p, phase, keep, api.ErrArg)
					}
				}
			}
		}
	}
	// Spare room of the marks is none of them.
	p := forest.New()
	for phase, want := range []int{0, 2, 1} {
		long := marks(9, true)
		want += len(p.Store.Disk.Waits) * (1 - min(1, phase))
		cut(t, "spare room", p, phase+1, long[:want])
		cutRefused(t, "spare room", p, phase+1, long[:want+1], api.ErrArg)
		cutRefused(t, "spare room", p, phase+1, long[:want-1], api.ErrArg)
		if !slices.Equal(long, marks(9, true)) {
			t.Error("the spare room of the marks was turned")
		}
	}
	calm := p
	calm.Store.Disk = told(p, 1, marks(len(p.Store.Disk.Waits), true)...)
	for _, keep := range [][]bool{nil, {}} {
		if d := cut(t, "nothing waits", calm, 1, keep); !dev.Same(d, calm.Store.Disk) {
			t.Error("nothing waits, but a cut in phase 1 turns the disk")
		}
	}
}

// P15.4: a cut in phase 1 or 2 turns no superblock, and no table on the side of Gen, but for what waited for these blocks itself; in phase 2 the other side's halves are those of Now whose marks are true.
func TestCutsThatTurnNoSuperblock(t *testing.T) {
	for _, l := range pick(plots(), 400) {
		side := 4 + 2*int(l.p.Gen%2)
		fixed := []int{0, 1, 2, 3, side, side + 1}
		if !slices.ContainsFunc(l.p.Store.Disk.Waits, func(w api.Write) bool { return slices.Contains(fixed, w.At) }) {
			for _, keep := range mixes(len(l.p.Store.Disk.Waits)) {
				d := cut(t, l.what, l.p, 1, keep)
				for _, at := range fixed {
					if !bytes.Equal(d.Blocks[at], l.p.Store.Disk.Blocks[at]) {
						t.Fatalf("%s: a cut in phase 1 turns block %d", l.what, at)
					}
				}
			}
		}
		other := 10 - side
		for _, keep := range mixes(2) {
			d := cut(t, l.what, l.p, 2, keep)
			for _, at := range fixed {
				if b, _ := dev.Read(l.p.Store.Disk, at); !bytes.Equal(d.Blocks[at], b) {
					t.Fatalf("%s: a cut in phase 2 turns block %d", l.what, at)
				}
			}
			for i, half := range [][]byte{l.p.Store.Now[:128], l.p.Store.Now[128:]} {
				if b, _ := dev.Read(l.p.Store.Disk, other+i); keep[i] {
					if !bytes.Equal(d.Blocks[other+i], half) {
						t.Fatalf("%s: half %d is kept, but is not there", l.what, i)
					}
				} else if !bytes.Equal(d.Blocks[other+i], b) {
					t.Fatalf("%s: half %d is not kept, but its block is another one", l.what, i)
				}
			}
		}
	}
}

// P15.4: a cut in phase 3 whose write is kept leaves the commit's disk; else all of it but the superblock. All marks true in phase 2 leave the same.
func TestCutInPhaseThree(t *testing.T) {
	for _, l := range pick(plots(), 400) {
		out := committed(t, l.what, l.p)
		if d := cut(t, l.what, l.p, 3, []bool{true}); !dev.Same(d, out.Store.Disk) {
			t.Fatalf("%s: a cut in phase 3 whose write is kept leaves another disk than the commit", l.what)
		}
		d := cut(t, l.what, l.p, 3, []bool{false})
		if !dev.Same(d, cut(t, l.what, l.p, 2, []bool{true, true})) {
			t.Fatalf("%s: a cut in phase 3 whose write is not kept leaves another disk than phase 2", l.what)
		}
		slot := own(l.p)[2]
		if b, _ := dev.Read(l.p.Store.Disk, slot); !bytes.Equal(d.Blocks[slot], b) {
			t.Fatalf("%s: a cut in phase 3 whose write is not kept turns the slot", l.what)
		}
		d.Blocks[slot] = out.Store.Disk.Blocks[slot]
		if !dev.Same(d, out.Store.Disk) {
			t.Fatalf("%s: behind a cut in phase 3 more than the slot differs from the commit's disk", l.what)
		}
	}
}

// P15.2: ErrArg of a phase that is none, however many marks there are.
func TestNoPhase(t *testing.T) {
	for _, l := range pick(plots(), 30) {
		for _, phase := range []int{0, 4, -1, -2, -3, 5, 6, 255, 256 + 1, 1<<16 + 2, 1 << 32, 1<<32 + 1, 1<<32 + 3, -1<<32 + 1, math.MaxInt, math.MinInt, math.MinInt + 1, math.MinInt + 2, math.MinInt + 3, 1<<62 + 1, 1<<63 - 2} {
			for _, many := range []int{0, 1, 2, 3, len(l.p.Store.Disk.Waits)} {
				cutRefused(t, l.what, l.p, phase, marks(many, many%2 == 0), api.ErrArg)
			}
			cutRefused(t, l.what, l.p, phase, nil, api.ErrArg)
		}
	}
}

// P15.1, P15.2: ErrFull of the greatest Gen, in each phase, with any marks; with the greatest one less 1 it goes well.
func TestGreatestGen(t *testing.T) {
	for _, l := range pick(plots(), 60) {
		l.p.Gen = api.MaxWord
		refused(t, l.what, l.p, api.ErrFull)
		for phase := -1; phase < 6; phase++ {
			for _, many := range []int{0, 1, 2, len(l.p.Store.Disk.Waits)} {
				cutRefused(t, l.what, l.p, phase, marks(many, true), api.ErrFull)
			}
		}
		l.p.Gen--
		if out := committed(t, l.what, l.p); out.Gen != api.MaxWord {
			t.Errorf("%s: Gen %d", l.what, out.Gen)
		}
		refused(t, l.what, committed(t, l.what, l.p), api.ErrFull)
		cut(t, l.what, l.p, 3, []bool{true})
	}
}

// lame is what is done to a garden ahead of the forest, and to all else behind, so that its pool may not be.
type lame struct {
	what   string
	ahead  func(g *garden)
	behind func(g *garden)
}

// stores are turns of a store to one that may not be.
func stores() map[string]func(s *api.Store) {
	return map[string]func(s *api.Store){
		"no store":                func(s *api.Store) { *s = api.Store{} },
		"no disk":                 func(s *api.Store) { s.Disk = api.Disk{} },
		"too few blocks":          func(s *api.Store) { s.Disk.Blocks = s.Disk.Blocks[:255] },
		"too many blocks":         func(s *api.Store) { s.Disk.Blocks = append(s.Disk.Blocks, filled(1)) },
		"a block too short":       func(s *api.Store) { s.Disk.Blocks[7] = s.Disk.Blocks[7][:127] },
		"a block too long":        func(s *api.Store) { s.Disk.Blocks[0] = append(s.Disk.Blocks[0], 0) },
		"a write beyond":          func(s *api.Store) { s.Disk.Waits = []api.Write{{At: 256, Data: filled(1)}} },
		"a write below":           func(s *api.Store) { s.Disk.Waits = []api.Write{{At: -1, Data: filled(1)}} },
		"a write too short":       func(s *api.Store) { s.Disk.Waits = []api.Write{{At: 4, Data: filled(1)[1:]}} },
		"too many writes":         func(s *api.Store) { s.Disk.Waits = slices.Repeat([]api.Write{{At: 7, Data: filled(1)}}, 4097) },
		"no Now":                  func(s *api.Store) { s.Now = nil },
		"Now too short":           func(s *api.Store) { s.Now = s.Now[:255] },
		"Now too long":            func(s *api.Store) { s.Now = append(s.Now, 0) },
		"a fixed block counted":   func(s *api.Store) { s.Now[7] = 1 },
		"no Last":                 func(s *api.Store) { s.Last = nil },
		"Last too short":          func(s *api.Store) { s.Last = s.Last[:255] },
		"Last too long":           func(s *api.Store) { s.Last = append(s.Last, 0) },
		"a fixed one was counted": func(s *api.Store) { s.Last[0] = 255 },
	}
}

// trees are turns of a tree of two levels at root to one that may not be.
func trees() map[string]func(g *garden, root int) {
	turn := func(turn func(n *api.Node)) func(g *garden, root int) {
		return func(g *garden, root int) {
			n := g.nodes[root]
			n.Items = slices.Clone(n.Items)
			turn(&n)
			g.set(root, n)
		}
	}
	below := func(g *garden, root, i int) int { return g.nodes[root].Items[i].Ref }
	sealed := func(bytes ...byte) []byte {
		b, _ := sum.Seal(bytes)
		return b
	}
	return map[string]func(g *garden, root int){
		"its root is no node":                 func(g *garden, root int) { g.p.Store.Disk.Blocks[root] = filled(0) },
		"its root is of another kind":         func(g *garden, root int) { g.p.Store.Disk.Blocks[root] = sealed(77, 0, 0) },
		"its root is too high":                func(g *garden, root int) { g.p.Store.Disk.Blocks[root] = sealed(78, 6, 1, 2) },
		"its root waits, and is no node":      func(g *garden, root int) { wait(&g.p, root, filled(9)) },
		"its root is counted 0 times":         func(g *garden, root int) { g.p.Store.Now[root] = 0 },
		"no node below":                       func(g *garden, root int) { g.p.Store.Disk.Blocks[below(g, root, 1)][9] ^= 1 },
		"a node below waits, and is none":     func(g *garden, root int) { wait(&g.p, below(g, root, 0), filled(9)) },
		"a node below is counted 0 times":     func(g *garden, root int) { g.p.Store.Now[below(g, root, 0)] = 0 },
		"an empty leaf below":                 func(g *garden, root int) { g.set(below(g, root, 1), api.Node{}) },
		"another level below":                 turn(func(n *api.Node) { n.Level++ }),
		"another key above":                   turn(func(n *api.Node) { n.Items[1].Key.Off-- }),
		"twice the same below":                turn(func(n *api.Node) { n.Items[1].Ref = n.Items[0].Ref }),
		"a leaf refers to what nobody counts": func(g *garden, root int) { g.p.Store.Now[g.data[0]] = 0 },
		"keys that do not rise": func(g *garden, root int) {
			a, b := g.nodes[below(g, root, 0)], g.nodes[below(g, root, 1)]
			g.set(below(g, root, 0), api.Node{Items: []api.Item{a.Items[0], b.Items[len(b.Items)-1]}})
		},
	}
}

// lames are reasons why a pool may not be: all that forest.Check has.
func lames() []lame {
	none := func(g *garden) {}
	var l []lame
	for what, turn := range stores() {
		l = append(l, lame{what, none, func(g *garden) { turn(&g.p.Store) }})
	}
	for what, turn := range trees() {
		l = append(l, lame{"a volume, " + what, none, func(g *garden) { turn(g, g.vols[1].Root) }})
		l = append(l, lame{"Dead, " + what, none, func(g *garden) { turn(g, g.p.Dead[1]) }})
		l = append(l, lame{"the forest, " + what, func(g *garden) {
			// Its leaves have only to be a tree's, that one of them refers to something is another reason.
			g.vol(90, g.leaf(2))
		}, func(g *garden) { turn(g, g.p.Root) }})
	}
	for _, at := range strays {
		l = append(l, lame{fmt.Sprint("Root ", at), none, func(g *garden) { g.p.Root = at }})
		l = append(l, lame{fmt.Sprint("in Dead ", at), none, func(g *garden) { g.p.Dead[2] = at }})
		if at >= 0 && at < 1<<16 {
			l = append(l, lame{fmt.Sprint("a volume's Root ", at), none, func(g *garden) {
				v := g.vols[0]
				v.Root = at
				n := g.nodes[below(g)]
				n.Items[0] = tells(v)
				g.set(below(g), n)
			}})
		}
	}
	for what, turn := range volumes() {
		l = append(l, lame{what, none, func(g *garden) {
			n := g.nodes[below(g)]
			turn(&n.Items[0])
			g.set(below(g), n)
			first := g.nodes[g.p.Root]
			first.Items[0].Key = n.Items[0].Key
			g.set(g.p.Root, first)
		}})
	}
	return append(l, numbers()...)
}

// below is the forest's first leaf.
func below(g *garden) int { return g.nodes[g.p.Root].Items[0].Ref }

// volumes are turns of the item of the first volume to one that is no volume's.
func volumes() map[string]func(x *api.Item) {
	return map[string]func(x *api.Item){
		"another Kind":  func(x *api.Item) { x.Key.Kind = 0 },
		"an Off":        func(x *api.Item) { x.Key.Off = 1 },
		"a Ref":         func(x *api.Item) { x.Ref = int(x.Val[0]) },
		"a short Val":   func(x *api.Item) { x.Val = x.Val[:6] },
		"a long Val":    func(x *api.Item) { x.Val = append(x.Val, 0) },
		"no Val":        func(x *api.Item) { x.Val = nil },
		"half a Frozen": func(x *api.Item) { x.Val[2] = 2 },
		"Id 0":          func(x *api.Item) { x.Key.Id = 0 },
	}
}

// numbers are reasons that hang on how many there are, and on counts.
func numbers() []lame {
	none := func(g *garden) {}
	l := []lame{
		{"Next is a volume's Id", none, func(g *garden) { g.p.Next = g.vols[len(g.vols)-1].Id }},
		{"Next 0", none, func(g *garden) { g.p.Next = 0 }},
		{"Next 1", none, func(g *garden) { g.p.Next = 1 }},
		{"17 volumes", func(g *garden) {
			for i := uint32(len(g.vols)); i < 17; i++ {
				g.vol(30+i, g.vols[0].Root)
			}
		}, none},
		{"41 in Dead", func(g *garden) {
			for len(g.p.Dead) < 41 {
				g.p.Dead = append(g.p.Dead, g.p.Dead[0])
			}
		}, none},
		{"as many in Dead as counts tell, and one", none, func(g *garden) { g.p.Dead = append(g.p.Dead, g.p.Dead[0]) }},
	}
	for what, at := range map[string]func(g *garden) int{
		"Root":             func(g *garden) int { return g.p.Root },
		"a volume's Root":  func(g *garden) int { return g.vols[2].Root },
		"one of Dead":      func(g *garden) int { return g.p.Dead[0] },
		"the forest's":     func(g *garden) int { return g.nodes[g.p.Root].Items[1].Ref },
		"a volume's node":  func(g *garden) int { return g.nodes[g.vols[1].Root].Items[1].Ref },
		"a node of Dead":   func(g *garden) int { return g.nodes[g.p.Dead[1]].Items[1].Ref },
		"what is in leafs": func(g *garden) int { return g.data[1] },
	} {
		l = append(l, lame{what + " is counted too seldom", none, func(g *garden) {
			refs, e := forest.Refs(g.p)
			if e != api.OK {
				panic(e)
			}
			g.p.Store.Now[at(g)] = byte(refs[at(g)] - 1)
		}})
	}
	return l
}

// grove is a garden on which each reason can be shown: three volumes and more, whose second one has two levels, and a forest of two levels; of Dead the second one has two.
func grove(seed int, ahead func(g *garden)) *garden {
	g := bare(seed)
	g.vol(1, g.leaf(3))
	g.vol(4, g.tree(1, 2))
	g.vol(5, g.leaf(2))
	g.vol(9, g.leaf(0))
	g.p.Dead = []int{g.leaf(1), g.tree(1, 2), g.vols[0].Root}
	ahead(g)
	return g.plant().settle()
}

// P15.1, P15.2: ErrBad of a pool that may not be, for each reason that forest.Check has, in each phase, with any marks, whatever its Gen is.
func TestMayNotBe(t *testing.T) {
	committed(t, "a grove", grove(1, func(g *garden) {}).p)
	for i, l := range lames() {
		g := grove(i%9, l.ahead)
		for _, gen := range []uint32{0, 7, api.MaxWord - 1, api.MaxWord} {
			h := *g
			h.p = twin(g.p)
			h.nodes = map[int]api.Node{}
			for at, n := range g.nodes {
				n.Items = slices.Clone(n.Items)
				h.nodes[at] = n
			}
			h.p.Gen = gen
			l.behind(&h)
			if e := forest.Check(h.p); e != api.ErrBad {
				t.Fatalf("%s: forest.Check %d", l.what, e)
			}
			refused(t, l.what, h.p, api.ErrBad)
			for phase := -1; phase < 5; phase++ {
				for _, many := range []int{0, 1, 2, len(h.p.Store.Disk.Waits)} {
					cutRefused(t, l.what, h.p, phase, marks(many, true), api.ErrBad)
				}
			}
		}
	}
	for _, p := range []api.Pool{{}, {Gen: api.MaxWord}, {Root: 8, Next: 1}, {Store: room.New()}, {Store: room.New(), Root: 8, Next: 1}} {
		refused(t, "no pool", p, api.ErrBad)
		for phase := range 5 {
			cutRefused(t, "no pool", p, phase, nil, api.ErrBad)
			cutRefused(t, "no pool", p, phase, marks(phase, true), api.ErrBad)
		}
	}
}

// P15.2: of several errors the first one tells: that p may not be, that it has the greatest Gen, that there is no such phase, that the marks are too many or too few.
func TestErrorsInOrder(t *testing.T) {
	faults := []struct {
		want api.Errno
		turn func(p *api.Pool, phase *int, keep *[]bool)
	}{
		{api.ErrBad, func(p *api.Pool, phase *int, keep *[]bool) { p.Store.Now[p.Root] = 0 }},
		{api.ErrFull, func(p *api.Pool, phase *int, keep *[]bool) { p.Gen = api.MaxWord }},
		{api.ErrArg, func(p *api.Pool, phase *int, keep *[]bool) { *phase += 3 }},
		{api.ErrArg, func(p *api.Pool, phase *int, keep *[]bool) { *keep = append(*keep, true) }},
	}
	for first := 1; first < 4; first++ {
		for mask := range 1 << len(faults) {
			p, phase, want := grown(first, 3, 2).p, first, api.OK
			keep := marks(len(written(p, phase)), true)
			for i, f := range slices.Backward(faults) {
				if mask>>i&1 == 1 {
					f.turn(&p, &phase, &keep)
					want = f.want
				}
			}
			what := fmt.Sprintf("faults %04b", mask)
			if want == api.OK {
				cut(t, what, p, phase, keep)
			} else {
				cutRefused(t, what, p, phase, keep, want)
			}
			if mask&3 == 0 {
				committed(t, what, p)
			} else {
				refused(t, what, p, want)
			}
		}
	}
}

// P15.3: what is handed in, its spare room too, stays as it was, whatever is answered, and whatever is done to that.
func TestReadsAlone(t *testing.T) {
	for _, l := range pick(plots(), 60) {
		full, odd := twin(l.p), twin(l.p)
		full.Gen = api.MaxWord
		odd.Store.Now[odd.Root] = 0
		for _, p := range []api.Pool{roomy(l.p), roomy(full), roomy(odd)} {
			was := bared(p)
			for range 2 {
				out, _ := commit.Commit(p)
				wreck(out)
				for phase := range 5 {
					for _, many := range []int{0, 1, 2, len(p.Store.Disk.Waits)} {
						keep := append(marks(many, true), false, true)
						d, _ := commit.Cut(p, phase, keep[:many])
						wreck(api.Pool{Store: api.Store{Disk: d}})
						if !slices.Equal(keep, append(marks(many, true), false, true)) {
							t.Fatalf("%s: the marks, or their spare room, were turned", l.what)
						}
					}
				}
			}
			if !same(bared(p), was) {
				t.Fatalf("%s: what was handed in, or its spare room, was turned", l.what)
			}
		}
	}
}

// P15.3, R2: what is done to what is answered is seen in no other answer, and not in what was handed in; nor the other way.
func TestNewMemory(t *testing.T) {
	for _, l := range pick(plots(), 60) {
		calls := []func(p api.Pool) api.Pool{func(p api.Pool) api.Pool { out, _ := commit.Commit(p); return out }}
		for phase := 1; phase < 4; phase++ {
			for _, mark := range []bool{false, true} {
				calls = append(calls, func(p api.Pool) api.Pool {
					d, _ := commit.Cut(p, phase, marks(len(written(l.p, phase)), mark))
					return api.Pool{Store: api.Store{Disk: d}}
				})
			}
		}
		for i, call := range calls {
			p := roomy(l.p)
			was := bared(p)
			first, second := call(p), call(p)
			want := twin(first)
			if nothing(first) {
				t.Fatal(l.what, i)
			}
			wreck(second)
			if !same(first, want) || !same(bared(p), was) {
				t.Fatalf("%s: what is done to answer %d is seen in an earlier one, or in the argument", l.what, i)
			}
			if third := call(p); !same(third, want) {
				t.Fatalf("%s: a later answer %d is another one", l.what, i)
			}
			wreck(p)
			if !same(first, want) {
				t.Fatalf("%s: what is done to the argument is seen in answer %d", l.what, i)
			}
		}
	}
}

// P15.3: no two lists of an answer share memory, their spare room neither, though those that are handed in do.
func TestSharesNothing(t *testing.T) {
	counts := make([]byte, 256)
	counts[100], counts[101] = 1, 1
	leaf := block(api.Node{Items: []api.Item{tells(api.Volume{Id: 1, Root: 101})}})
	empty := block(api.Node{})
	p := api.Pool{Store: api.Store{Disk: api.Disk{Blocks: slices.Repeat([][]byte{counts[128:]}, 256)}, Now: counts, Last: counts}, Root: 100, Next: 5, Dead: make([]int, 0, 4)}
	p.Store.Disk.Waits = []api.Write{{At: 100, Data: leaf}, {At: 101, Data: empty}, {At: 99, Data: leaf}, {At: 7, Data: counts[:128]}, {At: 6, Data: counts[128:]}, {At: 98, Data: empty}}
	outs := []api.Pool{committed(t, "shared lists", p)}
	for phase := 1; phase < 4; phase++ {
		for _, mark := range []bool{false, true} {
			d := cut(t, "shared lists", p, phase, marks(len(written(p, phase)), mark))
			outs = append(outs, api.Pool{Store: api.Store{Disk: d}})
		}
	}
	for i, out := range outs {
		all, then := lists(out.Store), lists(room.Twin(out.Store))
		for j, b := range all {
			spoil(b)
			many := 0
			for k, c := range all {
				if !bytes.Equal(c, then[k]) {
					many++
				}
			}
			if spoil(b); len(b) > 0 && many != 1 {
				t.Fatalf("answer %d: what is done to list %d is seen in %d", i, j, many)
			}
		}
	}
	if l := append(outs[0].Dead, 1, 2); !slices.Equal(l, []int{1, 2}) || !slices.Equal(p.Dead[:4], make([]int, 4)) {
		t.Error("what is put into Dead of an answer is seen elsewhere")
	}
}

// R2: what is answered hangs on what is handed in alone: other pools, and pools that were turned between two calls, turn nothing.
func TestHangsOnArgumentsAlone(t *testing.T) {
	for range 3 {
		for _, l := range pick(plots(), 9) {
			out := committed(t, l.what, l.p)
			p := twin(l.p)
			p.Store.Now[p.Root] = 0
			refused(t, l.what, p, api.ErrBad)
			cutRefused(t, l.what, p, 3, []bool{true}, api.ErrBad)
			p.Store.Now[p.Root] = 77
			committed(t, l.what, p)
			p.Gen /= 2
			committed(t, l.what, p)
			cut(t, l.what, p, 2, []bool{true, false})
			if again := committed(t, l.what, l.p); !same(out, again) {
				t.Errorf("%s: a commit of the same pool is another one", l.what)
			}
		}
	}
}

// house is a pool, what is in its volumes, and both as they were when all was committed last, as plain data.
type house struct {
	dice
	p     api.Pool
	items map[uint32]map[api.Key]string
	last  api.Pool
	had   map[uint32]map[api.Key]string
}

// some is one of the house's volumes, its Root held once more, if it is to be shared.
func (h *house) some(t *testing.T, shared bool) api.Volume {
	t.Helper()
	ids := sorted(h.items)
	v, e := forest.Vol(h.p, ids[h.roll(len(ids))])
	if e == api.OK && shared {
		h.p.Store, e = room.Share(h.p.Store, v.Root)
	}
	if e != api.OK {
		t.Fatal(e)
	}
	return v
}

// set is v set in the house; the Root that it had is left.
func (h *house) set(t *testing.T, v api.Volume, items map[api.Key]string) {
	t.Helper()
	old, had := forest.Vol(h.p, v.Id)
	p, e := forest.Set(h.p, v)
	if e == api.OK && had == api.OK {
		p.Store, e = drop.Leave(p.Store, old.Root)
	}
	if e != api.OK {
		t.Fatal(e)
	}
	h.p, h.items[v.Id] = p, items
}

// create makes a volume, an empty one, or of another one's tree.
func (h *house) create(t *testing.T) {
	t.Helper()
	h.p.Next++
	v, items := api.Volume{Id: h.p.Next - 1}, map[api.Key]string{}
	if len(h.items) > 0 && h.roll(2) == 0 {
		of := h.some(t, true)
		v.Root, v.From, items = of.Root, of.Id, maps.Clone(h.items[of.Id])
	} else {
		var e api.Errno
		if h.p.Store, v.Root, e = put.New(h.p.Store); e != api.OK {
			t.Fatal(e)
		}
	}
	h.set(t, v, items)
}

// plant puts an item into some volume.
func (h *house) plant(t *testing.T) {
	t.Helper()
	v := h.some(t, true)
	x := api.Item{Key: nth(h.roll(30)), Val: some(h.roll(13), h.roll(99))}
	var e api.Errno
	if h.p.Store, v.Root, e = put.Put(h.p.Store, v.Root, x); e != api.OK {
		t.Fatal(e)
	}
	items := maps.Clone(h.items[v.Id])
	items[x.Key] = string(x.Val)
	h.set(t, v, items)
}

// fell takes some volume out: its Root waits to be reaped.
func (h *house) fell(t *testing.T) {
	t.Helper()
	v := h.some(t, false)
	p, e := forest.Unset(h.p, v.Id)
	if e != api.OK {
		t.Fatal(e)
	}
	p.Dead = append(slices.Clone(p.Dead), v.Root)
	h.p = p
	delete(h.items, v.Id)
}

// reap leaves the last one that waits to be reaped.
func (h *house) reap(t *testing.T) {
	t.Helper()
	at := len(h.p.Dead) - 1
	s, e := drop.Leave(h.p.Store, h.p.Dead[at])
	if e != api.OK {
		t.Fatal(e)
	}
	h.p.Store, h.p.Dead = s, slices.Clone(h.p.Dead[:at])
}

// commit commits: what is there now is what was committed last.
func (h *house) commit(t *testing.T) {
	t.Helper()
	h.p = committed(t, "a house", h.p)
	h.last, h.had = twin(h.p), maps.Clone(h.items)
}

// cut cuts the power in that phase of a commit of the house, in all of these ways, and fails, unless what is opened then is what was committed last, or, if the superblock is kept, what this commit tells. It goes on with the last one.
func (h *house) cut(t *testing.T, phase int, ways [][]bool) {
	t.Helper()
	now := committed(t, "a house", h.p)
	var next api.Pool
	done := false
	for _, keep := range ways {
		p, ok := opened(cut(t, "a house", h.p, phase, keep))
		done = phase == 3 && keep[0]
		want := h.last
		if done {
			want = now
		}
		if !ok || p.Gen != want.Gen || p.Root != want.Root || p.Next != want.Next || !slices.Equal(p.Dead, want.Dead) || !bytes.Equal(p.Store.Now, want.Store.Now) {
			t.Fatalf("a cut in phase %d, marks %v: Gen %d, Root %d, Next %d, Dead %v, want %d, %d, %d, %v, or other counts", phase, keep, p.Gen, p.Root, p.Next, p.Dead, want.Gen, want.Root, want.Next, want.Dead)
		}
		items := h.had
		if done {
			items = h.items
		}
		stands(t, p, items)
		next = p
	}
	if h.p = next; !done {
		h.items = maps.Clone(h.had)
	}
	h.last, h.had = twin(h.p), maps.Clone(h.items)
}

// stands fails, unless p has volumes with just these items, and each block is counted just as often as p refers to it.
func stands(t *testing.T, p api.Pool, items map[uint32]map[api.Key]string) {
	t.Helper()
	vols, _, refs, all := shows(t, "a house", p)
	if len(vols) != len(items) {
		t.Fatalf("%d volumes, want %d", len(vols), len(items))
	}
	for _, v := range vols {
		got := map[api.Key]string{}
		for _, x := range all[v.Id] {
			got[x.Key] = string(x.Val)
		}
		if want, is := items[v.Id]; !is || !maps.Equal(got, want) {
			t.Fatalf("volume %d has %v, want %v", v.Id, got, want)
		}
	}
	for at, n := range refs {
		if n != int(p.Store.Now[at]) {
			t.Fatalf("block %d is counted %d times, want %d", at, p.Store.Now[at], n)
		}
	}
}

// P15.4, W1, W3: in a house where much is done, with commits, and with cuts in each phase, whatever they keep, what is opened is what was committed last, or, if its superblock was kept, what that commit tells: nothing between; and each block is counted as often as the pool refers to it.
func TestHouse(t *testing.T) {
	h := house{dice: 7, p: forest.New(), items: map[uint32]map[api.Key]string{}}
	h.commit(t)
	cuts := [4]int{}
	for range 600 {
		free, e := room.Free(h.p.Store)
		if e != api.OK {
			t.Fatal(e)
		}
		switch k := h.roll(24); {
		case len(free) < 40 || k == 0:
			if h.commit(t); len(h.p.Dead) > 0 {
				h.reap(t)
			} else if len(h.items) > 0 {
				h.fell(t)
			}
		case k < 3 && len(h.items) < 16 || len(h.items) == 0:
			h.create(t)
		case k == 3 && len(h.p.Dead) < 40:
			h.fell(t)
		case k == 4 && len(h.p.Dead) > 0:
			h.reap(t)
		case k < 8:
			phase := 1 + h.roll(3)
			ways := mixes(len(written(h.p, phase)))
			if h.roll(2) == 0 {
				slices.Reverse(ways)
			}
			h.cut(t, phase, ways)
			cuts[phase]++
		default:
			h.plant(t)
		}
		stands(t, h.p, h.items)
	}
	if slices.Min(cuts[1:]) < 10 || h.p.Gen < 20 {
		t.Errorf("cuts in the phases %v, Gen %d: too few to tell", cuts, h.p.Gen)
	}
}

// W1: where nothing was committed yet, nothing is opened behind a cut, but where the first superblock is kept.
func TestFirstCommit(t *testing.T) {
	for _, p := range []api.Pool{forest.New(), sown(t, forest.New(), 3)} {
		for phase := 1; phase < 4; phase++ {
			for _, keep := range mixes(len(written(p, phase))) {
				q, ok := opened(cut(t, "the first one", p, phase, keep))
				if want := phase == 3 && keep[0]; ok != want {
					t.Errorf("the first one, phase %d, marks %v: something is opened %v, want %v", phase, keep, ok, want)
				}
				if ok && !same(q, committed(t, "the first one", p)) {
					t.Errorf("the first one, phase %d, marks %v: another pool is opened", phase, keep)
				}
			}
		}
	}
}

// The chapter's examples.
func TestExamples(t *testing.T) {
	p := forest.New()
	out, e := commit.Commit(p)
	if e != api.OK || out.Gen != 1 || len(out.Store.Disk.Waits) != 0 {
		t.Error("Commit(forest.New)", out.Gen, len(out.Store.Disk.Waits), e)
	}
	for _, keep := range mixes(2) {
		if d, e := commit.Cut(p, 2, keep); e != api.OK || dev.Check(d) != api.OK {
			t.Error("Cut(forest.New, 2, two marks)", keep, e, dev.Check(d))
		}
	}
	cutRefused(t, "Cut(forest.New, 4, none)", p, 4, nil, api.ErrArg)
	cutRefused(t, "Cut(forest.New, 3, none)", p, 3, nil, api.ErrArg)
}

// The chapter's errors, and its limits, have its numbers.
func TestErrors(t *testing.T) {
	if api.ErrArg != 2 || api.ErrBad != 8 || api.ErrFull != 9 || api.MaxWord != 1<<32-1 {
		t.Error(int(api.ErrArg), int(api.ErrBad), int(api.ErrFull), uint32(api.MaxWord))
	}
}
