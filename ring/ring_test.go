package ring_test

import (
	"bytes"
	"hash/crc32"
	"math"
	"slices"
	"testing"

	"scionry/api"
	"scionry/dev"
	"scionry/ring"
)

// The signatures are the chapter's, to the letter.
var (
	_ func(api.Super) api.Errno                       = ring.Check
	_ func(api.Super) ([]byte, api.Errno)             = ring.Write
	_ func([]byte) (api.Super, api.Errno)             = ring.Read
	_ func(uint32) int                                = ring.Slot
	_ func(api.Disk, api.Super) (api.Disk, api.Errno) = ring.Put
	_ func(api.Disk) ([]api.Super, api.Errno)         = ring.Find
	_ func(a, b api.Super) bool                       = ring.Same
)

// fours are numbers of four bytes: both ends, the ends of each byte, and some whose bytes all differ.
var fours = []uint32{
	0, 1, 2, 3, 4, 5, 6, 7, 8, 255, 256, 1<<16 - 1, 1 << 16, 1<<24 - 1, 1 << 24,
	1<<31 - 1, 1 << 31, 1<<31 + 1, 1<<32 - 2, 1<<32 - 1, 0x12345678, 0x78563412,
}

// none are numbers of no block that may be taken: one beyond each end first, then those of which some bytes are right.
var none = []int{
	7, 256, 0, -1, 1, 6, 257, -8, 8 + 256, 255 + 256, 100 + 512, 1<<16 - 1, 1 << 16, 1<<16 + 8, 1<<16 + 255,
	1<<32 + 8, -1<<16 + 8, -1<<32 + 9, math.MaxInt, math.MinInt, math.MinInt + 8,
}

// dead is many blocks, both ends among the first, no two neighbours the same.
func dead(many int) []int {
	l := []int{255, 8, 100, 8, 254, 9, 200}
	for i := range max(0, many-len(l)) {
		l = append(l, 8+(i*37+i/7)%248)
	}
	return l[:many:many]
}

// supers are some that may be: each end of each field, with each of these numbers of dead ones.
func supers() []api.Super {
	var l []api.Super
	for i, n := range fours {
		l = append(l,
			api.Super{Gen: n, Root: 8},
			api.Super{Root: 255, Next: n},
			api.Super{Root: 9, Table: n, Dead: dead(i)},
			api.Super{Gen: n, Root: 8 + i*11, Next: n ^ 0x01020304, Table: ^n, Dead: dead(40 - i)},
		)
	}
	for root := 8; root < 256; root++ {
		l = append(l, api.Super{Gen: uint32(root * 77777), Root: root, Next: 3, Table: 5, Dead: dead(root % 41)})
	}
	for many := range 41 {
		l = append(l, api.Super{Gen: uint32(many), Root: 8, Dead: dead(many)}, api.Super{Root: 77, Dead: slices.Repeat([]int{77}, many)})
	}
	return append(l, api.Super{Gen: 3, Root: 8, Dead: []int{}}, api.Super{Gen: 3, Root: 8, Dead: dead(40)[:0]})
}

// wrong are superblocks that may not be.
func wrong() []api.Super {
	l := []api.Super{{}, {Gen: 1, Next: 2, Table: 3}, {Dead: dead(40)}}
	for _, n := range none {
		l = append(l,
			api.Super{Root: n},
			api.Super{Gen: 4, Root: n, Next: 5, Table: 6, Dead: dead(40)},
			api.Super{Root: 8, Dead: []int{n}},
			api.Super{Root: 255, Dead: []int{n, 8}},
			api.Super{Root: 255, Dead: []int{8, n}},
			api.Super{Root: 8, Dead: append(dead(39), n)},
		)
	}
	for _, many := range []int{41, 42, 54, 55, 80, 255, 256, 257, 296} {
		l = append(l, api.Super{Root: 8, Dead: dead(many)}, api.Super{Root: 8, Dead: make([]int, many)})
	}
	return l
}

// seal is the sealed block of body and noughts, by the chapter's words.
func seal(body []byte) []byte {
	b := make([]byte, 128)
	copy(b[4:], body)
	n := crc32.ChecksumIEEE(b[4:])
	for i := range 4 {
		b[i] = byte(n >> (8 * i))
	}
	return b
}

// body is what the block of s has behind its sum, by the chapter's words, whether s may be or not, many of the dead being told.
func body(s api.Super, many int) []byte {
	b := []byte{
		byte(s.Gen), byte(s.Gen >> 8), byte(s.Gen >> 16), byte(s.Gen >> 24),
		byte(s.Root), byte(s.Root >> 8),
		byte(s.Next), byte(s.Next >> 8), byte(s.Next >> 16), byte(s.Next >> 24),
		byte(s.Table), byte(s.Table >> 8), byte(s.Table >> 16), byte(s.Table >> 24),
		byte(many),
	}
	for _, at := range s.Dead {
		b = append(b, byte(at), byte(at>>8))
	}
	return b
}

// plain is the block of s, by the chapter's words.
func plain(s api.Super) []byte { return seal(body(s, len(s.Dead))) }

// plainSame tells by the word, field by field, whether two superblocks are the same.
func plainSame(a, b api.Super) bool {
	if a.Gen != b.Gen || a.Root != b.Root || a.Next != b.Next || a.Table != b.Table || len(a.Dead) != len(b.Dead) {
		return false
	}
	for i := range a.Dead {
		if a.Dead[i] != b.Dead[i] {
			return false
		}
	}
	return true
}

// allSame tells whether two lists of superblocks are the same.
func allSame(a, b []api.Super) bool { return slices.EqualFunc(a, b, plainSame) }

// some is a superblock of that generation that may be, as others are not.
func some(gen uint32) api.Super {
	n := int(gen % 1009)
	return api.Super{Gen: gen, Root: 8 + n%248, Next: gen ^ 0xabcdef, Table: gen * 2654435761, Dead: dead(n % 41)}
}

// filled is a block of one byte, again and again.
func filled(c byte) []byte { return bytes.Repeat([]byte{c}, 128) }

// disk is one whose blocks all differ, of which no one is a superblock's, and for which these writes wait.
func disk(waits ...api.Write) api.Disk {
	d := api.Disk{Blocks: make([][]byte, 256), Waits: waits}
	for at := range d.Blocks {
		d.Blocks[at] = filled(byte(at))
	}
	return d
}

// laid is a disk whose first blocks last as these.
func laid(blocks ...[]byte) api.Disk {
	d := disk()
	copy(d.Blocks, blocks)
	return d
}

// waiting is a disk for which many writes wait, to others than the ring.
func waiting(many int) api.Disk {
	d := disk()
	one := filled(1)
	for i := range many {
		d.Waits = append(d.Waits, api.Write{At: 4 + i%252, Data: one})
	}
	return d
}

// odds are disks that may not be, though four superblocks stand in each one's ring as far as it has one.
func odds() []api.Disk {
	good := func() api.Disk { return laid(plain(some(4)), plain(some(5)), plain(some(6)), plain(some(7))) }
	var l []api.Disk
	turn := func(f func(d *api.Disk)) {
		d := good()
		f(&d)
		l = append(l, d)
	}
	turn(func(d *api.Disk) { d.Blocks = d.Blocks[:255] })
	turn(func(d *api.Disk) { d.Blocks = append(d.Blocks, filled(1)) })
	turn(func(d *api.Disk) { d.Blocks = d.Blocks[:4] })
	turn(func(d *api.Disk) { d.Blocks = nil })
	for _, at := range []int{0, 1, 3, 4, 255} {
		turn(func(d *api.Disk) { d.Blocks[at] = d.Blocks[at][:127] })
		turn(func(d *api.Disk) { d.Blocks[at] = append(d.Blocks[at], 0) })
		turn(func(d *api.Disk) { d.Blocks[at] = nil })
	}
	for _, at := range []int{-1, 256, math.MinInt, math.MaxInt} {
		turn(func(d *api.Disk) { d.Waits = []api.Write{{At: at, Data: filled(1)}} })
		turn(func(d *api.Disk) { d.Waits = []api.Write{{At: 9, Data: filled(1)}, {At: at, Data: filled(1)}} })
	}
	for _, many := range []int{0, 1, 127, 129} {
		turn(func(d *api.Disk) { d.Waits = []api.Write{{At: 0, Data: make([]byte, many)}} })
		turn(func(d *api.Disk) { d.Waits = []api.Write{{At: 200, Data: make([]byte, many)}} })
	}
	turn(func(d *api.Disk) { d.Waits = waiting(4097).Waits })
	return l
}

// P4.1: Root 8 and 255, none and 40 Dead, 8 and 255 of them, one again and again; all other fields may be anything.
func TestCheck(t *testing.T) {
	for i, s := range supers() {
		if e := ring.Check(s); e != api.OK {
			t.Errorf("%d: Check(%v) = %d, want OK", i, s, e)
		}
	}
	for at := 8; at < 256; at++ {
		for _, s := range []api.Super{{Root: at}, {Root: 8, Dead: []int{at}}, {Root: at, Dead: []int{at, 8, at}}} {
			if e := ring.Check(s); e != api.OK {
				t.Errorf("Check(%v) = %d, want OK", s, e)
			}
		}
	}
}

// P4.1: Root, or one of Dead wherever it stands, that is 7, 256 or another one; 41 Dead.
func TestCheckRefuses(t *testing.T) {
	for i, s := range wrong() {
		if e := ring.Check(s); e != api.ErrBad {
			t.Errorf("%d: Check(%v) = %d, want ErrBad", i, s, e)
		}
	}
	for _, many := range []int{1, 2, 7, 40} {
		for place := range many {
			for _, n := range none {
				s := api.Super{Gen: 9, Root: 8, Dead: dead(many)}
				s.Dead[place] = n
				if e := ring.Check(s); e != api.ErrBad {
					t.Errorf("Check with %d of %d Dead being %d: %d, want ErrBad", place, many, n, e)
				}
			}
		}
	}
	for n := -600; n < 1200; n++ {
		want := api.ErrBad
		if n >= 8 && n <= 255 {
			want = api.OK
		}
		if e := ring.Check(api.Super{Root: n}); e != want {
			t.Errorf("Check(Root %d) = %d, want %d", n, e, want)
		}
	}
}

// P4.1: each field at its place, noughts behind, the sum ahead.
func TestWrite(t *testing.T) {
	for i, s := range supers() {
		if b, e := ring.Write(s); e != api.OK || !bytes.Equal(b, plain(s)) {
			t.Fatalf("%d: Write(%v) = %v, %d, want %v", i, s, b, e, plain(s))
		}
	}
	// Written out once, so that the helper is held against something.
	s := api.Super{Gen: 0x04030201, Root: 0x55, Next: 0x09080706, Table: 0x0d0c0b0a, Dead: []int{8, 255}}
	b, e := ring.Write(s)
	if want := []byte{1, 2, 3, 4, 0x55, 0, 6, 7, 8, 9, 10, 11, 12, 13, 2, 8, 0, 255, 0}; e != api.OK || len(b) != 128 ||
		!bytes.Equal(b[4:23], want) || !bytes.Equal(b[23:], make([]byte, 105)) {
		t.Errorf("Write(%v) = %v, %d", s, b, e)
	}
}

// P4.1: what may not be is not written.
func TestWriteRefuses(t *testing.T) {
	for i, s := range wrong() {
		if b, e := ring.Write(s); e != api.ErrBad || len(b) != 0 {
			t.Errorf("%d: Write(%v) = %v, %d, want no bytes, ErrBad", i, s, b, e)
		}
	}
}

// P4.1: what is written is read.
func TestRead(t *testing.T) {
	for i, want := range supers() {
		if s, e := ring.Read(plain(want)); e != api.OK || !plainSame(s, want) {
			t.Fatalf("%d: Read = %v, %d, want %v", i, s, e, want)
		}
		spare := append(plain(want), 1, 2, 3)[:128]
		if s, e := ring.Read(spare); e != api.OK || !plainSame(s, want) {
			t.Fatalf("%d: Read with spare room = %v, %d, want %v", i, s, e, want)
		}
	}
}

// unread fails, unless b is refused by that error, with no superblock.
func unread(t *testing.T, what string, b []byte, want api.Errno) {
	t.Helper()
	if s, e := ring.Read(b); e != want || !plainSame(s, api.Super{}) {
		t.Errorf("%s: Read(%v) = %v, %d, want none, %d", what, b, s, e, want)
	}
}

// P4.1: a block too short, or too long, whatever it has and whatever is in its spare room.
func TestReadRefusesLengths(t *testing.T) {
	b := append(plain(some(37)), make([]byte, 256)...)
	for n := range len(b) {
		if n != 128 {
			unread(t, "a length", b[:n], api.ErrText)
			unread(t, "noughts", make([]byte, n), api.ErrText)
		}
	}
	unread(t, "nil", nil, api.ErrText)
	unread(t, "one byte", []byte{1}, api.ErrText)
	unread(t, "without its sum", append(body(some(37), 37), make([]byte, 124)...)[:124], api.ErrText)
}

// P4.1: noughts, and any byte turned, those of the sum and the noughts behind too.
func TestReadRefusesSums(t *testing.T) {
	unread(t, "noughts", make([]byte, 128), api.ErrBad)
	for c := range 256 {
		unread(t, "one byte again and again", filled(byte(c)), api.ErrBad)
	}
	for _, s := range []api.Super{{Root: 8}, some(40), {Gen: 5, Root: 200, Dead: dead(40)}} {
		b := plain(s)
		for at := range b {
			for _, by := range []byte{1, 2, 16, 128, 255} {
				b[at] ^= by
				unread(t, "a byte turned", b, api.ErrBad)
				b[at] ^= by
			}
		}
		unread(t, "no sum", append(make([]byte, 4), b[4:]...), api.ErrBad)
		unread(t, "the sum turned round", append([]byte{b[3], b[2], b[1], b[0]}, b[4:]...), api.ErrBad)
		unread(t, "the sum behind", append(b[4:128:128], b[:4]...), api.ErrBad)
	}
}

// P4.1: sealed ones with another byte than a nought behind what they hold, wherever.
func TestReadRefusesWhatIsBehind(t *testing.T) {
	for _, many := range []int{0, 1, 2, 3, 39, 40} {
		s := api.Super{Gen: 7, Root: 9, Next: 11, Table: 13, Dead: dead(many)}
		for at := 15 + 2*many; at < 124; at++ {
			for _, by := range []byte{1, 8, 128, 255} {
				b := append(body(s, many), make([]byte, 124)...)[:124]
				b[at] = by
				unread(t, "a byte behind", seal(b), api.ErrBad)
			}
		}
		if x, e := ring.Read(seal(body(s, many))); e != api.OK || !plainSame(x, s) {
			t.Errorf("noughts behind %d Dead: %v, %d", many, x, e)
		}
	}
	unread(t, "one Dead more than is told", seal(body(api.Super{Root: 8, Dead: dead(3)}, 2)), api.ErrBad)
	unread(t, "three Dead where none is told", seal(body(api.Super{Root: 8, Dead: dead(3)}, 0)), api.ErrBad)
}

// P4.1: sealed ones of superblocks that may not be.
func TestReadRefusesWhatMayNotBe(t *testing.T) {
	unread(t, "sealed noughts", seal(nil), api.ErrBad)
	for _, n := range none {
		// Numbers beyond two bytes would be laid as others, and some of those may be.
		if n < 0 || n >= 1<<16 {
			continue
		}
		unread(t, "a root", plain(api.Super{Gen: 4, Root: n}), api.ErrBad)
		for _, many := range []int{1, 2, 40} {
			for _, place := range []int{0, many - 1} {
				s := api.Super{Gen: 4, Root: 8, Dead: dead(many)}
				s.Dead[place] = n
				unread(t, "one of Dead", plain(s), api.ErrBad)
			}
		}
	}
	for n := range 1 << 16 {
		if n < 8 || n > 255 {
			if s, e := ring.Read(plain(api.Super{Root: n})); e != api.ErrBad || s.Root != 0 {
				t.Fatalf("Read of Root %d: %v, %d", n, s, e)
			}
		}
	}
	for many := 41; many < 256; many++ {
		unread(t, "too many Dead", seal(body(api.Super{Root: 8, Dead: dead(many)}, many)), api.ErrBad)
	}
	for many := 1; many < 256; many++ {
		unread(t, "Dead told that are noughts", seal(body(api.Super{Root: 8}, many)), api.ErrBad)
	}
	unread(t, "one Dead fewer than is told", seal(body(api.Super{Root: 8, Dead: dead(2)}, 3)), api.ErrBad)
}

// P4.1: the generation modulo four.
func TestSlot(t *testing.T) {
	for gen := range uint32(1000) {
		for _, base := range []uint32{0, 1 << 16, 1<<31 - 1000, 1 << 31, 1<<32 - 1000} {
			if n := ring.Slot(base + gen); n != int((uint64(base)+uint64(gen))%4) {
				t.Fatalf("Slot(%d) = %d", base+gen, n)
			}
		}
	}
	for gen, want := range map[uint32]int{0: 0, 1: 1, 2: 2, 3: 3, 4: 0, 1<<31 - 1: 3, 1 << 31: 0, 1<<32 - 1: 3, 1<<32 - 2: 2} {
		if n := ring.Slot(gen); n != want {
			t.Errorf("Slot(%d) = %d, want %d", gen, n, want)
		}
	}
}

// P4.1: one thing that is another one is told, in each field; of any superblocks.
func TestSame(t *testing.T) {
	turns := []func(s *api.Super){
		func(s *api.Super) { s.Gen++ },
		func(s *api.Super) { s.Gen ^= 1 << 31 },
		func(s *api.Super) { s.Root++ },
		func(s *api.Super) { s.Root += 256 },
		func(s *api.Super) { s.Root = -s.Root - 1 },
		func(s *api.Super) { s.Next++ },
		func(s *api.Super) { s.Next ^= 1 << 31 },
		func(s *api.Super) { s.Table++ },
		func(s *api.Super) { s.Table ^= 1 << 31 },
		func(s *api.Super) { s.Dead = append(slices.Clone(s.Dead), 8) },
		func(s *api.Super) { s.Dead = append([]int{8}, s.Dead...) },
		func(s *api.Super) { s.Dead = append(slices.Clone(s.Dead), 0) },
	}
	some := append(append(supers(), wrong()...), api.Super{Gen: 1, Root: 2, Next: 3, Table: 4, Dead: []int{5, 6}}, api.Super{Root: -7, Dead: []int{-1}})
	for i, s := range some {
		if !ring.Same(s, s) || !ring.Same(s, twin(s)) {
			t.Fatalf("%d: %v is not the same as itself", i, s)
		}
		for j, turn := range turns {
			o := twin(s)
			if turn(&o); ring.Same(s, o) || ring.Same(o, s) {
				t.Errorf("%d, turn %d: %v is the same as %v", i, j, s, o)
			}
		}
		for place := range s.Dead {
			o := twin(s)
			if o.Dead[place]++; ring.Same(s, o) || ring.Same(o, s) {
				t.Errorf("%d: another one at place %d of Dead is not told", i, place)
			}
		}
		if n := len(s.Dead); n > 0 {
			o := twin(s)
			if o.Dead = o.Dead[:n-1]; ring.Same(s, o) || ring.Same(o, s) {
				t.Errorf("%d: one fewer of Dead is not told", i)
			}
		}
	}
	a, b := api.Super{Root: 8, Dead: []int{8, 9}}, api.Super{Root: 8, Dead: []int{9, 8}}
	if ring.Same(a, b) {
		t.Error("the order of Dead is not told")
	}
}

// P4.1, Rules ("Lists"): a list without elements may be nil or not, and spare room is not there.
func TestSameOfNothing(t *testing.T) {
	l := [][]int{nil, {}, dead(9)[:0]}
	for i, a := range l {
		for j, b := range l {
			if !ring.Same(api.Super{Root: 8, Dead: a}, api.Super{Root: 8, Dead: b}) || !ring.Same(api.Super{Dead: a}, api.Super{Dead: b}) {
				t.Errorf("%d, %d: two without Dead are not the same", i, j)
			}
		}
		if ring.Same(api.Super{Dead: a}, api.Super{Dead: []int{0}}) {
			t.Errorf("%d: none is the same as a nought", i)
		}
	}
	if !ring.Same(api.Super{Dead: []int{8, 9, 10}[:2]}, api.Super{Dead: []int{8, 9, 11}[:2]}) {
		t.Error("what is in the spare room is told")
	}
}

// P4.2: one write more, of its block to its slot, behind all that wait, whatever stands there.
func TestPut(t *testing.T) {
	disks := []api.Disk{dev.New(), disk(), waiting(1), waiting(4095), laid(plain(some(400)), plain(some(401)), plain(some(402)), plain(some(403)))}
	wait := disk(api.Write{At: 0, Data: plain(some(8))}, api.Write{At: 3, Data: filled(1)}, api.Write{At: 255, Data: filled(2)})
	for i, d := range append(disks, wait) {
		for _, s := range []api.Super{
			{Root: 8}, some(1), some(2), some(3), some(4), some(401), some(999), some(1<<31 - 1), some(1 << 31), some(1<<32 - 1),
			{Gen: 3, Root: 255, Dead: dead(40)}, {Gen: 6, Root: 8, Dead: []int{}},
		} {
			want := dev.Twin(d)
			want.Waits = append(want.Waits, api.Write{At: int(s.Gen % 4), Data: plain(s)})
			if out, e := ring.Put(d, s); e != api.OK || !dev.Same(out, want) {
				t.Errorf("%d: Put of %v: %d, or another disk", i, s, e)
			}
		}
	}
}

// P4.2: a disk that may not be, a superblock that may not be, a disk that is full; a superblock that may not be ahead of a full disk.
func TestPutRefuses(t *testing.T) {
	refused := func(what string, d api.Disk, s api.Super, want api.Errno) {
		t.Helper()
		if out, e := ring.Put(d, s); e != want || len(out.Blocks) != 0 || len(out.Waits) != 0 {
			t.Errorf("%s: Put = a disk of %d and %d, %d, want none, %d", what, len(out.Blocks), len(out.Waits), e, want)
		}
	}
	for _, d := range odds() {
		refused("a disk that may not be", d, some(5), api.ErrBad)
		refused("both may not be", d, api.Super{}, api.ErrBad)
	}
	full := waiting(4096)
	for gen := range uint32(5) {
		refused("a full disk", full, some(gen), api.ErrFull)
	}
	for i, s := range wrong() {
		refused("a superblock that may not be", dev.New(), s, api.ErrBad)
		if i%10 == 0 {
			refused("a superblock that may not be, a full disk", full, s, api.ErrBad)
		}
	}
}

// P4.2: those that stand alone, in whatever slots: each slot in turn has one of its own, one of another slot, noughts, or one that is broken.
func TestFind(t *testing.T) {
	for _, base := range []uint32{0, 4, 1 << 31, 1<<32 - 8} {
		for m := range 1 << 8 {
			d := disk()
			var want []api.Super
			for slot := range 4 {
				s := some(base + uint32(slot))
				switch m >> (2 * slot) & 3 {
				case 0:
					want = append([]api.Super{s}, want...)
					d.Blocks[slot] = plain(s)
				case 1:
					d.Blocks[slot] = plain(some(base + uint32(slot+1+m%3)%4))
				case 2:
					d.Blocks[slot] = make([]byte, 128)
				case 3:
					d.Blocks[slot] = plain(s)
					d.Blocks[slot][m%128] ^= 4
				}
			}
			found(t, d, want)
			// The same by writes that wait.
			w := disk()
			for _, slot := range []int{2, 0, 3, 1} {
				w.Waits = append(w.Waits, api.Write{At: slot, Data: d.Blocks[slot]})
			}
			found(t, w, want)
		}
	}
}

// found fails, unless just these stand in d's ring, in that order (ErrSum, where there are none).
func found(t *testing.T, d api.Disk, want []api.Super) {
	t.Helper()
	l, e := ring.Find(d)
	if len(want) == 0 && (e != api.ErrSum || len(l) != 0) {
		t.Fatalf("Find = %v, %d, want none, ErrSum", l, e)
	}
	if len(want) > 0 && (e != api.OK || !allSame(l, want)) {
		t.Fatalf("Find = %v, %d, want %v", l, e, want)
	}
}

// P4.2: the greatest generation first, falling, in whichever slots; they are numbers without a sign, however far apart.
func TestFindOrder(t *testing.T) {
	choices := [][]uint32{
		{0, 4, 1 << 31, 1<<32 - 4},
		{1, 5, 1<<31 + 1, 1<<32 - 3},
		{2, 6, 1<<31 - 2, 1<<32 - 2},
		{3, 7, 1<<31 - 1, 1<<32 - 1},
	}
	for m := range 1 << 8 {
		d := disk()
		var gens []uint32
		for slot := range 4 {
			gen := choices[slot][m>>(2*slot)&3]
			d.Blocks[slot] = plain(some(gen))
			gens = append(gens, gen)
		}
		slices.Sort(gens)
		var want []api.Super
		for _, gen := range slices.Backward(gens) {
			want = append(want, some(gen))
		}
		found(t, d, want)
	}
}

// P4.2: one in a slot that is not its own stands not, alone or beside others, though it be the newest.
func TestFindOtherSlots(t *testing.T) {
	for _, gen := range fours {
		for slot := range 4 {
			d := disk()
			d.Blocks[slot] = plain(some(gen))
			if slot == int(gen%4) {
				found(t, d, []api.Super{some(gen)})
				continue
			}
			found(t, d, nil)
			d.Blocks[0], d.Blocks[1], d.Blocks[2], d.Blocks[3] = plain(some(40)), plain(some(41)), plain(some(42)), plain(some(43))
			want := []api.Super{some(43), some(42), some(41), some(40)}
			d.Waits = []api.Write{{At: slot, Data: plain(some(gen))}}
			found(t, d, slices.Delete(want, 3-slot, 4-slot))
		}
	}
	// Behind the ring no one stands, though modulo four it be its place.
	d := disk()
	for at := 4; at < 256; at++ {
		d.Blocks[at] = plain(some(uint32(at)))
	}
	found(t, d, nil)
	d.Blocks[2] = plain(some(2))
	found(t, d, []api.Super{some(2)})
}

// P4.2: a block is as it is seen: the last write that waits for it hides what lasts, and all other ones, be it right or not.
func TestFindAsItIsSeen(t *testing.T) {
	old, next, later, broken := some(5), some(9), some(13), filled(7)
	to := func(blocks ...[]byte) (l []api.Write) {
		for _, b := range blocks {
			l = append(l, api.Write{At: 1, Data: b}, api.Write{At: 9, Data: plain(some(401))})
		}
		return l
	}
	for i, c := range []struct {
		lasts []byte
		waits []api.Write
		want  []api.Super
	}{
		{plain(old), nil, []api.Super{old}},
		{plain(old), to(plain(next)), []api.Super{next}},
		{plain(next), to(plain(old)), []api.Super{old}},
		{broken, to(plain(old)), []api.Super{old}},
		{plain(old), to(broken), nil},
		{plain(old), to(plain(next), broken), nil},
		{plain(old), to(broken, plain(next)), []api.Super{next}},
		{plain(old), to(plain(next), plain(later)), []api.Super{later}},
		{plain(old), to(plain(later), plain(next)), []api.Super{next}},
		{plain(old), to(plain(some(8))), nil},
		{plain(some(8)), to(plain(old)), []api.Super{old}},
		{plain(old), to(make([]byte, 128)), nil},
	} {
		d := disk(c.waits...)
		d.Blocks[1] = c.lasts
		t.Log("case", i)
		found(t, d, c.want)
		d.Blocks[3] = plain(some(7))
		want := append(slices.Clone(c.want), some(7))
		slices.SortFunc(want, func(a, b api.Super) int { return int(b.Gen) - int(a.Gen) })
		found(t, d, want)
	}
}

// P4.2: a disk that may not be, wherever that is, though all slots be right; one in whose slots none stands; a full one is only read.
func TestFindRefuses(t *testing.T) {
	for i, d := range odds() {
		if l, e := ring.Find(d); e != api.ErrBad || len(l) != 0 {
			t.Errorf("%d: Find of a disk that may not be = %v, %d, want none, ErrBad", i, l, e)
		}
	}
	found(t, dev.New(), nil)
	found(t, disk(), nil)
	found(t, waiting(4096), nil)
	found(t, laid(plain(some(1)), plain(some(2)), plain(some(3)), plain(some(4))), nil)
	for i, s := range wrong() {
		// Only those whose block tells what they are.
		if s.Root < 0 || s.Root >= 1<<16 || slices.ContainsFunc(s.Dead, func(n int) bool { return n < 0 || n >= 1<<16 }) || len(s.Dead) > 54 {
			continue
		}
		d := disk()
		d.Blocks[s.Gen%4] = plain(s)
		if l, e := ring.Find(d); e != api.ErrSum || len(l) != 0 {
			t.Errorf("%d: Find of one that may not be = %v, %d, want none, ErrSum", i, l, e)
		}
	}
	// One byte behind what it holds, and it stands no more.
	d := disk()
	d.Blocks[2] = seal(append(body(some(42), len(some(42).Dead)), 1))
	found(t, d, nil)
	full := waiting(4096)
	full.Blocks[3] = plain(some(7))
	found(t, full, []api.Super{some(7)})
}

// twin is s in other memory.
func twin(s api.Super) api.Super {
	s.Dead = slices.Clone(s.Dead)
	return s
}

// bared is d, its spare room shown as elements, in other memory.
func bared(d api.Disk) api.Disk {
	return dev.Twin(api.Disk{Blocks: d.Blocks[:cap(d.Blocks)], Waits: d.Waits[:cap(d.Waits)]})
}

// roomy is a disk whose lists all have spare room, in whose ring three stand, one of them waiting.
func roomy() api.Disk {
	d := laid(plain(some(400)), plain(some(37)), plain(some(38)))
	d.Waits = []api.Write{{At: 9, Data: filled(9)}, {At: 3, Data: plain(some(39))}, {At: 10, Data: filled(3)}, {At: 11, Data: filled(4)}}
	grow := func(b []byte) []byte { return append(b[:128:128], filled(0xee)...)[:128] }
	for at := range d.Blocks {
		d.Blocks[at] = grow(d.Blocks[at])
	}
	for i := range d.Waits {
		d.Waits[i].Data = grow(d.Waits[i].Data)
	}
	d.Blocks = append(d.Blocks, filled(5), filled(6))[:256]
	d.Waits = d.Waits[:2]
	return d
}

// spares are the spare rooms of d's blocks and writes, one behind the other.
func spares(d api.Disk) []byte {
	var l []byte
	for _, b := range d.Blocks {
		l = append(l, b[len(b):cap(b)]...)
	}
	for _, w := range d.Waits {
		l = append(l, w.Data[len(w.Data):cap(w.Data)]...)
	}
	return l
}

// P4.3: what is handed in, its spare room too, stays as it was.
func TestReadsAlone(t *testing.T) {
	d := roomy()
	was, room := bared(d), spares(d)
	s := api.Super{Gen: 4, Root: 9, Next: 3, Table: 2, Dead: dead(40)[:7]}
	other := api.Super{Gen: 4, Root: 9, Next: 3, Table: 2, Dead: dead(40)[:7]}
	block := append(plain(s), filled(1)...)[:128]
	bad := append(plain(s), filled(1)...)[:128]
	bad[127] = 1
	badWas := bytes.Clone(bad)
	for i, ask := range []func(){
		func() { ring.Check(s) },
		func() { ring.Check(api.Super{Root: 7, Dead: s.Dead}) },
		func() { ring.Write(s) },
		func() { ring.Write(api.Super{Root: 7, Dead: s.Dead}) },
		func() { ring.Same(s, other) },
		func() { ring.Same(other, api.Super{Gen: 4, Root: 9, Next: 3, Table: 2, Dead: s.Dead[1:]}) },
		func() { ring.Read(block) },
		func() { ring.Read(block[:127]) },
		func() { ring.Read(bad) },
		func() { ring.Put(d, s) },
		func() { ring.Put(d, api.Super{Root: 7, Dead: s.Dead}) },
		func() { ring.Find(d) },
	} {
		ask()
		if !dev.Same(bared(d), was) || !bytes.Equal(spares(d), room) {
			t.Fatalf("%d: the disk was turned", i)
		}
		if !slices.Equal(s.Dead[:40], dead(40)) || !slices.Equal(other.Dead[:40], dead(40)) {
			t.Fatalf("%d: Dead was turned: %v, %v", i, s.Dead[:40], other.Dead[:40])
		}
		if !bytes.Equal(block[:256], append(plain(s), filled(1)...)) || !bytes.Equal(bad, badWas) {
			t.Fatalf("%d: a block was turned", i)
		}
	}
}

// spoil turns every byte of b and of its spare room.
func spoil(b []byte) {
	b = b[:cap(b)]
	for i := range b {
		b[i] ^= 0xff
	}
}

// spoilDead turns every number of l and of its spare room.
func spoilDead(l []int) {
	l = l[:cap(l)]
	for i := range l {
		l[i] = -l[i] - 1
	}
}

// wreck turns all that d has, with all its spare room.
func wreck(d api.Disk) {
	blocks, waits := d.Blocks[:cap(d.Blocks)], d.Waits[:cap(d.Waits)]
	for at, b := range blocks {
		spoil(b)
		blocks[at] = nil
	}
	for i, w := range waits {
		spoil(w.Data)
		waits[i] = api.Write{At: -1}
	}
}

// P4.3: a block that is answered shares no memory with an earlier or a later one.
func TestWriteAnswersNewMemory(t *testing.T) {
	for _, s := range []api.Super{{Root: 8}, some(40), {Gen: 3, Root: 255, Dead: dead(40)}} {
		first, _ := ring.Write(s)
		second, _ := ring.Write(s)
		spoil(second)
		if !bytes.Equal(first, plain(s)) {
			t.Errorf("the first block of %v is turned by the second one", s)
		}
		spoil(first)
		if third, e := ring.Write(s); e != api.OK || !bytes.Equal(third, plain(s)) {
			t.Errorf("a later block of %v is %v, %d", s, third, e)
		}
	}
}

// P4.3: a superblock that is answered shares no memory with its block, nor with another answer.
func TestReadAnswersNewMemory(t *testing.T) {
	for _, want := range []api.Super{{Root: 8}, some(40), {Gen: 3, Root: 255, Dead: dead(40)}} {
		b := plain(want)
		first, _ := ring.Read(b)
		second, _ := ring.Read(b)
		spoilDead(second.Dead)
		if !plainSame(first, want) || !bytes.Equal(b, plain(want)) {
			t.Errorf("what is done to an answer is seen: %v", first)
		}
		spoil(b)
		if !plainSame(first, want) {
			t.Errorf("what is done to the block is seen: %v", first)
		}
		spoilDead(first.Dead)
		if third, e := ring.Read(plain(want)); e != api.OK || !plainSame(third, want) {
			t.Errorf("a later answer is %v, %d", third, e)
		}
	}
}

// P4.3: a disk that is answered shares no memory with the one that was handed in, with the superblock, or with another answer.
func TestPutAnswersNewMemory(t *testing.T) {
	s := api.Super{Gen: 6, Root: 9, Next: 3, Table: 2, Dead: dead(40)[:7]}
	d := roomy()
	was := bared(d)
	want := dev.Twin(d)
	want.Waits = append(want.Waits, api.Write{At: 2, Data: plain(s)})
	first, _ := ring.Put(d, s)
	second, _ := ring.Put(d, s)
	wreck(second)
	if !dev.Same(first, want) || !dev.Same(bared(d), was) {
		t.Error("what is done to an answer is seen in an earlier one, or in the disk")
	}
	if third, e := ring.Put(d, s); e != api.OK || !dev.Same(third, want) {
		t.Error("a later answer is another one", e)
	}
	wreck(d)
	spoilDead(s.Dead)
	if !dev.Same(first, want) {
		t.Error("what is done to the disk, or to the superblock, is seen in the answer")
	}
}

// P4.3: no two lists of a disk that is answered share memory, though those that are handed in do.
func TestPutAnswersShareNothing(t *testing.T) {
	d := api.Disk{Blocks: slices.Repeat([][]byte{filled(1)}, 256)}
	for _, at := range []int{9, 7, 3} {
		d.Waits = append(d.Waits, api.Write{At: at, Data: d.Blocks[0]})
	}
	out, e := ring.Put(d, some(3))
	if e != api.OK {
		t.Fatal(e)
	}
	was := dev.Twin(out)
	lists := slices.Clone(out.Blocks)
	for _, w := range out.Waits {
		lists = append(lists, w.Data)
	}
	for i, b := range lists {
		spoil(b)
		many := 0
		for j, c := range out.Blocks {
			if !bytes.Equal(c, was.Blocks[j]) {
				many++
			}
		}
		for j, w := range out.Waits {
			if !bytes.Equal(w.Data, was.Waits[j].Data) {
				many++
			}
		}
		if spoil(b); many != 1 {
			t.Fatalf("what is done to list %d is seen in %d", i, many)
		}
	}
}

// P4.3: no two lists that are found share memory, their spare room neither, nor with the disk, nor with another answer.
func TestFindAnswersNewMemory(t *testing.T) {
	for n := range 41 {
		gens := []uint32{uint32(4 * n), uint32(4*n + 5), uint32(4*n + 10), uint32(4*n + 15)}
		d := disk()
		var want []api.Super
		for slot, gen := range gens {
			d.Blocks[slot] = plain(some(gen))
			want = append([]api.Super{some(gen)}, want...)
		}
		first, e := ring.Find(d)
		if e != api.OK || !allSame(first, want) {
			t.Fatalf("%d: Find = %v, %d", n, first, e)
		}
		second, _ := ring.Find(d)
		for i := range second {
			spoilDead(second[i].Dead)
			for j := i + 1; j < len(second); j++ {
				if !plainSame(second[j], want[j]) {
					t.Errorf("%d: what is done to %d's Dead is seen in %d", n, i, j)
				}
			}
		}
		clear(second[:cap(second)])
		if !allSame(first, want) {
			t.Errorf("%d: what is done to an answer is seen in an earlier one", n)
		}
		if third, e := ring.Find(d); e != api.OK || !allSame(third, want) {
			t.Errorf("%d: a later answer is %v, %d", n, third, e)
		}
		wreck(d)
		if !allSame(first, want) {
			t.Errorf("%d: what is done to the disk is seen in the answer", n)
		}
	}
}

// P4.4: superblocks and their blocks are told by one another.
func TestToldByOneAnother(t *testing.T) {
	for i, s := range supers() {
		b, e := ring.Write(s)
		if e != api.OK {
			t.Fatal(i, e)
		}
		x, e := ring.Read(b)
		if e != api.OK || !ring.Same(x, s) || !plainSame(x, s) {
			t.Fatalf("%d: %v, %d, was written as %v", i, x, e, s)
		}
		if again, e := ring.Write(x); e != api.OK || !bytes.Equal(again, b) {
			t.Fatalf("%d: %v, %d, was read of %v", i, again, e, b)
		}
	}
	// Of any sealed block: either it is read, and written as it was, or it is refused.
	for at := range 124 {
		for c := range 256 {
			in := append(body(some(20), 20), make([]byte, 124)...)[:124]
			in[at] = byte(c)
			b := seal(in)
			s, e := ring.Read(b)
			if e != api.OK && (e != api.ErrBad || !plainSame(s, api.Super{})) {
				t.Fatalf("byte %d at %d: %v, %d", c, at, s, e)
			}
			if e == api.OK && !bytes.Equal(plain(s), b) {
				t.Fatalf("byte %d at %d is read as %v", c, at, s)
			}
		}
	}
}

// P4.4: the newest is the first one; at most the one of its slot is found no more. More puts than there are slots, near and far, up to the last generation.
func TestNewestIsFirst(t *testing.T) {
	for _, way := range [][]uint32{
		{1, 2, 3, 4, 5, 6, 7, 8, 9, 10, 11, 12, 13},
		{0, 4, 8, 12, 13, 17, 21},
		{3, 6, 9, 12, 15, 18, 21, 24},
		{5, 7, 9, 11, 13, 15},
		{0, 1, 1<<31 - 1, 1 << 31, 1<<31 + 1, 1<<32 - 6, 1<<32 - 4, 1<<32 - 1},
		{2, 1<<32 - 2, 1<<32 - 1},
	} {
		for _, each := range []bool{false, true} {
			d := dev.New()
			var stand []api.Super
			for _, gen := range way {
				s := some(gen)
				out, e := ring.Put(d, s)
				if e != api.OK {
					t.Fatal(gen, e)
				}
				if d = out; each {
					d, _ = dev.Barrier(d)
				}
				stand = slices.DeleteFunc(stand, func(o api.Super) bool { return o.Gen%4 == gen%4 })
				stand = append([]api.Super{s}, stand...)
				found(t, d, stand)
			}
		}
	}
	// Broken slots, and ones that stand elsewhere, are no hindrance.
	d := laid(filled(7), plain(some(1<<32-2)), plain(some(6)), plain(some(5)))
	for _, gen := range []uint32{7, 8, 9, 10} {
		d, _ = ring.Put(d, some(gen))
		l, e := ring.Find(d)
		if e != api.OK || !plainSame(l[0], some(gen)) {
			t.Errorf("behind Put of %d: %v, %d", gen, l, e)
		}
	}
	// What is put behind a newer one stands behind it, too.
	d, _ = ring.Put(dev.New(), some(8))
	d, _ = ring.Put(d, some(3))
	found(t, d, []api.Super{some(8), some(3)})
	d, _ = ring.Put(d, some(4))
	found(t, d, []api.Super{some(4), some(3)})
}

// P4.4, W1: where one is put behind a barrier, a cut leaves the ring as it was, or with this one: nothing between.
func TestCutWithinAPut(t *testing.T) {
	d := dev.New()
	var stand []api.Super
	for gen := uint32(1); gen < 12; gen++ {
		next := slices.DeleteFunc(slices.Clone(stand), func(o api.Super) bool { return o.Gen%4 == gen%4 })
		next = append([]api.Super{some(gen)}, next...)
		out, e := ring.Put(d, some(gen))
		if e != api.OK || len(out.Waits) != 1 {
			t.Fatal(gen, e, len(out.Waits))
		}
		cut := func(kept bool) api.Disk {
			c, e := dev.Crash(out, []bool{kept})
			if e != api.OK {
				t.Fatal(gen, e)
			}
			return c
		}
		found(t, cut(false), stand)
		found(t, cut(true), next)
		d, _ = dev.Barrier(out)
		stand = next
	}
}

// P4.4, W1: whichever of several puts a cut keeps, each slot has what lasted, or one that was put there, whole.
func TestCutAmongPuts(t *testing.T) {
	d := laid(plain(some(20)), plain(some(21)), plain(some(22)), plain(some(19)))
	gens := []uint32{23, 24, 25, 26, 27, 28}
	for _, gen := range gens {
		d, _ = ring.Put(d, some(gen))
	}
	for m := range 1 << len(gens) {
		left := []uint32{20, 21, 22, 19}
		keep := make([]bool, len(gens))
		for i, gen := range gens {
			if m>>i&1 == 1 {
				keep[i] = true
				left[gen%4] = gen
			}
		}
		slices.Sort(left)
		var want []api.Super
		for _, gen := range slices.Backward(left) {
			want = append(want, some(gen))
		}
		cut, e := dev.Crash(d, keep)
		if e != api.OK {
			t.Fatal(keep, e)
		}
		found(t, cut, want)
	}
}

// The chapter's examples.
func TestExamples(t *testing.T) {
	if n := ring.Slot(7); n != 3 {
		t.Error("Slot(7)", n)
	}
	if e := ring.Check(api.Super{Root: 8}); e != api.OK {
		t.Error("Check(Root 8)", e)
	}
	if e := ring.Check(api.Super{Root: 7}); e != api.ErrBad {
		t.Error("Check(Root 7)", e)
	}
	if l, e := ring.Find(dev.New()); e != api.ErrSum || len(l) != 0 {
		t.Error("Find(no writes)", l, e)
	}
	d, _ := ring.Put(dev.New(), api.Super{Gen: 5, Root: 8})
	d, _ = ring.Put(d, api.Super{Gen: 6, Root: 9})
	if l, e := ring.Find(d); e != api.OK || len(l) != 2 || !plainSame(l[0], api.Super{Gen: 6, Root: 9}) || !plainSame(l[1], api.Super{Gen: 5, Root: 8}) {
		t.Error("Find(Put of Gen 5, then Gen 6)", l, e)
	}
	unread(t, "Read(noughts)", make([]byte, 128), api.ErrBad)
	unread(t, "Read(one byte)", []byte{1}, api.ErrText)
}

// The chapter's errors, and its limits, have its numbers.
func TestErrors(t *testing.T) {
	if api.ErrText != 3 || api.ErrBad != 8 || api.ErrFull != 9 || api.ErrSum != 40 {
		t.Error(int(api.ErrText), int(api.ErrBad), int(api.ErrFull), int(api.ErrSum))
	}
	if api.Slots != 4 || api.First != 8 || api.MaxDead != 40 {
		t.Error(api.Slots, api.First, api.MaxDead)
	}
}
