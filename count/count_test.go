package count_test

import (
	"bytes"
	"hash/crc32"
	"math"
	"slices"
	"testing"

	"scionry/api"
	"scionry/count"
	"scionry/dev"
)

// The signatures are the chapter's, to the letter.
var (
	_ func() []byte                                              = count.New
	_ func(t []byte) api.Errno                                   = count.Check
	_ func(t []byte, at int) ([]byte, api.Errno)                 = count.Up
	_ func(t []byte, at int) ([]byte, api.Errno)                 = count.Down
	_ func(d api.Disk, side int, t []byte) (api.Disk, api.Errno) = count.Write
	_ func(d api.Disk, side int) ([]byte, api.Errno)             = count.Read
	_ func(t []byte) (uint32, api.Errno)                         = count.Sum
)

// strayPlaces are those of no block that may be taken: one beyond each end first, then those of which some bytes are right.
var strayPlaces = []int{7, 256, -1, 0, 1, 3, 4, 6, 257, -8, -248, 256 + 8, 255 + 256, 1<<16 + 9, 1 << 32, 1<<32 + 8, -1<<32 + 9, math.MaxInt, math.MinInt, math.MinInt + 8}

// straySides are those that no disk has: one beyond each end first, then those of which some bytes, or the remainder, are right.
var straySides = []int{-1, 2, 3, -2, 4, 5, 6, 7, 8, 128, 255, 256, 257, 1 << 16, 1 << 32, 1<<32 + 1, -256, -1 << 32, math.MaxInt, math.MinInt, math.MinInt + 1}

// noughts is many of them.
func noughts(many int) []byte { return make([]byte, many) }

// table is one that may be, whose counts differ from block to block, and by seed.
func table(seed int) []byte {
	t := noughts(256)
	for at := 8; at < 256; at++ {
		t[at] = byte(at*at*31 + at*seed + at>>3 + seed*97)
	}
	return t
}

// level is the table whose counts are all the same.
func level(c byte) []byte { return append(noughts(8), bytes.Repeat([]byte{c}, 248)...) }

// one is the table of noughts, but for that count of one block, whether it may be or not.
func one(at int, c byte) []byte {
	t := noughts(256)
	t[at] = c
	return t
}

// tables are some that may be: each end of the counts, of all blocks and of one alone, and some whose counts all differ.
func tables() [][]byte {
	l := [][]byte{noughts(256), append(table(3), 9, 9, 9)[:256], table(4)[:256:256]}
	for i, c := range []byte{1, 2, 127, 128, 254, 255} {
		l = append(l, level(c), table(i))
		for _, at := range []int{8, 9, 126, 127, 128, 129, 254, 255} {
			l = append(l, one(at, c))
		}
	}
	return l
}

// wrong are tables that may not be: of another length, whatever their spare room has, or with a fixed block's count.
func wrong() [][]byte {
	l := [][]byte{nil, {}, append([]byte{1}, noughts(254)...), append([]byte{1}, noughts(256)...)}
	for _, many := range []int{0, 1, 7, 8, 9, 124, 127, 128, 129, 248, 254, 255, 257, 258, 264, 384, 511, 512, 1024, 1 << 16} {
		b := append(table(1), noughts(1<<16)...)
		l = append(l, b[:many], b[:many:many], noughts(many))
	}
	for at := range 8 {
		for _, c := range []byte{1, 2, 127, 128, 254, 255} {
			t := table(int(c))
			t[at] = c
			l = append(l, t, one(at, c))
		}
		// Those whose counts are noughts when they are put together.
		for other := range 8 {
			t, u := one(at, 128), one(at, 9)
			if other != at {
				t[other], u[other] = 128, 256-9
				l = append(l, t, u)
			}
		}
	}
	return append(l, bytes.Repeat([]byte{1}, 256), bytes.Repeat([]byte{255}, 256), append(bytes.Repeat([]byte{9}, 8), noughts(248)...))
}

// filled is a block of one byte, again and again.
func filled(c byte) []byte { return bytes.Repeat([]byte{c}, 128) }

// disk is one whose blocks all differ, and for which these writes wait.
func disk(waits ...api.Write) api.Disk {
	d := api.Disk{Blocks: make([][]byte, 256), Waits: waits}
	for at := range d.Blocks {
		d.Blocks[at] = filled(byte(at))
	}
	return d
}

// laid is such a disk on whose sides these last.
func laid(first, second []byte) api.Disk {
	d := disk()
	d.Blocks[4], d.Blocks[5] = bytes.Clone(first[:128]), bytes.Clone(first[128:])
	d.Blocks[6], d.Blocks[7] = bytes.Clone(second[:128]), bytes.Clone(second[128:])
	return d
}

// waiting is a disk with two tables, for which many writes wait, to others than the fixed blocks.
func waiting(many int) api.Disk {
	d, w := laid(table(1), table(2)), filled(1)
	for i := range many {
		d.Waits = append(d.Waits, api.Write{At: 8 + i%248, Data: w})
	}
	return d
}

// odds are disks that may not be, though each one has two tables as far as it has blocks.
func odds() []api.Disk {
	l := []api.Disk{{}, {Blocks: [][]byte{}, Waits: []api.Write{}}, waiting(4097), waiting(4098)}
	turn := func(f func(d *api.Disk)) {
		d := waiting(3)
		f(&d)
		l = append(l, d)
	}
	for _, many := range []int{4, 6, 7, 8, 255} {
		turn(func(d *api.Disk) { d.Blocks = d.Blocks[:many] })
	}
	turn(func(d *api.Disk) { d.Blocks = append(d.Blocks, filled(1)) })
	for _, at := range []int{0, 3, 4, 5, 6, 7, 8, 255} {
		turn(func(d *api.Disk) { d.Blocks[at] = d.Blocks[at][:127] })
		turn(func(d *api.Disk) { d.Blocks[at] = append(d.Blocks[at], 0) })
		turn(func(d *api.Disk) { d.Blocks[at] = nil })
	}
	for i := range 3 {
		for _, at := range []int{-1, 256, math.MinInt, math.MaxInt, 1<<32 + 4} {
			turn(func(d *api.Disk) { d.Waits[i].At = at })
		}
		for _, many := range []int{0, 1, 127, 129, 256} {
			turn(func(d *api.Disk) { d.Waits[i].Data = noughts(many) })
			turn(func(d *api.Disk) { d.Waits[i] = api.Write{At: 4, Data: noughts(many)} })
		}
	}
	return l
}

// nothing tells whether d is as it stands beside an error.
func nothing(d api.Disk) bool { return len(d.Blocks) == 0 && len(d.Waits) == 0 }

// bared is d, its spare room shown as elements, in other memory.
func bared(d api.Disk) api.Disk {
	out := api.Disk{Blocks: slices.Clone(d.Blocks[:cap(d.Blocks)]), Waits: slices.Clone(d.Waits[:cap(d.Waits)])}
	for at, b := range out.Blocks {
		out.Blocks[at] = bytes.Clone(b[:cap(b)])
	}
	for i, w := range out.Waits {
		out.Waits[i].Data = bytes.Clone(w.Data[:cap(w.Data)])
	}
	return out
}

// spoil turns every byte of b and of its spare room.
func spoil(b []byte) {
	b = b[:cap(b)]
	for i := range b {
		b[i] ^= 0xff
	}
}

// wreck turns all that d has, with all its spare room.
func wreck(d api.Disk) {
	blocks, waits := d.Blocks[:cap(d.Blocks)], d.Waits[:cap(d.Waits)]
	for at, b := range blocks {
		spoil(b)
		blocks[at] = nil
	}
	for i, w := range waits {
		spoil(w.Data)
		waits[i] = api.Write{At: -1}
	}
}

// halves are the writes of t to the two blocks from at on.
func halves(at int, t []byte) []api.Write {
	return []api.Write{{At: at, Data: bytes.Clone(t[:128])}, {At: at + 1, Data: bytes.Clone(t[128:256])}}
}

// P7.1: 256 noughts, that may be; what is done to them is not seen in the next ones.
func TestNew(t *testing.T) {
	l := count.New()
	if !bytes.Equal(l, noughts(256)) || count.Check(l) != api.OK {
		t.Errorf("New() = %v, Check of it = %d", l, count.Check(l))
	}
	spoil(l)
	if l := count.New(); !bytes.Equal(l, noughts(256)) {
		t.Errorf("the next New() = %v", l)
	}
}

// P7.1: 256 counts, of which the first eight are 0, whatever the others are.
func TestCheck(t *testing.T) {
	for i, l := range tables() {
		if e := count.Check(l); e != api.OK {
			t.Errorf("%d: Check(%v) = %d, want OK", i, l, e)
		}
	}
	for at := 8; at < 256; at++ {
		for c := range 256 {
			if e := count.Check(one(at, byte(c))); e != api.OK {
				t.Errorf("Check of %d at %d = %d, want OK", c, at, e)
			}
		}
	}
}

// P7.1: no bytes, 255, 257 and others; a fixed block whose count is not 0, whichever it is.
func TestCheckRefuses(t *testing.T) {
	for i, l := range wrong() {
		if e := count.Check(l); e != api.ErrBad {
			t.Errorf("%d: Check(%v) = %d, want ErrBad", i, l, e)
		}
	}
	for many := range 600 {
		want := api.ErrBad
		if many == 256 {
			want = api.OK
		}
		if e := count.Check(noughts(many)); e != want {
			t.Errorf("Check of %d noughts = %d, want %d", many, e, want)
		}
	}
	for at := range 8 {
		for c := 1; c < 256; c++ {
			if e := count.Check(one(at, byte(c))); e != api.ErrBad {
				t.Errorf("Check of %d at %d = %d, want ErrBad", c, at, e)
			}
		}
	}
}

// turned fails, unless l is the table t, but for that count at that place.
func turned(t *testing.T, l, was []byte, at int, c int, e api.Errno) {
	t.Helper()
	want := bytes.Clone(was)
	want[at] = byte(c)
	if e != api.OK || !bytes.Equal(l, want) {
		t.Errorf("%d at %d is to be %d: %v, %d", was[at], at, c, l, e)
	}
}

// refused fails, unless that is the error, beside no table.
func refused(t *testing.T, l []byte, e, want api.Errno) {
	t.Helper()
	if e != want || len(l) != 0 {
		t.Errorf("%v, %d, want none, %d", l, e, want)
	}
}

// P7.1: each block, at each count it may have: one more, or one less, all others as they are; no more than 255, no less than 0.
func TestTurns(t *testing.T) {
	for at := 8; at < 256; at++ {
		was := table(at)
		for c := range 256 {
			was[at] = byte(c)
			if l, e := count.Up(was, at); c == 255 {
				refused(t, l, e, api.ErrCount)
			} else {
				turned(t, l, was, at, c+1, e)
			}
			if l, e := count.Down(was, at); c == 0 {
				refused(t, l, e, api.ErrCount)
			} else {
				turned(t, l, was, at, c-1, e)
			}
		}
	}
	// The others' counts are no hindrance.
	for _, at := range []int{8, 9, 127, 128, 254, 255} {
		none, most := level(0), level(255)
		most[at], none[at] = 254, 1
		l, e := count.Up(most, at)
		turned(t, l, most, at, 255, e)
		l, e = count.Down(none, at)
		turned(t, l, none, at, 0, e)
	}
}

// P7.1: Check's error first, then the place's, then the count's.
func TestTurnsRefuse(t *testing.T) {
	turns := []func([]byte, int) ([]byte, api.Errno){count.Up, count.Down}
	for _, turn := range turns {
		for _, bad := range wrong() {
			for _, at := range append([]int{8, 9, 128, 255}, strayPlaces...) {
				l, e := turn(bad, at)
				refused(t, l, e, api.ErrBad)
			}
		}
		for _, good := range [][]byte{noughts(256), table(5), level(1), level(254), level(255)} {
			for _, at := range strayPlaces {
				l, e := turn(good, at)
				refused(t, l, e, api.ErrArg)
			}
			for at := -700; at < 1200; at++ {
				if _, e := turn(good, at); (e == api.ErrArg) != (at < 8 || at > 255) {
					t.Errorf("at %d: %d", at, e)
				}
			}
		}
	}
	for at := 8; at < 256; at++ {
		l, e := count.Up(level(255), at)
		refused(t, l, e, api.ErrCount)
		l, e = count.Down(noughts(256), at)
		refused(t, l, e, api.ErrCount)
	}
}

// P7.1: the sum of all 256 counts, of tables that may be alone.
func TestSum(t *testing.T) {
	for i, l := range tables() {
		if s, e := count.Sum(l); e != api.OK || s != crc32.ChecksumIEEE(l) {
			t.Errorf("%d: Sum(%v) = %x, %d, want %x", i, l, s, e, crc32.ChecksumIEEE(l))
		}
	}
	for i, l := range wrong() {
		if s, e := count.Sum(l); e != api.ErrBad || s != 0 {
			t.Errorf("%d: Sum(%v) = %x, %d, want 0, ErrBad", i, l, s, e)
		}
	}
}

// P7.2: two writes wait behind all others: 4 and 5, or 6 and 7, the first half first; what lasts stays.
func TestWrite(t *testing.T) {
	for _, d := range []api.Disk{
		dev.New(), disk(), waiting(1), waiting(5),
		disk(halves(4, table(8))...), disk(halves(6, table(8))...), disk(api.Write{At: 5, Data: filled(7)}, api.Write{At: 9, Data: filled(8)}),
	} {
		for side, at := range []int{4, 6} {
			for i, l := range tables() {
				want := dev.Twin(d)
				want.Waits = append(want.Waits, halves(at, l)...)
				if out, e := count.Write(d, side, l); e != api.OK || !dev.Same(out, want) {
					t.Fatalf("table %d, side %d, %d wait: %d, or another disk", i, side, len(d.Waits), e)
				}
			}
		}
	}
}

// P7.2: the disk's error first, then the side's, then the table's, then that there is no room: for none of the two, or for one alone.
func TestWriteRefuses(t *testing.T) {
	ask := func(what string, d api.Disk, side int, l []byte, want api.Errno) {
		t.Helper()
		was := dev.Twin(d)
		if out, e := count.Write(d, side, l); e != want || !nothing(out) {
			t.Errorf("%s, side %d, %d bytes: %d, want %d, or not nothing", what, side, len(l), e, want)
		}
		if !dev.Same(d, was) {
			t.Errorf("%s, side %d, %d bytes: the disk was turned", what, side, len(l))
		}
	}
	for _, d := range odds() {
		for _, side := range []int{0, 1, -1, 2} {
			ask("a disk that may not be", d, side, table(1), api.ErrBad)
			ask("a disk that may not be", d, side, nil, api.ErrBad)
		}
	}
	for many, d := range map[int]api.Disk{0: disk(), 4095: waiting(4095), 4096: waiting(4096)} {
		for _, side := range straySides {
			for _, l := range [][]byte{table(1), nil, noughts(255), one(7, 1)} {
				ask("no side", d, side, l, api.ErrArg)
			}
		}
		for side := range 2 {
			for _, l := range wrong() {
				if many == 0 || len(l) < 300 {
					ask("a table that may not be", d, side, l, api.ErrBad)
				}
			}
			if many > 0 {
				ask("no room", d, side, table(3), api.ErrFull)
				ask("no room", d, side, count.New(), api.ErrFull)
			}
		}
	}
}

// P7.2: where there is room for two writes, they wait.
func TestWriteFills(t *testing.T) {
	for side, at := range []int{4, 6} {
		for _, many := range []int{4093, 4094} {
			d := waiting(many)
			want := dev.Twin(d)
			want.Waits = append(want.Waits, halves(at, table(7))...)
			if out, e := count.Write(d, side, table(7)); e != api.OK || !dev.Same(out, want) {
				t.Errorf("side %d, %d wait: %d, or another disk", side, many, e)
			}
		}
	}
}

// reads fails, unless that table is read on that side.
func reads(t *testing.T, what string, d api.Disk, side int, want []byte) {
	t.Helper()
	if l, e := count.Read(d, side); e != api.OK || !bytes.Equal(l, want) {
		t.Errorf("%s, side %d: %v, %d, want %v", what, side, l, e, want)
	}
}

// P7.2: what lasts on a side, where nothing waits for it; a full disk is read too.
func TestReadSettled(t *testing.T) {
	all := tables()
	for i, l := range all {
		other := all[(i+1)%len(all)]
		reads(t, "settled", laid(l, other), 0, l)
		reads(t, "settled", laid(other, l), 1, l)
	}
	for side := range 2 {
		reads(t, "no writes", dev.New(), side, noughts(256))
		reads(t, "few wait for others", waiting(3), side, table(side+1))
		reads(t, "as many wait as may", waiting(4096), side, table(side+1))
	}
}

// P7.2: a half that waits is read as the last write to it has it, the other half as it lasts; the other side as it is.
func TestReadWaiting(t *testing.T) {
	a, b, c, other := table(11), table(12), table(13), table(14)
	mixed := func(x, y []byte) []byte { return append(bytes.Clone(x[:128]), y[128:]...) }
	for side, at := range []int{4, 6} {
		to := func(half int, x []byte) api.Write { return halves(at, x)[half] }
		for i, w := range []struct {
			waits []api.Write
			want  []byte
		}{
			{halves(at, b), b},
			{[]api.Write{to(1, b), to(0, b)}, b},
			{[]api.Write{to(0, b)}, mixed(b, a)},
			{[]api.Write{to(1, b)}, mixed(a, b)},
			{append(halves(at, b), halves(at, c)...), c},
			{append(halves(at, c), halves(at, b)...), b},
			{append(halves(at, b), to(0, c)), mixed(c, b)},
			{append(halves(at, b), to(1, c)), mixed(b, c)},
			{append(halves(at, b), halves(10-at, c)...), b},
			{[]api.Write{{At: at, Data: filled(7)}, {At: 9, Data: filled(1)}, to(0, b), {At: 10, Data: filled(1)}}, mixed(b, a)},
			{[]api.Write{{At: at + 1, Data: filled(7)}, to(1, a), to(1, c)}, mixed(a, c)},
		} {
			d := laid(a, other)
			if side == 1 {
				d = laid(other, a)
			}
			d.Waits = w.waits
			reads(t, "waiting", d, side, w.want)
			if i != 8 {
				reads(t, "the other side", d, 1-side, other)
			}
			d, _ = dev.Barrier(d)
			reads(t, "behind a barrier", d, side, w.want)
		}
	}
}

// P7.2: the disk's error first, then the side's; ErrBad where a fixed block has a count, whether that lasts or waits.
func TestReadRefuses(t *testing.T) {
	for _, d := range odds() {
		for _, side := range append([]int{0, 1}, straySides...) {
			l, e := count.Read(d, side)
			refused(t, l, e, api.ErrBad)
		}
	}
	for _, d := range []api.Disk{disk(), dev.New(), waiting(9), waiting(4096)} {
		for _, side := range straySides {
			l, e := count.Read(d, side)
			refused(t, l, e, api.ErrArg)
		}
	}
	good := table(9)
	for side, at := range []int{4, 6} {
		for _, bad := range wrong() {
			if len(bad) != 256 {
				continue
			}
			d := laid(bad, good)
			if side == 1 {
				d = laid(good, bad)
			}
			l, e := count.Read(d, side)
			refused(t, l, e, api.ErrBad)
			reads(t, "the other side is right", d, 1-side, good)
			d.Waits = halves(at, good)[:1]
			if l, e := count.Read(d, side); e != api.OK || !bytes.Equal(l, append(bytes.Clone(good[:128]), bad[128:]...)) {
				t.Errorf("what waits for it is right: %v, %d", l, e)
			}
			d = laid(good, good)
			d.Waits = halves(at, bad)
			l, e = count.Read(d, side)
			refused(t, l, e, api.ErrBad)
			reads(t, "the other side is right", d, 1-side, good)
		}
	}
	// A second half may begin with any counts: those are of no fixed blocks.
	reads(t, "all counts of the second half", laid(good, append(noughts(128), filled(255)...)), 1, append(noughts(128), filled(255)...))
}

// roomy is a disk whose lists all have spare room, on which one table lasts, and another one waits.
func roomy() api.Disk {
	d := laid(table(1), table(2))
	d.Waits = append(halves(6, table(3)), api.Write{At: 9, Data: filled(9)}, api.Write{At: 10, Data: filled(3)}, api.Write{At: 11, Data: filled(4)})
	grow := func(b []byte) []byte { return append(b[:128:128], filled(0xee)...)[:128] }
	for at := range d.Blocks {
		d.Blocks[at] = grow(d.Blocks[at])
	}
	for i := range d.Waits {
		d.Waits[i].Data = grow(d.Waits[i].Data)
	}
	d.Blocks = append(d.Blocks, filled(5), filled(6))[:256]
	d.Waits = d.Waits[:3]
	return d
}

// P7.3: what is handed in, its spare room too, stays as it was.
func TestReadsAlone(t *testing.T) {
	d := roomy()
	d.Blocks[7][0] = 255
	was := bared(d)
	good, bad := append(table(4), table(5)...), append(one(7, 9), table(5)...)
	goodWas, badWas := bytes.Clone(good), bytes.Clone(bad)
	for i, ask := range []func(l []byte){
		func(l []byte) { count.Check(l) },
		func(l []byte) { count.Sum(l) },
		func(l []byte) { count.Up(l, 8) },
		func(l []byte) { count.Up(l, 255) },
		func(l []byte) { count.Up(l, 7) },
		func(l []byte) { count.Down(l, 8) },
		func(l []byte) { count.Down(l, 255) },
		func(l []byte) { count.Down(l, 256) },
		func(l []byte) { count.Write(d, 0, l) },
		func(l []byte) { count.Write(d, 1, l) },
		func(l []byte) { count.Write(d, 2, l) },
		func([]byte) { count.Read(d, 0) },
		func([]byte) { count.Read(d, 1) },
		func([]byte) { count.Read(d, -1) },
	} {
		for _, l := range [][]byte{good[:256], bad[:256], good[:255], good[:257], good[:0]} {
			ask(l)
			if !bytes.Equal(good, goodWas) || !bytes.Equal(bad, badWas) {
				t.Fatalf("%d: a table was turned", i)
			}
			if !dev.Same(bared(d), was) {
				t.Fatalf("%d: the disk was turned", i)
			}
		}
	}
}

// P7.3: a table that is answered shares no memory with what was handed in, nor with another answer.
func TestTablesAreNewMemory(t *testing.T) {
	for name, ask := range map[string]func(l []byte, d api.Disk) ([]byte, api.Errno){
		"New":          func([]byte, api.Disk) ([]byte, api.Errno) { return count.New(), api.OK },
		"Up":           func(l []byte, _ api.Disk) ([]byte, api.Errno) { return count.Up(l, 9) },
		"Down":         func(l []byte, _ api.Disk) ([]byte, api.Errno) { return count.Down(l, 200) },
		"Read settled": func(_ []byte, d api.Disk) ([]byte, api.Errno) { return count.Read(d, 0) },
		"Read waiting": func(_ []byte, d api.Disk) ([]byte, api.Errno) { return count.Read(d, 1) },
	} {
		in, d := append(level(77), level(78)...), roomy()
		inWas, dWas := bytes.Clone(in), bared(d)
		first, e := ask(in[:256], d)
		if e != api.OK {
			t.Fatal(name, e)
		}
		want := bytes.Clone(first)
		second, _ := ask(in[:256], d)
		spoil(second)
		if !bytes.Equal(first, want) || !bytes.Equal(in, inWas) || !dev.Same(bared(d), dWas) {
			t.Errorf("%s: what is done to an answer is seen in an earlier one, or in what was handed in", name)
		}
		if third, e := ask(in[:256], d); e != api.OK || !bytes.Equal(third, want) {
			t.Errorf("%s: a later answer is %v, %d", name, third, e)
		}
		spoil(in)
		wreck(d)
		if !bytes.Equal(first, want) {
			t.Errorf("%s: what is done to what was handed in is seen in the answer", name)
		}
	}
}

// P7.3: a disk that is answered shares no memory with the one that was handed in, with the table, or with another answer.
func TestDisksAreNewMemory(t *testing.T) {
	for side, at := range []int{4, 6} {
		d, l := roomy(), append(table(6), table(7)...)
		dWas, lWas := bared(d), bytes.Clone(l)
		want := dev.Twin(d)
		want.Waits = append(want.Waits, halves(at, table(6))...)
		first, _ := count.Write(d, side, l[:256])
		second, _ := count.Write(d, side, l[:256])
		wreck(second)
		if !dev.Same(first, want) || !dev.Same(bared(d), dWas) || !bytes.Equal(l, lWas) {
			t.Error("what is done to an answer is seen in an earlier one, or in what was handed in")
		}
		if third, e := count.Write(d, side, l[:256]); e != api.OK || !dev.Same(third, want) {
			t.Error("a later answer is another one", e)
		}
		wreck(d)
		spoil(l)
		if !dev.Same(first, want) {
			t.Error("what is done to what was handed in is seen in the answer")
		}
	}
}

// P7.3: no two lists of a disk that is answered share memory, their spare room neither, though those that are handed in do.
func TestDisksShareNothing(t *testing.T) {
	l := level(200)
	d := api.Disk{Blocks: slices.Repeat([][]byte{l[128:]}, 256)}
	for _, at := range []int{9, 4, 7} {
		d.Waits = append(d.Waits, api.Write{At: at, Data: l[128:]})
	}
	out, e := count.Write(d, 1, l)
	if e != api.OK {
		t.Fatal(e)
	}
	was := dev.Twin(out)
	lists := slices.Clone(out.Blocks)
	for _, w := range out.Waits {
		lists = append(lists, w.Data)
	}
	for i, b := range lists {
		spoil(b)
		many := 0
		for j, c := range out.Blocks {
			if !bytes.Equal(c, was.Blocks[j]) {
				many++
			}
		}
		for j, w := range out.Waits {
			if !bytes.Equal(w.Data, was.Waits[j].Data) {
				many++
			}
		}
		if spoil(b); many != 1 {
			t.Fatalf("what is done to list %d is seen in %d", i, many)
		}
	}
}

// P7.4: what is written on a side is read there, again and again, the other side and all other blocks stay; so it is behind a barrier.
func TestWrittenIsRead(t *testing.T) {
	d := disk()
	now := make([][]byte, 256)
	copy(now, disk().Blocks)
	for i, l := range append(tables(), tables()...) {
		side := i * i % 7 % 2
		out, e := count.Write(d, side, l)
		if e != api.OK {
			t.Fatal(i, e)
		}
		d = out
		now[4+2*side], now[5+2*side] = l[:128], l[128:256]
		for range 2 {
			reads(t, "written", d, side, l)
			for at, want := range now {
				if b, e := dev.Read(d, at); e != api.OK || !bytes.Equal(b, want) {
					t.Fatalf("behind write %d, side %d: block %d is %v, %d, want %v", i, side, at, b, e, want)
				}
			}
			if i%5 == 4 {
				d, _ = dev.Barrier(d)
			}
		}
	}
}

// P7.4, W1: whichever of its two writes a cut keeps, the other side stays as it was, and all other blocks; with both it is read.
func TestCutWithinAWrite(t *testing.T) {
	first, second, l := table(21), table(22), table(23)
	for side, at := range []int{4, 6} {
		d := laid(first, second)
		out, e := count.Write(d, side, l)
		if e != api.OK {
			t.Fatal(e)
		}
		for m := range 4 {
			keep := []bool{m&1 == 1, m&2 == 2}
			want := dev.Twin(d)
			for i, w := range halves(at, l) {
				if keep[i] {
					want.Blocks[w.At] = w.Data
				}
			}
			cut, e := dev.Crash(out, keep)
			if e != api.OK || !dev.Same(cut, want) {
				t.Errorf("side %d, %v: %d, or another disk", side, keep, e)
			}
			reads(t, "the other side", cut, 1-side, [][]byte{second, first}[side])
			if m == 3 {
				reads(t, "with both", cut, side, l)
			}
		}
	}
}

// must is l, where there was no error.
func must(l []byte, e api.Errno) []byte {
	if e != api.OK {
		panic(e)
	}
	return l
}

// P7.4, W3: what is counted up, and then down, is as it was, and the other way round, for each block and count.
func TestUpAndDown(t *testing.T) {
	for at := 8; at < 256; at++ {
		was := table(at)
		for c := range 256 {
			was[at] = byte(c)
			if c < 255 && !bytes.Equal(must(count.Down(must(count.Up(was, at)), at)), was) {
				t.Fatalf("%d at %d, up and down, is another table", c, at)
			}
			if c > 0 && !bytes.Equal(must(count.Up(must(count.Down(was, at)), at)), was) {
				t.Fatalf("%d at %d, down and up, is another table", c, at)
			}
		}
	}
}

// P7.4, W3: two blocks, in either order, neighbours and far ones, the same one twice.
func TestUpAndDownOfTwo(t *testing.T) {
	was := level(100)
	for _, a := range []int{8, 9, 127, 128, 254, 255} {
		for _, b := range []int{8, 9, 10, 126, 127, 128, 129, 253, 254, 255} {
			both := must(count.Up(must(count.Up(was, a)), b))
			want := bytes.Clone(was)
			want[a]++
			want[b]++
			if !bytes.Equal(both, want) || !bytes.Equal(must(count.Up(must(count.Up(was, b)), a)), want) {
				t.Errorf("%d and %d up: another table", a, b)
			}
			if !bytes.Equal(must(count.Down(must(count.Down(both, a)), b)), was) || !bytes.Equal(must(count.Down(must(count.Down(both, b)), a)), was) {
				t.Errorf("%d and %d up, and down: another table", a, b)
			}
			if !bytes.Equal(must(count.Up(must(count.Down(was, a)), b)), must(count.Down(must(count.Up(was, b)), a))) {
				t.Errorf("%d down, %d up: another table the other way round", a, b)
			}
		}
	}
}

// P7.4, W3: many turns, each table behind them told by plain numbers; written, each is read, and its sum is the one that was read.
func TestCountsAreKept(t *testing.T) {
	l, plain, d := count.New(), [256]int{}, dev.New()
	for i := range 3000 {
		at := 8 + (i*i*7+i*3)%5*61
		step, turn := 1, count.Up
		if i%3 == 2 || i > 2000 {
			step, turn = -1, count.Down
		}
		next, e := turn(l, at)
		if c := plain[at] + step; c < 0 || c > 255 {
			refused(t, next, e, api.ErrCount)
			continue
		}
		plain[at] += step
		if l = next; e != api.OK || len(l) != 256 {
			t.Fatal(i, at, e)
		}
		for j, c := range plain {
			if int(l[j]) != c {
				t.Fatalf("turn %d: the count of %d is %d, want %d", i, j, l[j], c)
			}
		}
		if i%100 == 0 {
			d, e = count.Write(d, i/100%2, l)
			if e != api.OK {
				t.Fatal(i, e)
			}
			reads(t, "many turns", d, i/100%2, l)
			s, _ := count.Sum(must(count.Read(d, i/100%2)))
			if s != crc32.ChecksumIEEE(l) {
				t.Fatal(i, s)
			}
		}
	}
}

// The chapter's examples.
func TestExamples(t *testing.T) {
	l, e := count.Up(count.New(), 9)
	if e != api.OK || len(l) != 256 || l[9] != 1 {
		t.Error("Up(New, 9)", l, e)
	}
	if back, e := count.Down(l, 9); e != api.OK || !bytes.Equal(back, count.New()) {
		t.Error("Down(that, 9)", back, e)
	}
	l, e = count.Down(count.New(), 9)
	refused(t, l, e, api.ErrCount)
	l, e = count.Up(count.New(), 7)
	refused(t, l, e, api.ErrArg)
	d, e := count.Write(dev.New(), 1, table(1))
	if e != api.OK {
		t.Error("Write(.., 1, t)", e)
	}
	reads(t, "Read(Write(.., 1, t), 1)", d, 1, table(1))
	reads(t, "Read(no writes, 0)", dev.New(), 0, count.New())
	l, e = count.Read(d, 2)
	refused(t, l, e, api.ErrArg)
	if e := count.Check(noughts(255)); e != api.ErrBad {
		t.Error("Check(255 bytes)", e)
	}
	if s, e := count.Sum(count.New()); e != api.OK || s != 0x0d968558 {
		t.Errorf("Sum(New) = %x, %d", s, e)
	}
}

// The chapter's errors, and its limits, have its numbers.
func TestErrors(t *testing.T) {
	if api.ErrArg != 2 || api.ErrBad != 8 || api.ErrFull != 9 || api.ErrCount != 70 {
		t.Error(int(api.ErrArg), int(api.ErrBad), int(api.ErrFull), int(api.ErrCount))
	}
	if api.Blocks != 256 || api.Size != 128 || api.First != 8 || api.Slots != 4 || api.Tables != 4 || api.MaxWaits != 4096 {
		t.Error(api.Blocks, api.Size, api.First, api.Slots, api.Tables, api.MaxWaits)
	}
}
