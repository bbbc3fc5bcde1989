package dev_test

import (
	"bytes"
	"math"
	"slices"
	"testing"

	"scionry/api"
	"scionry/dev"
)

// The signatures are the chapter's, to the letter.
var (
	_ func() api.Disk                                   = dev.New
	_ func(api.Disk) api.Errno                          = dev.Check
	_ func(api.Disk, int) ([]byte, api.Errno)           = dev.Read
	_ func(api.Disk, int, []byte) (api.Disk, api.Errno) = dev.Write
	_ func(api.Disk) (api.Disk, api.Errno)              = dev.Barrier
	_ func(api.Disk, []bool) (api.Disk, api.Errno)      = dev.Crash
	_ func(a, b api.Disk) bool                          = dev.Same
	_ func(api.Disk) api.Disk                           = dev.Twin
)

// filled is a block of one byte, again and again.
func filled(c byte) []byte { return bytes.Repeat([]byte{c}, 128) }

// some is many bytes that differ from place to place, and by seed.
func some(many, seed int) []byte {
	b := make([]byte, many)
	for i := range b {
		b[i] = byte(i*i*31 + i*seed + i>>3 + seed*97)
	}
	return b
}

// disk is one whose blocks all differ, and for which these wait, each with other bytes.
func disk(ats ...int) api.Disk {
	d := api.Disk{Blocks: make([][]byte, 256)}
	for at := range d.Blocks {
		d.Blocks[at] = append(some(127, at), byte(at))
	}
	for i, at := range ats {
		d.Waits = append(d.Waits, api.Write{At: at, Data: some(128, 1000+i)})
	}
	return d
}

// waiting is a disk for which many writes wait, all of the same bytes.
func waiting(many int) api.Disk {
	d := disk()
	one := filled(1)
	for i := range many {
		d.Waits = append(d.Waits, api.Write{At: i % 256, Data: one})
	}
	return d
}

// plainSame tells by the word, field by field, whether two disks are the same.
func plainSame(a, b api.Disk) bool {
	if len(a.Blocks) != len(b.Blocks) || len(a.Waits) != len(b.Waits) {
		return false
	}
	for i := range a.Blocks {
		if string(a.Blocks[i]) != string(b.Blocks[i]) {
			return false
		}
	}
	for i := range a.Waits {
		if a.Waits[i].At != b.Waits[i].At || string(a.Waits[i].Data) != string(b.Waits[i].Data) {
			return false
		}
	}
	return true
}

// plainCrash is what lasts of d, told from the first write on: those that are kept, one over the other.
func plainCrash(d api.Disk, keep []bool) api.Disk {
	out := api.Disk{Blocks: make([][]byte, len(d.Blocks))}
	for at, b := range d.Blocks {
		out.Blocks[at] = bytes.Clone(b)
	}
	for i, w := range d.Waits {
		if keep[i] {
			out.Blocks[w.At] = bytes.Clone(w.Data)
		}
	}
	return out
}

// plainTwin is d, with all its spare room, in other memory.
func plainTwin(d api.Disk) api.Disk {
	whole := func(b []byte) []byte {
		if b == nil {
			return nil
		}
		out := make([]byte, cap(b))
		copy(out, b[:cap(b)])
		return out[:len(b)]
	}
	out := api.Disk{}
	for _, b := range d.Blocks[:cap(d.Blocks)] {
		out.Blocks = append(out.Blocks, whole(b))
	}
	for _, w := range d.Waits[:cap(d.Waits)] {
		out.Waits = append(out.Waits, api.Write{At: w.At, Data: whole(w.Data)})
	}
	out.Blocks, out.Waits = out.Blocks[:len(d.Blocks)], out.Waits[:len(d.Waits)]
	return out
}

// bared is d with all its spare room shown as elements.
func bared(d api.Disk) api.Disk {
	d = plainTwin(api.Disk{Blocks: d.Blocks[:cap(d.Blocks)], Waits: d.Waits[:cap(d.Waits)]})
	for i, b := range d.Blocks {
		d.Blocks[i] = b[:cap(b)]
	}
	for i, w := range d.Waits {
		d.Waits[i].Data = w.Data[:cap(w.Data)]
	}
	return d
}

// all is as many marks, each the same.
func all(many int, mark bool) []bool { return slices.Repeat([]bool{mark}, many) }

// spoil turns every byte of b and of its spare room.
func spoil(b []byte) {
	b = b[:cap(b)]
	for i := range b {
		b[i] ^= 0xff
	}
}

// wreck turns all that d has: bytes, places, and its lists, with their spare room.
func wreck(d api.Disk) {
	blocks, waits := d.Blocks[:cap(d.Blocks)], d.Waits[:cap(d.Waits)]
	for at, b := range blocks {
		spoil(b)
		blocks[at] = nil
	}
	for i, w := range waits {
		spoil(w.Data)
		waits[i] = api.Write{At: -7}
	}
}

// odd is a disk that may not be.
type odd struct {
	name string
	disk api.Disk
}

// odds are disks that may not be: each one thing too few, too many, or another one.
func odds() []odd {
	long := disk()
	long.Blocks = append(long.Blocks, filled(0))
	out := []odd{
		{"no disk", api.Disk{}},
		{"no blocks", api.Disk{Blocks: [][]byte{}}},
		{"one block", api.Disk{Blocks: [][]byte{filled(1)}}},
		{"255 blocks", api.Disk{Blocks: disk().Blocks[:255]}},
		{"257 blocks", long},
		{"256 blocks of nothing", api.Disk{Blocks: make([][]byte, 256)}},
		{"4097 writes", waiting(4097)},
		{"5000 writes", waiting(5000)},
	}
	for _, size := range []int{0, 1, 127, 129, 256} {
		for _, at := range []int{0, 1, 8, 100, 254, 255} {
			d := disk(3, 4)
			d.Blocks[at] = make([]byte, size, 300)
			out = append(out, odd{"a block of another size", d})
		}
		for i := range 3 {
			d := disk(3, 4, 3)
			d.Waits[i].Data = make([]byte, size, 300)
			out = append(out, odd{"a write of another size", d})
		}
	}
	for _, at := range []int{-1, 256, -2, 257, -256, 1 << 40, 1 << 32, math.MaxInt, math.MinInt} {
		for i := range 3 {
			d := disk(3, 4, 3)
			d.Waits[i].At = at
			out = append(out, odd{"a write to no block", d})
		}
	}
	gone := disk(3, 4)
	gone.Blocks[9] = nil
	lost := disk(3, 4)
	lost.Waits[1].Data = nil
	last := waiting(4096)
	last.Waits[4095].At = 256
	return append(out, odd{"a block that is nil", gone}, odd{"a write of nil", lost}, odd{"the last one of all writes is to no block", last})
}

// P3.1: a disk of blocks of noughts, nothing waits; it may be.
func TestNew(t *testing.T) {
	d := dev.New()
	if len(d.Blocks) != 256 || len(d.Waits) != 0 {
		t.Fatal(len(d.Blocks), len(d.Waits))
	}
	for at, b := range d.Blocks {
		if !bytes.Equal(b, make([]byte, 128)) {
			t.Fatalf("block %d is %v", at, b)
		}
	}
	if e := dev.Check(d); e != api.OK {
		t.Error(e)
	}
	wreck(d)
	if again := dev.New(); len(again.Blocks) != 256 || !bytes.Equal(again.Blocks[9], make([]byte, 128)) {
		t.Error("what is done to one disk is seen in the next one")
	}
}

// P3.1: disks that may be, up to both ends.
func TestCheck(t *testing.T) {
	room := disk(0, 255)
	room.Blocks = append(slices.Grow(room.Blocks, 9)[:0], room.Blocks...)
	room.Blocks[0] = make([]byte, 300)[:128]
	room.Waits[1].Data = make([]byte, 129)[:128]
	none := disk()
	none.Waits = []api.Write{}
	for i, d := range []api.Disk{
		dev.New(), disk(), none, disk(0), disk(255), disk(0, 0, 255, 255, 7, 0), room, waiting(1), waiting(4095), waiting(4096),
	} {
		if e := dev.Check(d); e != api.OK {
			t.Errorf("%d: Check = %d, want OK", i, e)
		}
	}
	for i, o := range odds() {
		if e := dev.Check(o.disk); e != api.ErrBad {
			t.Errorf("%d, %s: Check = %d, want ErrBad", i, o.name, e)
		}
	}
}

// P3.2, P3.3: Check's error first, whatever else may not be, and beside it nothing.
func TestCheckedFirst(t *testing.T) {
	nothing := func(d api.Disk) bool { return len(d.Blocks) == 0 && len(d.Waits) == 0 }
	for i, o := range odds() {
		was := plainTwin(o.disk)
		for _, at := range []int{0, 9, 255, -1, 256, math.MaxInt, math.MinInt} {
			if b, e := dev.Read(o.disk, at); e != api.ErrBad || len(b) != 0 {
				t.Errorf("%d, %s: Read at %d = %v, %d, want ErrBad", i, o.name, at, b, e)
			}
			for _, data := range [][]byte{filled(1), nil, filled(1)[1:]} {
				if d, e := dev.Write(o.disk, at, data); e != api.ErrBad || !nothing(d) {
					t.Errorf("%d, %s: Write of %d bytes at %d: %d, want ErrBad", i, o.name, len(data), at, e)
				}
			}
		}
		if d, e := dev.Barrier(o.disk); e != api.ErrBad || !nothing(d) {
			t.Errorf("%d, %s: Barrier: %d, want ErrBad", i, o.name, e)
		}
		for _, many := range []int{len(o.disk.Waits), 0, len(o.disk.Waits) + 1} {
			if d, e := dev.Crash(o.disk, all(many, true)); e != api.ErrBad || !nothing(d) {
				t.Errorf("%d, %s: Crash with %d marks: %d, want ErrBad", i, o.name, many, e)
			}
		}
		if !plainSame(o.disk, was) {
			t.Errorf("%d, %s: was turned", i, o.name)
		}
	}
}

// P3.2: each block as it lasts, where none waits for it, else as the last one has it.
func TestRead(t *testing.T) {
	ats := []int{5, 7, 5, 255, 7, 5, 0}
	d := disk(ats...)
	last := map[int]int{5: 5, 7: 4, 255: 3, 0: 6}
	for at := range 256 {
		want := d.Blocks[at]
		if i, ok := last[at]; ok {
			want = d.Waits[i].Data
		}
		if b, e := dev.Read(d, at); e != api.OK || !bytes.Equal(b, want) {
			t.Errorf("Read at %d = %v, %d, want %v", at, b, e, want)
		}
	}
	for _, at := range []int{-1, 256, -2, 257, -255, -256, 512, 1 << 32, 1<<32 + 9, math.MaxInt, math.MinInt} {
		if b, e := dev.Read(d, at); e != api.ErrArg || len(b) != 0 {
			t.Errorf("Read at %d = %v, %d, want ErrArg", at, b, e)
		}
	}
}

// P3.2: a write waits behind all others; what lasts stays.
func TestWrite(t *testing.T) {
	for _, ats := range [][]int{nil, {9}, {9, 9}, {0, 255, 9, 0}} {
		for _, at := range []int{0, 9, 255, 128} {
			d, data := disk(ats...), some(128, at+5)
			out, e := dev.Write(d, at, data)
			want := plainTwin(d)
			want.Waits = append(want.Waits, api.Write{At: at, Data: data})
			if e != api.OK || !plainSame(out, want) {
				t.Errorf("Write at %d behind %v: %d, or another disk", at, ats, e)
			}
		}
	}
	full, e := dev.Write(waiting(4095), 255, some(128, 3))
	if e != api.OK || len(full.Waits) != 4096 || full.Waits[4095].At != 255 || !bytes.Equal(full.Waits[4095].Data, some(128, 3)) {
		t.Errorf("the last write that may wait: %d, %d wait", e, len(full.Waits))
	}
}

// P3.2: ErrArg, then ErrText, then ErrFull, one beyond each end first, and beside them nothing.
func TestWriteRefuses(t *testing.T) {
	full := waiting(4096)
	for _, c := range []struct {
		disk api.Disk
		at   int
		size int
		want api.Errno
	}{
		{disk(9), -1, 128, api.ErrArg},
		{disk(9), 256, 128, api.ErrArg},
		{disk(9), math.MaxInt, 128, api.ErrArg},
		{disk(9), math.MinInt, 128, api.ErrArg},
		{disk(9), 1<<32 + 9, 128, api.ErrArg},
		{disk(9), -1, 127, api.ErrArg},
		{disk(9), 256, 0, api.ErrArg},
		{full, -1, 127, api.ErrArg},
		{full, 256, 128, api.ErrArg},
		{disk(9), 0, 127, api.ErrText},
		{disk(9), 255, 129, api.ErrText},
		{disk(9), 9, 0, api.ErrText},
		{disk(9), 9, 1, api.ErrText},
		{disk(9), 9, 124, api.ErrText},
		{disk(9), 9, 256, api.ErrText},
		{disk(9), 9, 1 << 16, api.ErrText},
		{full, 9, 127, api.ErrText},
		{full, 9, 129, api.ErrText},
		{full, 0, 128, api.ErrFull},
		{full, 255, 128, api.ErrFull},
	} {
		was := plainTwin(c.disk)
		d, e := dev.Write(c.disk, c.at, make([]byte, c.size, 300+c.size))
		if e != c.want || len(d.Blocks) != 0 || len(d.Waits) != 0 || !plainSame(c.disk, was) {
			t.Errorf("Write of %d bytes at %d, %d wait: %d, want %d", c.size, c.at, len(c.disk.Waits), e, c.want)
		}
	}
	if _, e := dev.Write(disk(), 9, nil); e != api.ErrText {
		t.Errorf("Write of nil: %d, want ErrText", e)
	}
	if b, e := dev.Read(full, 255); e != api.OK || !bytes.Equal(b, filled(1)) {
		t.Errorf("Read where as many wait as may: %v, %d", b, e)
	}
}

// P3.2: each block lasts as it was seen, nothing waits.
func TestBarrier(t *testing.T) {
	for _, d := range []api.Disk{
		dev.New(), disk(), disk(0), disk(255), disk(5, 7, 5, 255, 7, 5, 0), disk(9, 9, 9, 9), waiting(300), waiting(4096),
	} {
		want := plainCrash(d, all(len(d.Waits), true))
		out, e := dev.Barrier(d)
		if e != api.OK || len(out.Waits) != 0 || !plainSame(out, want) {
			t.Errorf("Barrier of a disk for which %d wait: %d, %d wait, or other blocks", len(d.Waits), e, len(out.Waits))
		}
		if again, e := dev.Barrier(out); e != api.OK || !plainSame(again, out) {
			t.Errorf("a second barrier: %d, or another disk", e)
		}
	}
}

// P3.3: those alone that are marked, in their order, whichever they are.
func TestCrash(t *testing.T) {
	d := disk(5, 7, 5, 255, 7, 5, 0)
	for m := range 1 << len(d.Waits) {
		keep := make([]bool, len(d.Waits))
		for i := range keep {
			keep[i] = m>>i&1 == 1
		}
		was := slices.Clone(keep)
		out, e := dev.Crash(d, keep)
		if e != api.OK || len(out.Waits) != 0 || !plainSame(out, plainCrash(d, was)) {
			t.Fatalf("Crash with %v: %d, %d wait, or other blocks", was, e, len(out.Waits))
		}
		if !slices.Equal(keep, was) {
			t.Fatalf("the marks are %v, were %v", keep, was)
		}
	}
	full := waiting(4096)
	for i := range full.Waits {
		full.Waits[i].Data = filled(byte(i>>8 + 1))
	}
	keep := make([]bool, 4096)
	for i := range keep {
		keep[i] = i*i%7 == 2
	}
	for _, marks := range [][]bool{keep, all(4096, true), all(4096, false)} {
		if out, e := dev.Crash(full, marks); e != api.OK || !plainSame(out, plainCrash(full, marks)) {
			t.Errorf("Crash of a disk for which 4096 wait: %d, or other blocks", e)
		}
	}
}

// P3.3: marks that are not as many as the writes, one too few and one too many first.
func TestCrashRefuses(t *testing.T) {
	for _, writes := range []int{0, 1, 2, 3, 300, 4095, 4096} {
		d := waiting(writes)
		for _, marks := range []int{writes - 1, writes + 1, 0, 1, 2 * writes, writes + 256, 4097} {
			if marks < 0 || marks == writes {
				continue
			}
			for _, mark := range []bool{true, false} {
				keep := all(marks, mark)
				out, e := dev.Crash(d, keep[:marks:marks])
				if e != api.ErrArg || len(out.Blocks) != 0 || len(out.Waits) != 0 {
					t.Errorf("Crash of %d writes with %d marks: %d, want ErrArg", writes, marks, e)
				}
			}
		}
		if out, e := dev.Crash(d, all(writes, false)); e != api.OK || !plainSame(out, disk()) {
			t.Errorf("Crash of %d writes with no mark: %d, or other blocks", writes, e)
		}
	}
	if out, e := dev.Crash(disk(), nil); e != api.OK || !plainSame(out, disk()) {
		t.Errorf("Crash of no writes, no marks: %d, or other blocks", e)
	}
	if _, e := dev.Crash(disk(9), nil); e != api.ErrArg {
		t.Errorf("Crash of a write with nil: %d, want ErrArg", e)
	}
	// A mark in the spare room is none.
	if _, e := dev.Crash(disk(9, 9), all(2, true)[:1]); e != api.ErrArg {
		t.Errorf("Crash of two writes with one mark and a spare one: %d, want ErrArg", e)
	}
}

// P3.1: one thing that is another one is told, in each field, at each place.
func TestSame(t *testing.T) {
	turns := []func(d *api.Disk){
		func(d *api.Disk) { d.Blocks = d.Blocks[:255] },
		func(d *api.Disk) { d.Blocks = d.Blocks[1:] },
		func(d *api.Disk) { d.Blocks = append(d.Blocks, nil) },
		func(d *api.Disk) { d.Blocks = nil },
		func(d *api.Disk) { d.Blocks[0], d.Blocks[1] = d.Blocks[1], d.Blocks[0] },
		func(d *api.Disk) { d.Waits = d.Waits[:2] },
		func(d *api.Disk) { d.Waits = nil },
		func(d *api.Disk) { d.Waits = append(d.Waits, api.Write{}) },
		func(d *api.Disk) { d.Waits[0], d.Waits[1] = d.Waits[1], d.Waits[0] },
	}
	for _, at := range []int{0, 9, 255} {
		turns = append(turns,
			func(d *api.Disk) { d.Blocks[at][0]++ },
			func(d *api.Disk) { d.Blocks[at][127]++ },
			func(d *api.Disk) { d.Blocks[at] = d.Blocks[at][:127] },
			func(d *api.Disk) { d.Blocks[at] = append(d.Blocks[at], 0) },
			func(d *api.Disk) { d.Blocks[at] = nil },
		)
	}
	for i := range 3 {
		turns = append(turns,
			func(d *api.Disk) { d.Waits[i].At++ },
			func(d *api.Disk) { d.Waits[i].At = -1 },
			func(d *api.Disk) { d.Waits[i].Data[0]++ },
			func(d *api.Disk) { d.Waits[i].Data[127]++ },
			func(d *api.Disk) { d.Waits[i].Data = d.Waits[i].Data[:127] },
			func(d *api.Disk) { d.Waits[i].Data = append(d.Waits[i].Data, 0) },
			func(d *api.Disk) { d.Waits[i].Data = nil },
		)
	}
	for i, turn := range turns {
		a, b := disk(9, 9, 200), disk(9, 9, 200)
		if !dev.Same(a, b) || !dev.Same(a, a) {
			t.Fatalf("%d: two disks made alike are not the same", i)
		}
		turn(&b)
		if dev.Same(a, b) || dev.Same(b, a) {
			t.Errorf("%d: a disk that was turned is still the same", i)
		}
		c := disk(9, 9, 200)
		if turn(&c); !dev.Same(b, c) {
			t.Errorf("%d: two disks turned alike are not the same", i)
		}
	}
}

// P3.1, Rules ("Lists"): a list without elements may be nil or not, and spare room is not there.
func TestSameOfNothing(t *testing.T) {
	none := api.Disk{Blocks: [][]byte{}, Waits: []api.Write{}}
	spare := api.Disk{Blocks: disk().Blocks[:0], Waits: disk(9).Waits[:0]}
	for i, a := range []api.Disk{{}, none, spare} {
		for j, b := range []api.Disk{{}, none, spare} {
			if !dev.Same(a, b) {
				t.Errorf("%d, %d: two disks without anything are not the same", i, j)
			}
		}
		if dev.Same(a, dev.New()) || dev.Same(dev.New(), a) {
			t.Errorf("%d: a disk without anything is a new one", i)
		}
	}
	a, b := api.Disk{Blocks: [][]byte{nil}, Waits: []api.Write{{At: -5}}}, api.Disk{Blocks: [][]byte{{}}, Waits: []api.Write{{At: -5, Data: []byte{}}}}
	if !dev.Same(a, b) || !dev.Same(b, a) {
		t.Error("nil bytes are not the same as no bytes")
	}
	if dev.Same(a, api.Disk{Blocks: a.Blocks}) || dev.Same(a, api.Disk{Waits: a.Waits}) {
		t.Error("nil bytes are the same as no list of them")
	}
}

// P3.1: any disk's twin is the same, and shares nothing with it.
func TestTwin(t *testing.T) {
	some := append(odds(), odd{"a new one", dev.New()}, odd{"one for which some wait", disk(0, 9, 9, 255)}, odd{"a full one", waiting(4096)})
	for i, o := range some {
		want := plainTwin(o.disk)
		twin := dev.Twin(o.disk)
		if !plainSame(twin, want) || !dev.Same(twin, o.disk) {
			t.Errorf("%d, %s: the twin is another one", i, o.name)
		}
		wreck(twin)
		if !plainSame(o.disk, want) {
			t.Errorf("%d, %s: what is done to the twin is seen", i, o.name)
		}
		twin = dev.Twin(o.disk)
		wreck(o.disk)
		if !plainSame(twin, want) {
			t.Errorf("%d, %s: what is done to it is seen in the twin", i, o.name)
		}
	}
}

// roomy is a disk whose lists all have spare room, with something in it.
func roomy() api.Disk {
	d := disk(9, 7, 9, 9)
	for at := range d.Blocks {
		d.Blocks[at] = append(d.Blocks[at], some(9, at)...)[:128]
	}
	for i := range d.Waits {
		d.Waits[i].Data = append(d.Waits[i].Data, some(9, i)...)[:128]
	}
	d.Blocks = append(d.Blocks, some(128, 4), some(128, 5))[:256]
	d.Waits = d.Waits[:3]
	return d
}

// askers are all calls that answer a disk, of one for which three wait.
func askers() map[string]func(d api.Disk) api.Disk {
	first := func(d api.Disk, _ api.Errno) api.Disk { return d }
	return map[string]func(d api.Disk) api.Disk{
		"New":              func(api.Disk) api.Disk { return dev.New() },
		"Write":            func(d api.Disk) api.Disk { return first(dev.Write(d, 9, some(128, 77))) },
		"Write of a block": func(d api.Disk) api.Disk { return first(dev.Write(d, 9, d.Blocks[200])) },
		"Write of a write": func(d api.Disk) api.Disk { return first(dev.Write(d, 255, d.Waits[2].Data)) },
		"Barrier":          func(d api.Disk) api.Disk { return first(dev.Barrier(d)) },
		"Crash, all kept":  func(d api.Disk) api.Disk { return first(dev.Crash(d, all(3, true))) },
		"Crash, some kept": func(d api.Disk) api.Disk { return first(dev.Crash(d, []bool{true, false, false})) },
		"Crash, none kept": func(d api.Disk) api.Disk { return first(dev.Crash(d, all(3, false))) },
		"Twin":             dev.Twin,
	}
}

// P3.4: what is handed in, its spare room too, stays as it was.
func TestReadsAlone(t *testing.T) {
	d, other := roomy(), roomy()
	was := bared(d)
	still := func(name string) {
		if !plainSame(bared(d), was) || !plainSame(bared(other), was) {
			t.Fatalf("%s turned what was handed in", name)
		}
	}
	for name, ask := range askers() {
		ask(d)
		still(name)
	}
	dev.Check(d)
	still("Check")
	dev.Same(d, other)
	still("Same")
	for _, at := range []int{-1, 0, 7, 9, 255, 256} {
		dev.Read(d, at)
		still("Read")
	}
	data := some(300, 6)
	dev.Write(d, 9, data[:128])
	dev.Write(d, 9, data[:127])
	keep := []bool{true, false, true, true, false}
	dev.Crash(d, keep[:3])
	dev.Crash(d, keep[:2])
	still("Write, or Crash")
	if !bytes.Equal(data, some(300, 6)) || !slices.Equal(keep, []bool{true, false, true, true, false}) {
		t.Error("bytes to write, or marks, were turned", data, keep)
	}
}

// P3.4: what is done to an answer is seen nowhere, and the other way.
func TestAnswersNewMemory(t *testing.T) {
	for name, ask := range askers() {
		d := roomy()
		was := bared(d)
		first, second := ask(d), ask(d)
		want := plainTwin(first)
		wreck(second)
		if !plainSame(first, want) || !plainSame(bared(d), was) {
			t.Errorf("%s: what is done to an answer is seen in an earlier one, or in the argument", name)
		}
		if third := ask(d); !plainSame(third, want) {
			t.Errorf("%s: a later answer is another one", name)
		}
		wreck(d)
		if !plainSame(first, want) {
			t.Errorf("%s: what is done to the argument is seen in the answer", name)
		}
	}
	d, data := roomy(), some(128, 3)
	out, _ := dev.Write(d, 9, data)
	spoil(data)
	if b, e := dev.Read(out, 9); e != api.OK || !bytes.Equal(b, some(128, 3)) {
		t.Error("what is done to the bytes that were handed in is seen")
	}
	for _, at := range []int{9, 7, 100} {
		was := bared(d)
		b, _ := dev.Read(d, at)
		want := bytes.Clone(b)
		c, _ := dev.Read(d, at)
		spoil(c)
		if !bytes.Equal(b, want) || !plainSame(bared(d), was) {
			t.Errorf("Read at %d: what is done to an answer is seen", at)
		}
		other := plainTwin(d)
		b, _ = dev.Read(other, at)
		wreck(other)
		if !bytes.Equal(b, want) {
			t.Errorf("Read at %d: what is done to the disk is seen in the answer", at)
		}
	}
}

// P3.4: no two lists of an answer share memory, though those that are handed in do.
func TestAnswersShareNothing(t *testing.T) {
	for name, ask := range askers() {
		d := api.Disk{Blocks: slices.Repeat([][]byte{some(300, 1)[:128]}, 256)}
		for _, at := range []int{9, 7, 9} {
			d.Waits = append(d.Waits, api.Write{At: at, Data: d.Blocks[0]})
		}
		out := ask(d)
		was := plainTwin(out)
		lists := slices.Clone(out.Blocks)
		for _, w := range out.Waits {
			lists = append(lists, w.Data)
		}
		for i, b := range lists {
			spoil(b)
			many := 0
			for j, c := range out.Blocks {
				if !bytes.Equal(c, was.Blocks[j]) {
					many++
				}
			}
			for j, w := range out.Waits {
				if !bytes.Equal(w.Data, was.Waits[j].Data) {
					many++
				}
			}
			if spoil(b); many != 1 {
				t.Fatalf("%s: what is done to list %d is seen in %d", name, i, many)
			}
		}
	}
}

// P3.5: what was written is read, the other blocks as they were; a barrier changes nothing of what is read.
func TestWrittenIsRead(t *testing.T) {
	d := dev.New()
	now := make([][]byte, 256)
	for at := range now {
		now[at] = make([]byte, 128)
	}
	for i := range 400 {
		at := (i*i*7 + i*3) % 256
		out, e := dev.Write(d, at, some(128, i))
		if e != api.OK {
			t.Fatalf("write %d: %d", i, e)
		}
		d, now[at] = out, some(128, i)
		if i%37 == 36 {
			if d, e = dev.Barrier(d); e != api.OK {
				t.Fatalf("a barrier behind write %d: %d", i, e)
			}
		}
		for at, want := range now {
			if b, e := dev.Read(d, at); e != api.OK || !bytes.Equal(b, want) {
				t.Fatalf("behind write %d: block %d is %v, %d, want %v", i, at, b, e, want)
			}
		}
	}
}

// P3.5, W1: of a crash each block is as it lasted, or as a write had it that waited for it, each other one as it lasted; with all marks true it is a barrier.
func TestCrashKeepsWholeBlocks(t *testing.T) {
	d := disk(3, 200, 3, 0, 200, 3, 255, 9)
	barrier, _ := dev.Barrier(d)
	if kept, e := dev.Crash(d, all(8, true)); e != api.OK || !dev.Same(kept, barrier) {
		t.Error("with all marks true it is no barrier", e)
	}
	found := map[int]map[string]bool{}
	for m := range 1 << 8 {
		keep := make([]bool, 8)
		for i := range keep {
			keep[i] = m>>i&1 == 1
		}
		out, e := dev.Crash(d, keep)
		if e != api.OK {
			t.Fatal(keep, e)
		}
		for at, b := range out.Blocks {
			may := [][]byte{d.Blocks[at]}
			for _, w := range d.Waits {
				if w.At == at {
					may = append(may, w.Data)
				}
			}
			if !slices.ContainsFunc(may, func(c []byte) bool { return bytes.Equal(b, c) }) {
				t.Fatalf("%v: block %d is none that was, or was written", keep, at)
			}
			if found[at] == nil {
				found[at] = map[string]bool{}
			}
			found[at][string(b)] = true
		}
	}
	// A cut may leave each of them: what lasted, and each write.
	for at, want := range map[int]int{3: 4, 200: 3, 0: 2, 255: 2, 9: 2, 100: 1} {
		if len(found[at]) != want {
			t.Errorf("block %d is left in %d ways, want %d", at, len(found[at]), want)
		}
	}
}

// The chapter's examples.
func TestExamples(t *testing.T) {
	a, b, noughts := filled(1), filled(2), make([]byte, 128)
	if got, e := dev.Read(dev.New(), 0); e != api.OK || !bytes.Equal(got, noughts) {
		t.Error("Read(New, 0)", got, e)
	}
	if got, e := dev.Read(dev.New(), 256); e != api.ErrArg || len(got) != 0 {
		t.Error("Read(New, 256)", got, e)
	}
	one, _ := dev.Write(dev.New(), 9, a)
	if got, e := dev.Read(one, 9); e != api.OK || !bytes.Equal(got, a) {
		t.Error("Read(Write of a to 9, 9)", got, e)
	}
	two, _ := dev.Write(one, 9, b)
	if d, e := dev.Crash(two, []bool{true, false}); e != api.OK || len(d.Waits) != 0 || !bytes.Equal(d.Blocks[9], a) {
		t.Error("Crash(true false)", e)
	}
	if d, e := dev.Crash(two, []bool{false, false}); e != api.OK || len(d.Waits) != 0 || !bytes.Equal(d.Blocks[9], noughts) {
		t.Error("Crash(false false)", e)
	}
	if d, e := dev.Crash(two, []bool{true}); e != api.ErrArg || len(d.Blocks) != 0 || len(d.Waits) != 0 {
		t.Error("Crash(true)", e)
	}
	if e := dev.Check(api.Disk{}); e != api.ErrBad {
		t.Error("Check(no disk)", e)
	}
	if d, e := dev.Write(dev.New(), 9, []byte{1}); e != api.ErrText || len(d.Blocks) != 0 || len(d.Waits) != 0 {
		t.Error("Write(New, 9, one byte)", e)
	}
}

// The chapter's errors, and its limits, have its numbers.
func TestErrors(t *testing.T) {
	if api.ErrArg != 2 || api.ErrText != 3 || api.ErrBad != 8 || api.ErrFull != 9 {
		t.Error(int(api.ErrArg), int(api.ErrText), int(api.ErrBad), int(api.ErrFull))
	}
	if api.Blocks != 256 || api.Size != 128 || api.MaxWaits != 4096 {
		t.Error(api.Blocks, api.Size, api.MaxWaits)
	}
}
