package item_test

import (
	"bytes"
	"math"
	"slices"
	"testing"

	"scionry/api"
	"scionry/item"
)

// The signatures are the chapter's, to the letter.
var (
	_ func(a, b api.Key) bool                          = item.Less
	_ func(api.Item) api.Errno                         = item.Check
	_ func(api.Item) ([]byte, api.Errno)               = item.Write
	_ func([]byte) (x api.Item, size int, e api.Errno) = item.Read
	_ func(a, b api.Item) bool                         = item.Same
	_ func(api.Item) api.Item                          = item.Twin
)

// fours are numbers of four bytes: both ends, the ends of each byte, and some whose bytes all differ.
var fours = []uint32{
	0, 1, 2, 9, 255, 256, 1<<16 - 1, 1 << 16, 1<<24 - 1, 1 << 24,
	1<<31 - 1, 1 << 31, 1<<31 + 1, 1<<32 - 2, 1<<32 - 1, 0x12345678, 0x78563412,
}

// kinds are numbers of one byte: both ends, those of the sign, and those that api names.
var kinds = []uint8{0, 1, 2, 3, 4, 127, 128, 129, 254, 255}

// none are numbers that no Ref may be: one beyond each end first, then those of which some bytes are right.
var none = []int{
	7, 256, 1, -1, 2, 6, 257, -8, -255, 8 + 256, 255 + 256, 100 + 512, 1<<16 - 1, 1 << 16, 1<<16 + 8, 1<<16 + 255,
	1 << 32, 1<<32 + 8, -1 << 16, -1<<16 + 8, -1 << 32, -1<<32 + 9, math.MaxInt, math.MinInt, math.MinInt + 8,
}

// key is a key of these.
func key(kind uint8, id, off uint32) api.Key { return api.Key{Kind: kind, Id: id, Off: off} }

// val is many bytes, no two neighbours the same.
func val(many int) []byte {
	b := make([]byte, many)
	for i := range b {
		b[i] = byte(251 - 37*i)
	}
	return b
}

// keys are some of which each part is at its ends, alone and with the others.
func keys() []api.Key {
	var l []api.Key
	for _, kind := range []uint8{0, 1, 2, 128, 255} {
		for _, id := range []uint32{0, 1, 256, 1 << 31, 1<<32 - 1} {
			for _, off := range []uint32{0, 1, 2, 256, 1<<31 - 1, 1<<32 - 1} {
				l = append(l, key(kind, id, off))
			}
		}
	}
	return l
}

// items are some that may be: both ends of each field, with each length of Val.
func items() []api.Item {
	var l []api.Item
	for i, n := range fours {
		l = append(l,
			api.Item{Key: key(0, n, 0)},
			api.Item{Key: key(0, 0, n), Ref: 8},
			api.Item{Key: key(255, n, ^n), Ref: 255, Val: val(i % 13)},
			api.Item{Key: key(kinds[i%len(kinds)], n^0x01020304, n), Ref: 8 + 14*i, Val: val(12 - i%13)},
		)
	}
	for _, kind := range kinds {
		l = append(l, api.Item{Key: key(kind, 0, 0)}, api.Item{Key: key(kind, 0x04030201, 0x08070605), Ref: 9, Val: val(12)})
	}
	for ref := 8; ref < 256; ref++ {
		l = append(l, api.Item{Ref: ref}, api.Item{Key: key(byte(ref), uint32(ref), 3), Ref: ref, Val: val(ref % 13)})
	}
	for many := range 13 {
		l = append(l, api.Item{Val: val(many)}, api.Item{Ref: 77, Val: make([]byte, many)}, api.Item{Key: key(1, 2, 3), Val: bytes.Repeat([]byte{255}, many)})
	}
	return append(l, api.Item{}, api.Item{Val: []byte{}}, api.Item{Ref: 8, Val: val(40)[:0]}, api.Item{Ref: 8, Val: val(40)[:12]})
}

// wrong are items that may not be.
func wrong() []api.Item {
	var l []api.Item
	for _, n := range none {
		l = append(l,
			api.Item{Ref: n},
			api.Item{Key: key(255, 1<<32-1, 1<<32-1), Ref: n},
			api.Item{Key: key(1, 2, 3), Ref: n, Val: val(12)},
			api.Item{Ref: n, Val: val(13)},
		)
	}
	for _, many := range []int{13, 14, 127, 128, 255, 256, 257, 256 + 12, 512, 1<<16 + 5} {
		l = append(l, api.Item{Val: make([]byte, many)}, api.Item{Ref: 8, Val: val(many)}, api.Item{Key: key(1, 2, 3), Ref: 255, Val: val(many)})
	}
	return l
}

// plain is the bytes of x, by the chapter's words, whether x may be or not.
func plain(x api.Item) []byte {
	b := []byte{
		x.Key.Kind,
		byte(x.Key.Id), byte(x.Key.Id >> 8), byte(x.Key.Id >> 16), byte(x.Key.Id >> 24),
		byte(x.Key.Off), byte(x.Key.Off >> 8), byte(x.Key.Off >> 16), byte(x.Key.Off >> 24),
		byte(x.Ref), byte(x.Ref >> 8),
		byte(len(x.Val)),
	}
	return append(b, x.Val...)
}

// plainLess tells by the word whether a stands ahead of b.
func plainLess(a, b api.Key) bool {
	if a.Kind != b.Kind {
		return a.Kind < b.Kind
	}
	if a.Id != b.Id {
		return a.Id < b.Id
	}
	return a.Off < b.Off
}

// plainSame tells by the word, field by field, whether two items are the same.
func plainSame(a, b api.Item) bool {
	if a.Key.Kind != b.Key.Kind || a.Key.Id != b.Key.Id || a.Key.Off != b.Key.Off || a.Ref != b.Ref || len(a.Val) != len(b.Val) {
		return false
	}
	for i := range a.Val {
		if a.Val[i] != b.Val[i] {
			return false
		}
	}
	return true
}

// P5.1: the Kind first, then the Id, then the Off, each as a number that is never below 0.
func TestLess(t *testing.T) {
	all := keys()
	// As they were made, they stand in order.
	for i, a := range all {
		for j, b := range all {
			if less := item.Less(a, b); less != (i < j) || less != plainLess(a, b) {
				t.Errorf("Less(%v, %v) = %v", a, b, less)
			}
		}
	}
}

// P5.1: of keys of which just one part is not the same that one tells; of which two are turned against each other, the one ahead.
func TestLessByPart(t *testing.T) {
	for _, low := range fours {
		for _, high := range fours {
			if low >= high {
				continue
			}
			for _, o := range fours {
				for _, kind := range kinds {
					ahead(t, key(kind, o, low), key(kind, o, high))
					ahead(t, key(kind, low, o), key(kind, high, o))
					ahead(t, key(kind, low, high), key(kind, high, low))
				}
			}
		}
	}
	for i, high := range kinds {
		for _, low := range kinds[:i] {
			for _, n := range fours {
				for _, m := range fours {
					ahead(t, key(low, n, 5), key(high, m, 5))
					ahead(t, key(low, 5, n), key(high, 5, m))
					ahead(t, key(low, n, m), key(high, m, n))
					ahead(t, key(low, n, n), key(high, m, m))
				}
			}
		}
	}
	// Numbers that would be turned round, were they less by more than half of all.
	ahead(t, key(0, 0, 0), key(0, 0, 1<<32-1))
	ahead(t, key(0, 0, 1<<31-1), key(0, 0, 1<<31))
	ahead(t, key(0, 0, 1<<32-1), key(0, 1<<32-1, 0))
	ahead(t, key(127, 0, 0), key(128, 0, 0))
	ahead(t, key(0, 1<<32-1, 1<<32-1), key(255, 0, 0))
}

// ahead fails, unless a stands ahead of b, and b not of a.
func ahead(t *testing.T, a, b api.Key) {
	t.Helper()
	if !item.Less(a, b) || item.Less(b, a) {
		t.Errorf("Less(%v, %v) = %v, and turned %v", a, b, item.Less(a, b), item.Less(b, a))
	}
}

// P5.1: Ref 0, 8 and 255, Val of 0 to 12 bytes; the key may be any.
func TestCheck(t *testing.T) {
	for i, x := range items() {
		if e := item.Check(x); e != api.OK {
			t.Errorf("%d: Check(%v) = %d, want OK", i, x, e)
		}
	}
	for _, k := range keys() {
		for _, x := range []api.Item{{Key: k}, {Key: k, Ref: 8, Val: val(1)}, {Key: k, Ref: 255, Val: val(12)}} {
			if e := item.Check(x); e != api.OK {
				t.Errorf("Check(%v) = %d, want OK", x, e)
			}
		}
	}
}

// P5.1: Ref 1, 7, 256 and others, Val of 13 bytes and more, whatever else it has.
func TestCheckRefuses(t *testing.T) {
	for i, x := range wrong() {
		if e := item.Check(x); e != api.ErrBad {
			t.Errorf("%d: Check(%v) = %d, want ErrBad", i, x, e)
		}
	}
	for n := -600; n < 1200; n++ {
		want := api.ErrBad
		if n == 0 || n >= 8 && n <= 255 {
			want = api.OK
		}
		if e := item.Check(api.Item{Key: key(1, 2, 3), Ref: n, Val: val(5)}); e != want {
			t.Errorf("Check(Ref %d) = %d, want %d", n, e, want)
		}
	}
	for many := range 600 {
		want := api.OK
		if many > 12 {
			want = api.ErrBad
		}
		for _, x := range []api.Item{{Val: make([]byte, many)}, {Ref: 8, Val: val(600)[:many]}} {
			if e := item.Check(x); e != want {
				t.Errorf("Check(Val of %d bytes) = %d, want %d", many, e, want)
			}
		}
	}
}

// P5.2: each field at its place, the lowest byte first.
func TestWrite(t *testing.T) {
	for i, x := range items() {
		if b, e := item.Write(x); e != api.OK || !bytes.Equal(b, plain(x)) {
			t.Fatalf("%d: Write(%v) = %v, %d, want %v", i, x, b, e, plain(x))
		}
	}
	// Written out once, so that the helper is held against something.
	x := api.Item{Key: key(0x11, 0x04030201, 0x08070605), Ref: 0xfa, Val: []byte{21, 22, 23}}
	want := []byte{0x11, 1, 2, 3, 4, 5, 6, 7, 8, 0xfa, 0, 3, 21, 22, 23}
	if b, e := item.Write(x); e != api.OK || !bytes.Equal(b, want) {
		t.Errorf("Write(%v) = %v, %d, want %v", x, b, e, want)
	}
	if b, e := item.Write(api.Item{}); e != api.OK || !bytes.Equal(b, make([]byte, 12)) {
		t.Errorf("Write of noughts = %v, %d", b, e)
	}
}

// P5.2: what may not be is not written.
func TestWriteRefuses(t *testing.T) {
	for i, x := range wrong() {
		if b, e := item.Write(x); e != api.ErrBad || len(b) != 0 {
			t.Errorf("%d: Write(%v) = %v, %d, want no bytes, ErrBad", i, x, b, e)
		}
	}
}

// read fails, unless b is read as that item, of so many bytes.
func read(t *testing.T, what string, b []byte, want api.Item, many int) {
	t.Helper()
	if x, size, e := item.Read(b); e != api.OK || size != many || !plainSame(x, want) {
		t.Errorf("%s: Read(%v) = %v, %d, %d, want %v, %d, OK", what, b, x, size, e, want, many)
	}
}

// unread fails, unless b is refused, with no item and no size.
func unread(t *testing.T, what string, b []byte) {
	t.Helper()
	if x, size, e := item.Read(b); e != api.ErrBad || size != 0 || !plainSame(x, api.Item{}) {
		t.Errorf("%s: Read(%v) = %v, %d, %d, want none, 0, ErrBad", what, b, x, size, e)
	}
}

// P5.2: what is written is read, whatever is behind it: nothing, noughts, another item, or bytes that are none of one; how many bytes it has is told without these.
func TestRead(t *testing.T) {
	other := plain(api.Item{Key: key(9, 8, 7), Ref: 66, Val: val(12)})
	behinds := [][]byte{nil, {0}, {255}, {1, 2, 3}, make([]byte, 116), bytes.Repeat([]byte{255}, 300), other, other[:5], val(1000)}
	for _, want := range items() {
		b := plain(want)
		for _, behind := range behinds {
			read(t, "bytes behind", append(b[:len(b):len(b)], behind...), want, len(b))
			read(t, "spare room", append(b[:len(b):len(b)], behind...)[:len(b)], want, len(b))
		}
	}
}

// P5.2: no bytes, and each beginning that is too short, whatever is in its spare room.
func TestReadRefusesBeginnings(t *testing.T) {
	unread(t, "nil", nil)
	unread(t, "none", []byte{})
	for _, x := range items() {
		b := append(plain(x), val(300)...)
		for n := range 12 + len(x.Val) {
			unread(t, "a beginning", b[:n])
			unread(t, "a beginning, without spare room", b[:n:n])
		}
	}
	for n := range 12 {
		unread(t, "noughts", make([]byte, n))
		unread(t, "greatest ones", bytes.Repeat([]byte{255}, n))
	}
}

// P5.2: a length that is too great, the bytes there or not; one that may be, but goes past the end.
func TestReadRefusesLengths(t *testing.T) {
	head := func(many int) []byte { return []byte{1, 2, 0, 0, 0, 3, 0, 0, 0, 9, 0, byte(many)} }
	for many := 13; many < 256; many++ {
		for _, there := range []int{0, 1, 12, 13, many - 1, many, many + 1, 400} {
			unread(t, "a length that is too great", append(head(many), val(there)...))
			unread(t, "a length that is too great, of noughts", append(head(many), make([]byte, there)...))
		}
	}
	for many := range 13 {
		for there := range 16 {
			b := append(head(many), val(there)...)
			if there < many {
				unread(t, "a length past the end", b)
				unread(t, "a length past the end, spare room behind", append(b, val(20)...)[:12+there])
			} else {
				read(t, "a length", b, api.Item{Key: key(1, 2, 3), Ref: 9, Val: val(there)[:many]}, 12+many)
			}
		}
	}
}

// P5.2: bytes of items that may not be: each Ref that two bytes tell, but 0 and 8 to 255.
func TestReadRefusesWhatMayNotBe(t *testing.T) {
	for n := range 1 << 16 {
		x := api.Item{Key: key(4, 5, 6), Ref: n, Val: val(n % 13)}
		b := plain(x)
		if n == 0 || n >= 8 && n <= 255 {
			read(t, "a Ref", b, x, len(b))
		} else {
			unread(t, "a Ref", b)
			unread(t, "a Ref, bytes behind", append(b, 8, 0, 0))
		}
	}
	for i, x := range wrong() {
		// Only those whose bytes tell what they are.
		if x.Ref >= 0 && x.Ref < 1<<16 && len(x.Val) < 256 {
			t.Log("case", i)
			unread(t, "one that may not be", plain(x))
		}
	}
	unread(t, "greatest ones", bytes.Repeat([]byte{255}, 300))
}

// P5.1: one thing that is another one is told, in each field; of any items.
func TestSame(t *testing.T) {
	turns := []func(x *api.Item){
		func(x *api.Item) { x.Key.Kind++ },
		func(x *api.Item) { x.Key.Kind ^= 128 },
		func(x *api.Item) { x.Key.Id++ },
		func(x *api.Item) { x.Key.Id ^= 1 << 31 },
		func(x *api.Item) { x.Key.Off++ },
		func(x *api.Item) { x.Key.Off ^= 1 << 31 },
		func(x *api.Item) { x.Ref++ },
		func(x *api.Item) { x.Ref += 256 },
		func(x *api.Item) { x.Ref += 1 << 32 },
		func(x *api.Item) { x.Ref = -x.Ref - 1 },
		func(x *api.Item) { x.Val = append(slices.Clone(x.Val), 0) },
		func(x *api.Item) { x.Val = append([]byte{0}, x.Val...) },
		func(x *api.Item) { x.Val = append(slices.Clone(x.Val), 7) },
	}
	for i, x := range append(items(), wrong()...) {
		if o := twin(x); !item.Same(x, x) || !item.Same(x, o) || !item.Same(o, x) {
			t.Fatalf("%d: %v is not the same as itself", i, x)
		}
		for j, turn := range turns {
			o := twin(x)
			if turn(&o); item.Same(x, o) || item.Same(o, x) {
				t.Errorf("%d, turn %d: %v is the same as %v", i, j, o, x)
			}
		}
		for place := range min(len(x.Val), 300) {
			o := twin(x)
			if o.Val[place]++; item.Same(x, o) || item.Same(o, x) {
				t.Errorf("%d: another byte at place %d of Val is not told", i, place)
			}
		}
		if n := len(x.Val); n > 0 {
			o := twin(x)
			if o.Val = o.Val[:n-1]; item.Same(x, o) || item.Same(o, x) {
				t.Errorf("%d: a byte fewer is not told", i)
			}
		}
	}
	// Parts that are exchanged are not the same.
	for _, o := range []api.Item{{Key: key(2, 1, 3), Ref: 9}, {Key: key(1, 3, 2), Ref: 9}, {Key: key(3, 2, 1), Ref: 9}, {Key: key(1, 2, 9), Ref: 3}} {
		if item.Same(api.Item{Key: key(1, 2, 3), Ref: 9}, o) {
			t.Errorf("%v is the same as others", o)
		}
	}
	if !item.Same(api.Item{}, api.Item{Val: []byte{}}) || !item.Same(api.Item{Val: []byte{}}, api.Item{}) {
		t.Error("a Val without bytes is another one than none")
	}
	if x := val(40); !item.Same(api.Item{Val: x[:5]}, api.Item{Val: val(5)}) {
		t.Error("spare room is told")
	}
}

// P5.1: all fields, of items that may be and others.
func TestTwin(t *testing.T) {
	for i, x := range append(items(), wrong()...) {
		if o := item.Twin(x); !plainSame(o, x) {
			t.Errorf("%d: Twin(%v) = %v", i, x, o)
		}
	}
}

// twin is x in other memory.
func twin(x api.Item) api.Item {
	x.Val = slices.Clone(x.Val)
	return x
}

// spoil turns every byte of b and of its spare room.
func spoil(b []byte) {
	b = b[:cap(b)]
	for i := range b {
		b[i] ^= 0xff
	}
}

// P5.3: what is handed in, its spare room too, stays as it was.
func TestReadsAlone(t *testing.T) {
	for many := range 13 {
		x := api.Item{Key: key(1, 2, 3), Ref: 9, Val: val(200)[:many]}
		other := api.Item{Key: key(1, 2, 3), Ref: 9, Val: val(200)[:many]}
		long := api.Item{Key: key(1, 2, 3), Ref: 9, Val: val(200)[:many+13]}
		bad := api.Item{Key: key(1, 2, 3), Ref: 7, Val: val(200)[:many]}
		whole := append(plain(x), val(200)...)
		block := bytes.Clone(whole)
		high := append(plain(long), val(200)...)
		highWas := bytes.Clone(high)
		for i, ask := range []func(){
			func() { item.Check(x) },
			func() { item.Check(long) },
			func() { item.Write(x) },
			func() { item.Write(long) },
			func() { item.Write(bad) },
			func() { item.Same(x, other) },
			func() { item.Same(other, long) },
			func() { item.Twin(x) },
			func() { item.Twin(long) },
			func() { item.Twin(bad) },
			func() { item.Read(block) },
			func() { item.Read(block[:12+many]) },
			func() { item.Read(block[:11+many]) },
			func() { item.Read(high) },
			func() {
				b, _ := item.Write(x)
				_ = append(b, 1, 2, 3)
			},
			func() {
				y, _, _ := item.Read(block)
				_ = append(y.Val, 0, 0, 0)
			},
			func() {
				y := item.Twin(x)
				_ = append(y.Val, 0, 0, 0)
			},
		} {
			ask()
			for _, y := range []api.Item{x, other, long, bad} {
				if !bytes.Equal(y.Val[:200], val(200)) {
					t.Fatalf("%d: a value, or its spare room, was turned", i)
				}
			}
			if !bytes.Equal(block, whole) || !bytes.Equal(high, highWas) {
				t.Fatalf("%d: bytes were turned", i)
			}
		}
	}
}

// P5.3: bytes that are answered share no memory with the item, nor with an earlier or a later answer.
func TestWriteAnswersNewMemory(t *testing.T) {
	for many := range 13 {
		x := api.Item{Key: key(1, 2, 3), Ref: 9, Val: val(200)[:many]}
		want := plain(x)
		first, _ := item.Write(x)
		second, _ := item.Write(x)
		spoil(second)
		if !bytes.Equal(first, want) || !bytes.Equal(x.Val[:200], val(200)) {
			t.Errorf("%d: what is done to an answer is seen in an earlier one, or in the item", many)
		}
		spoil(x.Val)
		if !bytes.Equal(first, want) {
			t.Errorf("%d: what is done to the item is seen in the answer", many)
		}
		spoil(x.Val)
		spoil(first)
		if third, e := item.Write(x); e != api.OK || !bytes.Equal(third, want) {
			t.Errorf("%d: a later answer is %v, %d", many, third, e)
		}
	}
}

// P5.3: an item that is read shares no memory with the bytes, those behind it neither, nor with another answer.
func TestReadAnswersNewMemory(t *testing.T) {
	for many := range 13 {
		want := api.Item{Key: key(1, 2, 3), Ref: 9, Val: val(many)}
		b := append(plain(want), val(200)...)
		was := bytes.Clone(b)
		for _, shown := range [][]byte{b, b[:12+many], b[: 12+many : 12+many]} {
			first, _, _ := item.Read(shown)
			second, _, _ := item.Read(shown)
			spoil(second.Val)
			if !plainSame(first, want) || !bytes.Equal(b, was) {
				t.Errorf("%d: what is done to an answer is seen in an earlier one, or in the bytes", many)
			}
			spoil(b)
			if !plainSame(first, want) {
				t.Errorf("%d: what is done to the bytes is seen in the answer", many)
			}
			spoil(b)
			spoil(first.Val)
			if third, size, e := item.Read(shown); e != api.OK || size != 12+many || !plainSame(third, want) {
				t.Errorf("%d: a later answer is %v, %d, %d", many, third, size, e)
			}
		}
	}
}

// P5.3, P5.1: a twin shares no memory with its item, spare room neither, nor with another twin; of items that may not be, too.
func TestTwinAnswersNewMemory(t *testing.T) {
	for _, ref := range []int{0, 9, 7, -1, 256} {
		for _, many := range []int{0, 1, 2, 11, 12, 13, 14, 100, 199, 200} {
			x := api.Item{Key: key(1, 2, 3), Ref: ref, Val: val(200)[:many]}
			want := api.Item{Key: key(1, 2, 3), Ref: ref, Val: val(200)[:many]}
			first, second := item.Twin(x), item.Twin(x)
			spoil(second.Val)
			if !plainSame(first, want) || !bytes.Equal(x.Val[:200], val(200)) {
				t.Errorf("%d, %d: what is done to a twin is seen in another one, or in the item", ref, many)
			}
			spoil(x.Val)
			if !plainSame(first, want) {
				t.Errorf("%d, %d: what is done to the item is seen in its twin", ref, many)
			}
			spoil(x.Val)
			spoil(first.Val)
			if third := item.Twin(x); !plainSame(third, want) {
				t.Errorf("%d, %d: a later twin is %v", ref, many, third)
			}
		}
	}
}

// P5.4: of two keys that are not the same just one stands ahead; of two that are none.
func TestJustOneIsAhead(t *testing.T) {
	for _, a := range keys() {
		for _, b := range keys() {
			if one, two := item.Less(a, b), item.Less(b, a); one && two || (one || two) != (a != b) {
				t.Errorf("Less(%v, %v) = %v, and turned %v", a, b, one, two)
			}
		}
	}
}

// P5.4: what stands ahead of what stands ahead stands ahead.
func TestAheadOfAhead(t *testing.T) {
	all := keys()
	slices.Reverse(all)
	for _, a := range all {
		for _, b := range all {
			if !item.Less(a, b) {
				continue
			}
			for _, c := range all {
				if item.Less(b, c) && !item.Less(a, c) {
					t.Fatalf("%v, %v, %v", a, b, c)
				}
			}
		}
	}
}

// P5.4: items and their bytes are told by one another, many in a row too.
func TestToldByOneAnother(t *testing.T) {
	var row []byte
	for i, x := range items() {
		b, e := item.Write(x)
		if e != api.OK {
			t.Fatal(i, e)
		}
		y, size, e := item.Read(b)
		if e != api.OK || size != len(b) || !item.Same(y, x) || !plainSame(y, x) {
			t.Fatalf("%d: %v, %d, %d, was written as %v", i, y, size, e, x)
		}
		if again, e := item.Write(y); e != api.OK || !bytes.Equal(again, b) {
			t.Fatalf("%d: %v, %d, was read of %v", i, again, e, b)
		}
		row = append(row, b...)
	}
	for i, want := range items() {
		x, size, e := item.Read(row)
		if e != api.OK || !plainSame(x, want) {
			t.Fatalf("%d in a row: %v, %d", i, x, e)
		}
		row = row[size:]
	}
	if unread(t, "the row's end", row); len(row) != 0 {
		t.Errorf("%d bytes are left", len(row))
	}
	// Of any bytes: either they are read, and begin with what is written of it, or they are refused.
	for at := range 24 {
		for c := range 256 {
			b := append(plain(api.Item{Key: key(1, 0x04030201, 0x08070605), Ref: 9, Val: val(12)}), val(3)...)
			b[at] = byte(c)
			x, size, e := item.Read(b)
			if e != api.OK {
				unread(t, "a byte turned", b)
			} else if !bytes.Equal(plain(x), b[:size]) {
				t.Fatalf("byte %d at %d is read as %v, %d", c, at, x, size)
			}
		}
	}
}

// The chapter's examples.
func TestExamples(t *testing.T) {
	if !item.Less(key(1, 5, 0), key(1, 5, 1)) {
		t.Error("Less(1 5 0, 1 5 1)")
	}
	if item.Less(key(2, 0, 0), key(1, 9, 9)) {
		t.Error("Less(2 0 0, 1 9 9)")
	}
	if item.Less(key(1, 5, 0), key(1, 5, 0)) {
		t.Error("Less(1 5 0, 1 5 0)")
	}
	b, e := item.Write(api.Item{Key: key(1, 2, 3), Ref: 9, Val: []byte{7}})
	if e != api.OK || !bytes.Equal(b, []byte{1, 2, 0, 0, 0, 3, 0, 0, 0, 9, 0, 1, 7}) {
		t.Error("Write(1 2 3, Ref 9, Val 7)", b, e)
	}
	if e := item.Check(api.Item{Ref: 7}); e != api.ErrBad {
		t.Error("Check(Ref 7)", e)
	}
	if e := item.Check(api.Item{Val: make([]byte, 13)}); e != api.ErrBad {
		t.Error("Check(Val of 13 bytes)", e)
	}
	unread(t, "Read(none)", nil)
}

// The chapter's error, and its limits, have its numbers.
func TestErrors(t *testing.T) {
	if api.ErrBad != 8 || api.First != 8 || api.Blocks != 256 || api.MaxVal != 12 {
		t.Error(int(api.ErrBad), api.First, api.Blocks, api.MaxVal)
	}
}
