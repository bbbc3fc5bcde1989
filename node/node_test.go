package node_test

import (
	"bytes"
	"hash/crc32"
	"math"
	"slices"
	"testing"

	"scionry/api"
	"scionry/node"
)

// The signatures are the chapter's, to the letter.
var (
	_ func(api.Node) api.Errno                      = node.Check
	_ func(api.Node) ([]byte, api.Errno)            = node.Write
	_ func([]byte) (api.Node, api.Errno)            = node.Read
	_ func(n api.Node, k api.Key) (at int, is bool) = node.Place
	_ func(a, b api.Node) bool                      = node.Same
	_ func(api.Node) api.Node                       = node.Twin
)

// strayLevels are those of no node: one beyond each end first, then those of which some bytes are right.
var strayLevels = []int{-1, 6, -2, -6, 7, 8, 78, 127, 128, 255, 256, 257, 261, 1 << 16, 1 << 32, 1<<32 + 1, -256, -255, -1 << 32, math.MaxInt, math.MinInt, math.MinInt + 1}

// strayRefs are those of no item: one beyond each end first.
var strayRefs = []int{7, 256, 1, -1, 8 + 256, 1<<16 + 8, 1<<32 + 8, -1<<32 + 9, math.MaxInt, math.MinInt + 8}

// key is a key of these.
func key(kind uint8, id, off uint32) api.Key { return api.Key{Kind: kind, Id: id, Off: off} }

// val is many bytes, no two neighbours the same, none a nought among the first.
func val(many int) []byte {
	b := make([]byte, many)
	for i := range b {
		b[i] = byte(251 - 37*i)
	}
	return b
}

// row is many items whose keys rise, as they may be at that level: of leaves some have all bytes, some none, and the first one no Ref.
func row(level, many int) []api.Item {
	var l []api.Item
	for i := range many {
		x := api.Item{Key: key(2, uint32(3+i/2), uint32(10+5*i)), Ref: 8 + (i*61+level*17)%248}
		if level == 0 {
			x.Val = val([]int{12, 0, 5, 1, 11, 7}[i%6])
			x.Ref *= min(i, 1)
		}
		l = append(l, x)
	}
	return l
}

// of is a node of that level with many items; it may be, if there may be so many.
func of(level, many int) api.Node { return api.Node{Level: level, Items: row(level, many)} }

// keyRows are keys that rise: by one part alone, by one while others fall, side by side, from end to end.
func keyRows() [][]api.Key {
	const most = 1<<32 - 1
	return [][]api.Key{
		{key(0, 0, 0), key(0, 0, 1), key(0, 0, 2), key(0, 0, 3), key(0, 0, 4)},
		{key(4, 9, 0), key(4, 9, 255), key(4, 9, 256), key(4, 9, 1<<31), key(4, 9, most)},
		{key(3, 0, 7), key(3, 1, 7), key(3, 256, 7), key(3, 1<<31, 7), key(3, most, 7)},
		{key(0, 5, 7), key(1, 5, 7), key(127, 5, 7), key(128, 5, 7), key(255, 5, 7)},
		{key(1, 9, 9), key(2, 8, 8), key(3, 7, 7), key(4, 6, 6), key(5, 5, 5)},
		{key(1, 1, 9), key(1, 2, 8), key(1, 3, 7), key(1, 4, 6), key(2, 0, 0)},
		{key(0, 0, 0), key(0, 0, most), key(0, most, 0), key(0, most, most), key(255, most, most)},
		{key(254, most, most), key(255, 0, 0), key(255, 0, 1), key(255, 1, 0), key(255, most, most)},
	}
}

// nodes are some that may be: each level with each number of items, keys that rise each way, and both ends of what the items have.
func nodes() []api.Node {
	l := []api.Node{{}, {Items: []api.Item{}}, {Items: row(0, 9)[:0]}}
	for level := range 6 {
		for many := min(level, 1); many < 6; many++ {
			l = append(l, of(level, many))
			for _, keys := range keyRows() {
				n := of(level, many)
				for i := range n.Items {
					n.Items[i].Key = keys[i]
				}
				l = append(l, n)
			}
		}
		l = append(l, api.Node{Level: level, Items: []api.Item{{Ref: 8}}}, api.Node{Level: level, Items: []api.Item{{Ref: 255, Val: []byte{}}}})
		l = append(l, api.Node{Level: level, Items: []api.Item{{Ref: 77}, {Key: key(0, 0, 1), Ref: 77}, {Key: key(0, 1, 0), Ref: 77, Val: val(30)[:0]}}})
	}
	for many := range 13 {
		n := of(0, 5)
		for i := range n.Items {
			n.Items[i].Val = bytes.Repeat([]byte{byte(i * 63)}, many)
			n.Items[i].Ref = 0
		}
		l = append(l, n, api.Node{Items: []api.Item{{Val: val(many)}}}, api.Node{Items: []api.Item{{Val: val(many)}, {Key: key(0, 0, 1), Ref: 9, Val: val(12 - many)}}})
	}
	for ref := 8; ref < 256; ref++ {
		l = append(l, api.Node{Items: []api.Item{{Ref: ref, Val: val(1)}}}, api.Node{Level: ref % 6, Items: []api.Item{{Ref: ref}, {Key: key(0, 9, 9), Ref: 263 - ref}}})
	}
	return l
}

// turned is the node of that level with many items, one thing of which is another one.
func turned(level, many int, turn func(n *api.Node)) api.Node {
	n := of(level, many)
	turn(&n)
	return n
}

// wrong are nodes that may not be, each for one thing alone, wherever that is.
func wrong() []api.Node {
	var l []api.Node
	for _, level := range strayLevels {
		for many := range 7 {
			l = append(l, api.Node{Level: level, Items: row(1, many)}, api.Node{Level: level, Items: row(0, many)})
		}
	}
	for level := range 6 {
		for _, many := range []int{6, 7, 10, 11, 100, 255, 256, 257, 261} {
			l = append(l, of(level, many))
		}
		for many := 1; many < 6; many++ {
			for at := range many {
				l = append(l, wrongAt(level, many, at)...)
			}
			for at := 1; at < many; at++ {
				l = append(l, fallAt(level, many, at)...)
			}
		}
	}
	for level := 1; level < 6; level++ {
		l = append(l, api.Node{Level: level}, api.Node{Level: level, Items: []api.Item{}}, api.Node{Level: level, Items: row(0, 5)})
	}
	return l
}

// wrongAt are nodes whose item at that place may not be: at all, or at that level.
func wrongAt(level, many, at int) []api.Node {
	var l []api.Node
	for _, ref := range strayRefs {
		l = append(l, turned(level, many, func(n *api.Node) { n.Items[at].Ref = ref }))
	}
	for _, size := range []int{13, 14, 24, 100, 255, 256, 268} {
		l = append(l, turned(level, many, func(n *api.Node) { n.Items[at].Val = val(size) }))
		l = append(l, turned(level, many, func(n *api.Node) { n.Items[at].Val = make([]byte, size) }))
	}
	if level == 0 {
		return l
	}
	for size := 1; size < 13; size++ {
		l = append(l, turned(level, many, func(n *api.Node) { n.Items[at].Val = val(size) }))
		l = append(l, turned(level, many, func(n *api.Node) { n.Items[at].Val = make([]byte, size) }))
	}
	return append(l,
		turned(level, many, func(n *api.Node) { n.Items[at].Ref = 0 }),
		turned(level, many, func(n *api.Node) { n.Items[at].Ref, n.Items[at].Val = 0, val(1) }),
	)
}

// fallAt are nodes whose key at that place does not rise from the one ahead of it, whether others do or not.
func fallAt(level, many, at int) []api.Node {
	var l []api.Node
	add := func(f func(n *api.Node)) { l = append(l, turned(level, many, f)) }
	add(func(n *api.Node) { n.Items[at].Key = n.Items[at-1].Key })
	add(func(n *api.Node) { n.Items[at-1].Key = n.Items[at].Key })
	add(func(n *api.Node) { n.Items[at], n.Items[at-1] = n.Items[at-1], n.Items[at] })
	add(func(n *api.Node) { n.Items[at] = n.Items[at-1] })
	add(func(n *api.Node) { slices.Reverse(n.Items) })
	add(func(n *api.Node) { n.Items[at].Key = key(0, 1<<32-1, 1<<32-1) })
	for i, keys := range keyRows() {
		add(func(n *api.Node) {
			for j := range n.Items {
				n.Items[j].Key = keys[j]
			}
			n.Items[at].Key, n.Items[at-1].Key = n.Items[at-1].Key, n.Items[at].Key
		})
		add(func(n *api.Node) {
			for j := range n.Items {
				n.Items[j].Key = keyRows()[i][j]
			}
			n.Items[at].Key = n.Items[at-1].Key
		})
	}
	return l
}

// ahead tells by the word whether a stands ahead of b.
func ahead(a, b api.Key) bool {
	if a.Kind != b.Kind {
		return a.Kind < b.Kind
	}
	if a.Id != b.Id {
		return a.Id < b.Id
	}
	return a.Off < b.Off
}

// may tells by the chapter's words whether n may be.
func may(n api.Node) bool {
	if n.Level < 0 || n.Level > 5 || len(n.Items) > 5 || n.Level > 0 && len(n.Items) == 0 {
		return false
	}
	for i, x := range n.Items {
		if x.Ref < 0 || x.Ref > 0 && x.Ref < 8 || x.Ref > 255 || len(x.Val) > 12 {
			return false
		}
		if n.Level > 0 && (x.Ref == 0 || len(x.Val) > 0) {
			return false
		}
		if i > 0 && !ahead(n.Items[i-1].Key, x.Key) {
			return false
		}
	}
	return true
}

// plainItem is the bytes of x, by the words of items, whether x may be or not.
func plainItem(x api.Item) []byte {
	b := []byte{
		x.Key.Kind,
		byte(x.Key.Id), byte(x.Key.Id >> 8), byte(x.Key.Id >> 16), byte(x.Key.Id >> 24),
		byte(x.Key.Off), byte(x.Key.Off >> 8), byte(x.Key.Off >> 16), byte(x.Key.Off >> 24),
		byte(x.Ref), byte(x.Ref >> 8),
		byte(len(x.Val)),
	}
	return append(b, x.Val...)
}

// body is what the block of n has behind its sum, by the chapter's words, whether n may be or not, so many items being told.
func body(n api.Node, many int) []byte {
	b := []byte{78, byte(n.Level), byte(many)}
	for _, x := range n.Items {
		b = append(b, plainItem(x)...)
	}
	return b
}

// seal is the sealed block of these bytes, as far as there is room for them, and noughts.
func seal(in []byte) []byte {
	b := make([]byte, 128)
	copy(b[4:], in)
	s := crc32.ChecksumIEEE(b[4:])
	for i := range 4 {
		b[i] = byte(s >> (8 * i))
	}
	return b
}

// plain is the block of n, by the chapter's words.
func plain(n api.Node) []byte { return seal(body(n, len(n.Items))) }

// plainSameItem tells by the word, field by field, whether two items are the same.
func plainSameItem(a, b api.Item) bool {
	if a.Key.Kind != b.Key.Kind || a.Key.Id != b.Key.Id || a.Key.Off != b.Key.Off || a.Ref != b.Ref || len(a.Val) != len(b.Val) {
		return false
	}
	for i := range a.Val {
		if a.Val[i] != b.Val[i] {
			return false
		}
	}
	return true
}

// plainSame tells by the word, field by field, whether two nodes are the same.
func plainSame(a, b api.Node) bool {
	if a.Level != b.Level || len(a.Items) != len(b.Items) {
		return false
	}
	for i := range a.Items {
		if !plainSameItem(a.Items[i], b.Items[i]) {
			return false
		}
	}
	return true
}

// twin is n in other memory.
func twin(n api.Node) api.Node {
	n.Items = slices.Clone(n.Items)
	for i := range n.Items {
		n.Items[i].Val = bytes.Clone(n.Items[i].Val)
	}
	return n
}

// P6.1: each level from 0 to 5, from none (or one, above 0) to five items, keys that rise whichever way.
func TestCheck(t *testing.T) {
	for i, n := range nodes() {
		if e := node.Check(n); e != api.OK || !may(n) {
			t.Errorf("%d: Check(%v) = %d, want OK", i, n, e)
		}
	}
}

// P6.1: levels, numbers of items, items and keys that may not be, wherever.
func TestCheckRefuses(t *testing.T) {
	for i, n := range wrong() {
		if e := node.Check(n); e != api.ErrBad || may(n) {
			t.Errorf("%d: Check(%v) = %d, want ErrBad", i, n, e)
		}
	}
}

// P6.1: all nodes of few items, of few keys, Refs and values, each asked at each level.
func TestCheckOfAll(t *testing.T) {
	var some []api.Item
	for _, k := range []api.Key{key(1, 2, 3), key(1, 3, 2), key(2, 1, 1)} {
		for _, ref := range []int{0, 7, 8, 255} {
			some = append(some, api.Item{Key: k, Ref: ref}, api.Item{Key: k, Ref: ref, Val: val(12)}, api.Item{Key: k, Ref: ref, Val: val(13)})
		}
	}
	var ask func(l []api.Item)
	ask = func(l []api.Item) {
		for level := -1; level < 8; level++ {
			n := api.Node{Level: level, Items: l}
			want := api.ErrBad
			if may(n) {
				want = api.OK
			}
			if e := node.Check(n); e != want {
				t.Fatalf("Check(%v) = %d, want %d", n, e, want)
			}
		}
		if len(l) == 3 {
			return
		}
		for _, x := range some {
			ask(append(l[:len(l):len(l)], x))
		}
	}
	ask(nil)
}

// P6.2: the mark, the level, how many items there are, each of them, noughts behind, the sum ahead.
func TestWrite(t *testing.T) {
	for i, n := range nodes() {
		if b, e := node.Write(n); e != api.OK || !bytes.Equal(b, plain(n)) {
			t.Fatalf("%d: Write(%v) = %v, %d, want %v", i, n, b, e, plain(n))
		}
	}
	// Written out once, so that the helper is held against something.
	n := api.Node{Level: 0, Items: []api.Item{{Key: key(1, 2, 3), Ref: 9, Val: []byte{7}}, {Key: key(1, 0x0d0c0b0a, 0x04030201)}}}
	want := []byte{78, 0, 2, 1, 2, 0, 0, 0, 3, 0, 0, 0, 9, 0, 1, 7, 1, 10, 11, 12, 13, 1, 2, 3, 4, 0, 0, 0}
	b, e := node.Write(n)
	if e != api.OK || len(b) != 128 || !bytes.Equal(b[4:4+len(want)], want) || !bytes.Equal(b[4+len(want):], make([]byte, 124-len(want))) {
		t.Errorf("Write(%v) = %v, %d", n, b, e)
	}
	if s := crc32.ChecksumIEEE(b[4:]); !bytes.Equal(b[:4], []byte{byte(s), byte(s >> 8), byte(s >> 16), byte(s >> 24)}) {
		t.Errorf("the sum of %v is %v", b[4:], b[:4])
	}
	// The fullest one: but one byte is left.
	full := api.Node{}
	for i := range 5 {
		full.Items = append(full.Items, api.Item{Key: key(255, 1<<32-1, uint32(i)), Ref: 255, Val: bytes.Repeat([]byte{255}, 12)})
	}
	if b, e := node.Write(full); e != api.OK || len(b) != 128 || b[126] != 255 || b[127] != 0 {
		t.Errorf("Write of the fullest one = %v, %d", b, e)
	}
}

// P6.2: what may not be is not written.
func TestWriteRefuses(t *testing.T) {
	for i, n := range wrong() {
		if b, e := node.Write(n); e != api.ErrBad || len(b) != 0 {
			t.Errorf("%d: Write(%v) = %v, %d, want no bytes, ErrBad", i, n, b, e)
		}
	}
}

// P6.2: what is written is read, whatever is in the block's spare room.
func TestRead(t *testing.T) {
	for i, want := range nodes() {
		for _, b := range [][]byte{plain(want), append(plain(want), val(200)...)[:128]} {
			if n, e := node.Read(b); e != api.OK || !plainSame(n, want) {
				t.Fatalf("%d: Read = %v, %d, want %v", i, n, e, want)
			}
		}
	}
}

// unread fails, unless b is refused by that error, with no node.
func unread(t *testing.T, what string, b []byte, want api.Errno) {
	t.Helper()
	if n, e := node.Read(b); e != want || !plainSame(n, api.Node{}) {
		t.Errorf("%s: Read(%v) = %v, %d, want none, %d", what, b, n, e, want)
	}
}

// P6.2: a block too short, or too long, whatever it has and whatever is in its spare room.
func TestReadRefusesLengths(t *testing.T) {
	b := append(plain(of(0, 5)), make([]byte, 256)...)
	for n := range len(b) {
		if n != 128 {
			unread(t, "a length", b[:n], api.ErrText)
			unread(t, "noughts", make([]byte, n), api.ErrText)
		}
	}
	unread(t, "nil", nil, api.ErrText)
	unread(t, "without its sum", plain(of(2, 3))[4:], api.ErrText)
	unread(t, "two blocks", append(plain(of(2, 3)), plain(of(2, 3))...), api.ErrText)
}

// P6.2: noughts, and any byte turned, those of the sum and the noughts behind too.
func TestReadRefusesSums(t *testing.T) {
	unread(t, "noughts", make([]byte, 128), api.ErrBad)
	for c := range 256 {
		unread(t, "one byte again and again", bytes.Repeat([]byte{byte(c)}, 128), api.ErrBad)
	}
	for _, n := range []api.Node{{}, of(0, 1), of(0, 5), of(1, 1), of(5, 5)} {
		b := plain(n)
		for at := range b {
			for _, by := range []byte{1, 2, 16, 128, 255} {
				b[at] ^= by
				unread(t, "a byte turned", b, api.ErrBad)
				b[at] ^= by
			}
		}
		unread(t, "no sum", append(make([]byte, 4), b[4:]...), api.ErrBad)
		unread(t, "the sum turned round", append([]byte{b[3], b[2], b[1], b[0]}, b[4:]...), api.ErrBad)
		unread(t, "the sum behind", append(b[4:128:128], b[:4]...), api.ErrBad)
	}
}

// reads fails, unless the block of n is read as n, if that may be, and refused, if not.
func reads(t *testing.T, n api.Node) {
	t.Helper()
	if !may(n) {
		unread(t, "one that may not be", plain(n), api.ErrBad)
	} else if x, e := node.Read(plain(n)); e != api.OK || !plainSame(x, n) {
		t.Errorf("Read = %v, %d, want %v", x, e, n)
	}
}

// P6.2: sealed ones with another mark, each level, each number of items but their own.
func TestReadRefusesHeads(t *testing.T) {
	unread(t, "sealed noughts", seal(nil), api.ErrBad)
	for level := range 6 {
		for many := min(level, 1); many < 6; many++ {
			n := of(level, many)
			for c := range 256 {
				b := body(n, many)
				if b[0] = byte(c); c != 78 {
					unread(t, "a mark", seal(b), api.ErrBad)
				}
				reads(t, api.Node{Level: c, Items: n.Items})
				// Behind no items there are the noughts of one.
				if c != many && (c != 1 || many != 0) {
					unread(t, "a number of items", seal(body(n, c)), api.ErrBad)
				}
			}
		}
		// More items than may be, all of them there.
		for _, many := range []int{6, 7, 8, 9, 10} {
			n := of(level, many)
			for i := range n.Items {
				n.Items[i].Val = nil
				n.Items[i].Ref = 9
			}
			unread(t, "too many items", plain(n), api.ErrBad)
			unread(t, "too many items, five told", seal(body(n, 5)), api.ErrBad)
		}
	}
	if n, e := node.Read(seal([]byte{78, 0, 1})); e != api.OK || !plainSame(n, api.Node{Items: []api.Item{{}}}) {
		t.Errorf("Read of an item of noughts = %v, %d", n, e)
	}
	unread(t, "two items of noughts", seal([]byte{78, 0, 2}), api.ErrBad)
	unread(t, "an item of noughts above the leaves", seal([]byte{78, 1, 1}), api.ErrBad)
	unread(t, "no mark", seal(body(of(0, 2), 2)[1:]), api.ErrBad)
	unread(t, "a byte ahead", seal(append([]byte{0}, body(of(0, 2), 2)...)), api.ErrBad)
	unread(t, "the head turned round", seal([]byte{0, 0, 78}), api.ErrBad)
}

// P6.2: sealed ones of nodes that may not be, as far as bytes tell what these are.
func TestReadRefusesWhatMayNotBe(t *testing.T) {
	many := 0
	for i, n := range wrong() {
		told := n.Level >= 0 && n.Level < 256 && len(body(n, 0)) <= 124
		for _, x := range n.Items {
			told = told && x.Ref >= 0 && x.Ref < 1<<16
		}
		if told {
			many++
			t.Log("case", i)
			unread(t, "one that may not be", plain(n), api.ErrBad)
		}
	}
	if many < 1000 {
		t.Errorf("only %d were asked", many)
	}
	for _, ref := range []int{1, 7, 256, 264, 1<<16 - 1} {
		for at := range 5 {
			unread(t, "a Ref", plain(turned(0, 5, func(n *api.Node) { n.Items[at].Ref = ref })), api.ErrBad)
		}
	}
}

// P6.2: sealed ones that end within an item: within its head, or within its value, whether that may have so many bytes or not.
func TestReadRefusesEnds(t *testing.T) {
	for many := range 256 {
		// A leaf's items with key 0 0 1 and so on, as many as there is room for, and what there is of one more.
		n := api.Node{}
		for i := range min(many, 11) {
			n.Items = append(n.Items, api.Item{Key: key(0, 0, uint32(i)), Ref: 8})
		}
		if b := body(n, many); many > 5 {
			unread(t, "an end within an item", seal(b[:min(len(b), 124)]), api.ErrBad)
			unread(t, "noughts to the end", seal(b[:3]), api.ErrBad)
		}
	}
	// Five that fill the block but for one byte, and six or more told.
	full := of(0, 5)
	for i := range full.Items {
		full.Items[i].Val = val(12)
	}
	for many := 6; many < 256; many++ {
		unread(t, "one byte left", seal(body(full, many)), api.ErrBad)
		unread(t, "one byte left, no nought", seal(append(body(full, many), 1)), api.ErrBad)
	}
	// A value that goes past the end: of the last of some items, the others having as many bytes as may be.
	for ahead := range 5 {
		for size := 13; size < 256; size++ {
			n := api.Node{Items: slices.Clone(full.Items[:ahead+1])}
			n.Items[ahead].Val = bytes.Repeat([]byte{1}, size)
			b := body(n, ahead+1)
			unread(t, "a value that is too long", seal(b[:min(len(b), 124)]), api.ErrBad)
			unread(t, "a value that is too long, of noughts", seal(b[:3+24*ahead+12]), api.ErrBad)
		}
	}
}

// P6.2: sealed ones with another byte than a nought behind their items, wherever.
func TestReadRefusesWhatIsBehind(t *testing.T) {
	for level := range 6 {
		for many := min(level, 1); many < 6; many++ {
			n := of(level, many)
			b := append(body(n, many), make([]byte, 124)...)[:124]
			for at := len(body(n, many)); at < 124; at++ {
				for _, by := range []byte{1, 8, 78, 128, 255} {
					b[at] = by
					unread(t, "a byte behind", seal(b), api.ErrBad)
					b[at] = 0
				}
			}
			unread(t, "all bytes behind", seal(append(body(n, many), bytes.Repeat([]byte{255}, 124)...)[:124]), api.ErrBad)
		}
	}
	// Of the fullest one it is the last byte alone.
	full := of(0, 5)
	for i := range full.Items {
		full.Items[i].Val = val(12)
	}
	for c := range 256 {
		if b := seal(append(body(full, 5), byte(c))); c != 0 {
			unread(t, "the last byte", b, api.ErrBad)
		} else if n, e := node.Read(b); e != api.OK || !plainSame(n, full) {
			t.Errorf("Read of the fullest one = %v, %d", n, e)
		}
	}
}

// place fails, unless k's place in n is told by the words: how many items have keys ahead of it, and whether the one there has it.
func place(t *testing.T, n api.Node, k api.Key) {
	t.Helper()
	want := 0
	for _, x := range n.Items {
		if ahead(x.Key, k) {
			want++
		}
	}
	there := want < len(n.Items) && n.Items[want].Key == k
	if at, is := node.Place(n, k); at != want || is != there {
		t.Errorf("Place(%v, %v) = %d, %v, want %d, %v", n, k, at, is, want, there)
	}
}

// around are the keys next to k, ahead and behind, by each part, and the ends.
func around(k api.Key) []api.Key {
	l := []api.Key{k, key(0, 0, 0), key(255, 1<<32-1, 1<<32-1)}
	for _, by := range []int{-1, 1} {
		l = append(l, key(k.Kind+uint8(by), k.Id, k.Off), key(k.Kind, k.Id+uint32(by), k.Off), key(k.Kind, k.Id, k.Off+uint32(by)))
		l = append(l, key(k.Kind, k.Id+uint32(by), k.Off-uint32(by)), key(k.Kind+uint8(by), k.Id-uint32(by), k.Off))
	}
	return append(l, key(uint8(k.Id), uint32(k.Kind), k.Off), key(k.Kind, k.Off, k.Id))
}

// P6.1: ahead of all, between two, at each item, and behind all.
func TestPlace(t *testing.T) {
	for level := range 6 {
		for many := range 6 {
			n := of(level, many)
			for i := range n.Items {
				n.Items[i].Key = key(7, 7, uint32(10*i+10))
			}
			for k := range uint32(70) {
				want, there := min((int(k)+9)/10-1, many), k%10 == 0 && k > 0 && int(k) <= 10*many
				if k == 0 {
					want = 0
				}
				if at, is := node.Place(n, key(7, 7, k)); at != want || is != there {
					t.Errorf("Place of %d among %d = %d, %v, want %d, %v", k, many, at, is, want, there)
				}
			}
		}
	}
	for _, n := range nodes() {
		place(t, n, key(7, 7, 7))
		for i, x := range n.Items {
			if at, is := node.Place(n, x.Key); at != i || !is {
				t.Errorf("Place(%v, its own at %d) = %d, %v", n, i, at, is)
			}
			for _, k := range around(x.Key) {
				place(t, n, k)
			}
		}
	}
}

// P6.1: of any node: keys that fall, that are there twice, that stand behind greater ones; other levels and items count for nothing.
func TestPlaceInAny(t *testing.T) {
	for i, n := range wrong() {
		t.Log("case", i)
		for _, x := range n.Items[:min(len(n.Items), 6)] {
			for _, k := range around(x.Key) {
				place(t, n, k)
			}
		}
	}
	// All rows of up to six keys out of four.
	var ask func(l []api.Item)
	ask = func(l []api.Item) {
		for k := range uint32(6) {
			place(t, api.Node{Level: len(l) - 2, Items: l}, key(3, k, 3))
		}
		if len(l) == 6 {
			return
		}
		for k := range uint32(4) {
			ask(append(l[:len(l):len(l)], api.Item{Key: key(3, k+1, 3)}))
		}
	}
	ask(nil)
	// It is behind a greater one: it is there, for the item at its place has it. It is ahead of a lesser one: it is not.
	if at, is := node.Place(api.Node{Items: []api.Item{{Key: key(1, 0, 9)}, {Key: key(1, 0, 5)}, {Key: key(1, 0, 3)}}}, key(1, 0, 5)); at != 1 || !is {
		t.Error("of 9, 5, 3 the place of 5:", at, is)
	}
	if at, is := node.Place(api.Node{Items: []api.Item{{Key: key(1, 0, 5)}, {Key: key(1, 0, 3)}}}, key(1, 0, 5)); at != 1 || is {
		t.Error("of 5, 3 the place of 5:", at, is)
	}
	if at, is := node.Place(api.Node{Items: []api.Item{{Key: key(1, 0, 3)}, {Key: key(1, 0, 2)}, {Key: key(1, 0, 1)}}}, key(1, 0, 9)); at != 3 || is {
		t.Error("of 3, 2, 1 the place of 9:", at, is)
	}
	long := api.Node{Level: -1}
	for i := range uint32(3000) {
		long.Items = append(long.Items, api.Item{Key: key(5, i, 0), Ref: -1})
	}
	for _, k := range []uint32{0, 1, 255, 256, 1500, 2999} {
		if at, is := node.Place(long, key(5, k, 0)); at != int(k) || !is {
			t.Errorf("of many the place of %d: %d, %v", k, at, is)
		}
		if at, is := node.Place(long, key(5, k, 1)); at != int(k)+1 || is {
			t.Errorf("of many the place behind %d: %d, %v", k, at, is)
		}
	}
}

// P6.1: one thing that is another one is told, in each field, wherever; of any nodes.
func TestSame(t *testing.T) {
	turns := []func(x *api.Item){
		func(x *api.Item) { x.Key.Kind++ },
		func(x *api.Item) { x.Key.Id++ },
		func(x *api.Item) { x.Key.Id ^= 1 << 31 },
		func(x *api.Item) { x.Key.Off++ },
		func(x *api.Item) { x.Key.Off ^= 1 << 31 },
		func(x *api.Item) { x.Ref++ },
		func(x *api.Item) { x.Ref += 256 },
		func(x *api.Item) { x.Ref += 1 << 32 },
		func(x *api.Item) { x.Ref = -x.Ref - 1 },
		func(x *api.Item) { x.Val = append(bytes.Clone(x.Val), 0) },
		func(x *api.Item) { x.Val = append([]byte{9}, x.Val...) },
		func(x *api.Item) { x.Val = append(bytes.Clone(x.Val[:len(x.Val)/2]), 250, 3) },
	}
	differ := func(a, b api.Node) {
		t.Helper()
		if node.Same(a, b) || node.Same(b, a) {
			t.Errorf("%v is the same as %v", a, b)
		}
	}
	for i, n := range append(nodes(), wrong()...) {
		if o := twin(n); !node.Same(n, n) || !node.Same(n, o) || !node.Same(o, n) {
			t.Fatalf("%d: %v is not the same as itself", i, n)
		}
		for _, by := range []int{1, -1, 6, 256, 1 << 32, math.MinInt} {
			differ(n, api.Node{Level: n.Level + by, Items: n.Items})
		}
		many := len(n.Items)
		differ(n, api.Node{Level: n.Level, Items: append(n.Items[:many:many], api.Item{})})
		differ(n, api.Node{Level: n.Level, Items: append([]api.Item{{Ref: -7}}, n.Items...)})
		for place := range min(many, 12) {
			for _, turn := range turns {
				o := twin(n)
				turn(&o.Items[place])
				differ(n, o)
			}
			o := twin(n)
			o.Items = slices.Delete(o.Items, place, place+1)
			differ(n, o)
			for at := range min(len(n.Items[place].Val), 13) {
				o := twin(n)
				o.Items[place].Val[at]++
				differ(n, o)
			}
		}
	}
	// Items that are exchanged are not the same.
	differ(of(0, 2), turned(0, 2, func(n *api.Node) { slices.Reverse(n.Items) }))
	differ(of(1, 3), turned(1, 3, func(n *api.Node) { slices.Reverse(n.Items) }))
	if !node.Same(api.Node{}, api.Node{Items: []api.Item{}}) || !node.Same(api.Node{Level: 7, Items: []api.Item{}}, api.Node{Level: 7}) {
		t.Error("no items are others than none")
	}
	if !node.Same(api.Node{Items: row(0, 6)[:2]}, of(0, 2)) {
		t.Error("spare room is told")
	}
	if !node.Same(api.Node{Items: []api.Item{{Val: []byte{}}}}, api.Node{Items: []api.Item{{}}}) {
		t.Error("a Val without bytes is another one than none")
	}
}

// P6.1: all fields, of nodes that may be and others.
func TestTwin(t *testing.T) {
	for i, n := range append(nodes(), wrong()...) {
		if o := node.Twin(n); !plainSame(o, n) {
			t.Errorf("%d: Twin(%v) = %v", i, n, o)
		}
	}
}

// roomy is n with spare room behind its items, and behind the bytes of each.
func roomy(n api.Node) api.Node {
	out := api.Node{Level: n.Level}
	for _, x := range append(slices.Clone(n.Items), row(0, 3)...) {
		x.Val = append(x.Val[:len(x.Val):len(x.Val)], val(40)...)[:len(x.Val)]
		out.Items = append(out.Items, x)
	}
	out.Items = out.Items[:len(n.Items)]
	return out
}

// bared is n, its spare room shown as elements and bytes, in other memory.
func bared(n api.Node) api.Node {
	out := api.Node{Level: n.Level, Items: slices.Clone(n.Items[:cap(n.Items)])}
	for i, x := range out.Items {
		out.Items[i].Val = bytes.Clone(x.Val[:cap(x.Val)])
	}
	return out
}

// spoil turns every byte of b and of its spare room.
func spoil(b []byte) {
	b = b[:cap(b)]
	for i := range b {
		b[i] ^= 0xff
	}
}

// wreck turns all that n has, with all its spare room.
func wreck(n api.Node) {
	l := n.Items[:cap(n.Items)]
	for i := range l {
		spoil(l[i].Val)
		l[i] = api.Item{Key: key(99, 98, 97), Ref: -5, Val: []byte{96}}
	}
}

// kinds are nodes of each shape: none, one and more items, at Level 0 and above it, and some that may not be.
func kinds() []api.Node {
	return []api.Node{
		{}, of(0, 1), of(0, 2), of(0, 5), of(1, 1), of(5, 5), of(3, 2),
		of(0, 6), of(1, 0), of(6, 3), of(-1, 2), of(0, 12),
		turned(0, 3, func(n *api.Node) { slices.Reverse(n.Items) }),
		turned(2, 3, func(n *api.Node) { n.Items[2].Ref = 0 }),
		turned(2, 3, func(n *api.Node) { n.Items[1].Val = val(9) }),
		turned(0, 4, func(n *api.Node) { n.Items[3].Val = val(30) }),
	}
}

// P6.3: what is handed in, its spare room too, stays as it was.
func TestReadsAlone(t *testing.T) {
	for _, shape := range kinds() {
		n, other := roomy(shape), roomy(shape)
		was := bared(n)
		block := append(plain(shape), val(100)...)[:128]
		bad := append(seal(append(body(of(0, 3), 3), 1)), val(100)...)[:128]
		blockWas, badWas := bytes.Clone(block[:cap(block)]), bytes.Clone(bad[:cap(bad)])
		for i, ask := range []func(){
			func() { node.Check(n) },
			func() { node.Write(n) },
			func() { node.Place(n, key(2, 4, 20)) },
			func() { node.Place(n, key(255, 0, 0)) },
			func() { node.Same(n, other) },
			func() { node.Same(n, of(0, 2)) },
			func() { node.Twin(n) },
			func() { node.Read(block) },
			func() { node.Read(block[:127]) },
			func() { node.Read(bad) },
			func() {
				b, _ := node.Write(n)
				_ = append(b, 1, 2, 3)
			},
			func() {
				o := node.Twin(n)
				_ = append(o.Items, api.Item{Ref: 3})
				for _, x := range o.Items {
					_ = append(x.Val, 0, 0, 0)
				}
			},
			func() {
				o, _ := node.Read(block)
				_ = append(o.Items, api.Item{Ref: 3})
				for _, x := range o.Items {
					_ = append(x.Val, 0, 0, 0)
				}
			},
		} {
			ask()
			if !plainSame(bared(n), was) || !plainSame(bared(other), was) {
				t.Fatalf("%d: a node, or its spare room, was turned", i)
			}
			if !bytes.Equal(block[:cap(block)], blockWas) || !bytes.Equal(bad[:cap(bad)], badWas) {
				t.Fatalf("%d: a block, or its spare room, was turned", i)
			}
		}
	}
}

// P6.3: a block that is answered shares no memory with the node, nor with an earlier or a later answer.
func TestWriteAnswersNewMemory(t *testing.T) {
	for _, shape := range nodes() {
		n := roomy(shape)
		was := bared(n)
		first, _ := node.Write(n)
		second, _ := node.Write(n)
		spoil(second)
		if !bytes.Equal(first, plain(shape)) || !plainSame(bared(n), was) {
			t.Fatalf("what is done to a block of %v is seen in an earlier one, or in the node", shape)
		}
		spoil(first)
		third, e := node.Write(n)
		if e != api.OK || !bytes.Equal(third, plain(shape)) {
			t.Fatalf("a later block of %v is %v, %d", shape, third, e)
		}
		wreck(n)
		if !bytes.Equal(third, plain(shape)) {
			t.Fatalf("what is done to %v is seen in its block", shape)
		}
	}
}

// P6.3: a node that is read shares no memory with its block, nor with another answer.
func TestReadAnswersNewMemory(t *testing.T) {
	for _, want := range nodes() {
		b := append(plain(want), val(100)...)[:128]
		was := bytes.Clone(b[:cap(b)])
		first, _ := node.Read(b)
		second, _ := node.Read(b)
		wreck(second)
		if !plainSame(first, want) || !bytes.Equal(b[:cap(b)], was) {
			t.Fatalf("what is done to an answer is seen in an earlier one, or in the block: %v", first)
		}
		spoil(b)
		if !plainSame(first, want) {
			t.Fatalf("what is done to the block is seen in the answer: %v", first)
		}
		spoil(b)
		wreck(first)
		if third, e := node.Read(b); e != api.OK || !plainSame(third, want) {
			t.Fatalf("a later answer is %v, %d", third, e)
		}
	}
}

// P6.3, P6.1: a twin shares no memory with its node, spare room neither, nor with another twin; of nodes that may not be, too.
func TestTwinAnswersNewMemory(t *testing.T) {
	for _, shape := range kinds() {
		n := roomy(shape)
		was := bared(n)
		first, second := node.Twin(n), node.Twin(n)
		wreck(second)
		if !plainSame(first, shape) || !plainSame(bared(n), was) {
			t.Fatalf("what is done to a twin of %v is seen in another one, or in the node", shape)
		}
		wreck(first)
		third := node.Twin(n)
		if !plainSame(third, shape) {
			t.Fatalf("a later twin of %v is %v", shape, third)
		}
		wreck(n)
		if !plainSame(third, shape) {
			t.Fatalf("what is done to %v is seen in its twin", shape)
		}
	}
}

// alone fails, if what is done to the bytes of one item of n, or to their spare room, is seen in another one.
func alone(t *testing.T, n api.Node) {
	t.Helper()
	was := twin(n)
	for i, x := range n.Items {
		spoil(x.Val)
		for j, y := range n.Items {
			if i != j && !plainSameItem(y, was.Items[j]) {
				t.Fatalf("what is done to the bytes of item %d is seen in %d", i, j)
			}
		}
		spoil(x.Val)
	}
}

// P6.3: no two lists of a node that is answered share memory, though those that are handed in do.
func TestAnswersShareNothing(t *testing.T) {
	for _, n := range append(nodes(), kinds()...) {
		alone(t, node.Twin(roomy(n)))
		if x, e := node.Read(plain(n)); e == api.OK {
			alone(t, x)
		}
	}
	one := val(12)
	n := api.Node{Level: 1}
	for i := range 7 {
		n.Items = append(n.Items, api.Item{Key: key(9, uint32(20-i), 0), Ref: i, Val: one[i:]})
	}
	alone(t, node.Twin(n))
}

// P6.4: nodes and their blocks are told by one another.
func TestToldByOneAnother(t *testing.T) {
	for i, n := range nodes() {
		b, e := node.Write(n)
		if e != api.OK {
			t.Fatal(i, e)
		}
		x, e := node.Read(b)
		if e != api.OK || !node.Same(x, n) || !plainSame(x, n) {
			t.Fatalf("%d: %v, %d, was written as %v", i, x, e, n)
		}
		if again, e := node.Write(x); e != api.OK || !bytes.Equal(again, b) {
			t.Fatalf("%d: %v, %d, was read of %v", i, again, e, b)
		}
	}
	// Of any sealed block: either it is read, and written as it was, or it is refused.
	for _, n := range []api.Node{{}, of(0, 2), of(0, 5), of(3, 4)} {
		for at := range 124 {
			for c := range 256 {
				in := append(body(n, len(n.Items)), make([]byte, 124)...)[:124]
				in[at] = byte(c)
				b := seal(in)
				x, e := node.Read(b)
				if e != api.OK && (e != api.ErrBad || !plainSame(x, api.Node{})) {
					t.Fatalf("byte %d at %d: %v, %d", c, at, x, e)
				}
				if e == api.OK && (!may(x) || !bytes.Equal(plain(x), b)) {
					t.Fatalf("byte %d at %d is read as %v", c, at, x)
				}
			}
		}
	}
}

// P6.4: in a node that may be all items ahead of a key's place have keys ahead of it, and none from there on.
func TestPlaceParts(t *testing.T) {
	var keys []api.Key
	for _, l := range keyRows() {
		for _, k := range l {
			keys = append(keys, around(k)...)
		}
	}
	for _, n := range nodes() {
		for _, k := range keys {
			at, is := node.Place(n, k)
			if at < 0 || at > len(n.Items) {
				t.Fatalf("Place(%v, %v) = %d", n, k, at)
			}
			for i, x := range n.Items {
				if ahead(x.Key, k) != (i < at) || (x.Key == k) != (is && i == at) {
					t.Fatalf("Place(%v, %v) = %d, %v, but for item %d", n, k, at, is, i)
				}
			}
		}
	}
}

// The chapter's examples.
func TestExamples(t *testing.T) {
	if e := node.Check(api.Node{}); e != api.OK {
		t.Error("Check(no items)", e)
	}
	if e := node.Check(api.Node{Level: 1}); e != api.ErrBad {
		t.Error("Check(Level 1, no items)", e)
	}
	if e := node.Check(api.Node{Items: []api.Item{{Key: key(2, 4, 0)}, {Key: key(2, 4, 0)}}}); e != api.ErrBad {
		t.Error("Check(two items of one key)", e)
	}
	n := api.Node{Items: []api.Item{{Key: key(0, 0, 2)}, {Key: key(0, 0, 4)}, {Key: key(0, 0, 6)}}}
	if at, is := node.Place(n, key(0, 0, 4)); at != 1 || !is {
		t.Error("Place(keys 2, 4, 6; of 4)", at, is)
	}
	if at, is := node.Place(n, key(0, 0, 5)); at != 2 || is {
		t.Error("Place(.., of 5)", at, is)
	}
	if at, is := node.Place(n, key(0, 0, 9)); at != 3 || is {
		t.Error("Place(.., of 9)", at, is)
	}
	b, e := node.Write(api.Node{})
	if e != api.OK {
		t.Error("Write(no items)", e)
	}
	if x, e := node.Read(b); e != api.OK || x.Level != 0 || len(x.Items) != 0 {
		t.Error("Read(Write(no items))", x, e)
	}
	unread(t, "Read(noughts)", make([]byte, 128), api.ErrBad)
}

// The chapter's errors, and its limits, have its numbers.
func TestErrors(t *testing.T) {
	if api.ErrText != 3 || api.ErrBad != 8 {
		t.Error(int(api.ErrText), int(api.ErrBad))
	}
	if api.MaxHeight != 6 || api.MaxFan != 5 || api.MaxVal != 12 || api.Size != 128 {
		t.Error(api.MaxHeight, api.MaxFan, api.MaxVal, api.Size)
	}
}
