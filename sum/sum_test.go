package sum_test

import (
	"bytes"
	"hash/crc32"
	"slices"
	"testing"

	"scionry/api"
	"scionry/sum"
)

// The signatures are the chapter's, to the letter.
var (
	_ func([]byte) uint32              = sum.Of
	_ func([]byte) ([]byte, api.Errno) = sum.Seal
	_ func([]byte) ([]byte, api.Errno) = sum.Open
)

// plain is the sum of b as the chapter's words tell it, a bit at a time.
func plain(b []byte) uint32 {
	s := uint32(1<<32 - 1)
	for _, c := range b {
		s ^= uint32(c)
		for range 8 {
			odd := s%2 == 1
			s /= 2
			if odd {
				s ^= 0xedb88320
			}
		}
	}
	return s ^ (1<<32 - 1)
}

// sealed is the block that is sealed and has b, told by the chapter's words.
func sealed(b []byte) []byte {
	body := make([]byte, 124)
	copy(body, b)
	n := plain(body)
	return append([]byte{
		byte(n % 256), byte(n / 256 % 256), byte(n / 65536 % 256), byte(n / 16777216),
	}, body...)
}

// some is many bytes that differ from place to place, and by seed.
func some(many, seed int) []byte {
	b := make([]byte, many)
	for i := range b {
		b[i] = byte(i*i*31 + i*seed + i>>3 + seed*97)
	}
	return b
}

// bodies are some of each kind: none, few, all but one, all that may be; noughts, ones, and bytes that differ.
func bodies() [][]byte {
	return [][]byte{
		nil, {}, {0}, {1}, {255}, {1, 2}, {0, 0, 0, 0, 7}, []byte("123456789"),
		some(123, 3), some(124, 5), make([]byte, 124), bytes.Repeat([]byte{255}, 124),
		append(make([]byte, 123), 1), append([]byte{128}, make([]byte, 123)...),
	}
}

// spoil turns every byte of b and of its spare room.
func spoil(b []byte) {
	b = b[:cap(b)]
	for i := range b {
		b[i] ^= 0xff
	}
}

// P2.1: sums that others have told.
func TestOfKnown(t *testing.T) {
	for _, c := range []struct {
		text string
		want uint32
	}{
		{"", 0},
		{"\x00", 0xd202ef8d},
		{"\xff", 0xff000000},
		{"a", 0xe8b7be43},
		{"abc", 0x352441c2},
		{"123456789", 0xcbf43926},
		{"The quick brown fox jumps over the lazy dog", 0x414fa339},
		{string(make([]byte, 32)), 0x190a55ad},
		{string(bytes.Repeat([]byte{255}, 32)), 0xff6cab0b},
		{string(make([]byte, 256)), 0x0d968558},
	} {
		if s := sum.Of([]byte(c.text)); s != c.want {
			t.Errorf("Of(%q) = %08x, want %08x", c.text, s, c.want)
		}
	}
}

// P2.1: no bytes have the sum 0, and what is in the spare room is not there.
func TestOfNoBytes(t *testing.T) {
	for _, b := range [][]byte{nil, {}, make([]byte, 0, 9), some(9, 1)[:0], some(9, 1)[9:]} {
		if s := sum.Of(b); s != 0 {
			t.Errorf("Of of no bytes (room for %d) = %08x", cap(b), s)
		}
	}
	b := []byte("123456789abc")
	if s := sum.Of(b[:9]); s != 0xcbf43926 {
		t.Errorf("Of with spare room = %08x", s)
	}
}

// P2.1: all texts of one byte and of two.
func TestOfFew(t *testing.T) {
	for one := range 256 {
		if b := []byte{byte(one)}; sum.Of(b) != plain(b) {
			t.Fatalf("Of(%v) = %08x, want %08x", b, sum.Of(b), plain(b))
		}
		for two := range 256 {
			if b := []byte{byte(one), byte(two)}; sum.Of(b) != plain(b) {
				t.Fatalf("Of(%v) = %08x, want %08x", b, sum.Of(b), plain(b))
			}
		}
	}
}

// P2.1: texts of all lengths up to some, and long ones.
func TestOfMany(t *testing.T) {
	lengths := []int{1<<10 - 1, 1 << 10, 1<<10 + 1, 1<<16 + 3}
	for n := range 300 {
		lengths = append(lengths, n)
	}
	for _, n := range lengths {
		for _, b := range [][]byte{some(n, 7), make([]byte, n), bytes.Repeat([]byte{255}, n)} {
			s := sum.Of(b)
			if want := plain(b); s != want || s != crc32.ChecksumIEEE(b) {
				t.Fatalf("Of of %d bytes = %08x, want %08x", n, s, want)
			}
			if again := sum.Of(b); again != s {
				t.Fatalf("Of of the same %d bytes = %08x, then %08x", n, s, again)
			}
		}
	}
}

// P2.1: what may be sealed, up to 124 bytes, is the sum of what stands behind it, the lowest byte first, then the bytes, then noughts.
func TestSeal(t *testing.T) {
	for n := range 125 {
		for seed := range 3 {
			b := some(n, seed)
			if block, e := sum.Seal(b); e != api.OK || !bytes.Equal(block, sealed(b)) {
				t.Fatalf("Seal of %d bytes = %v, %d, want %v", n, block, e, sealed(b))
			}
		}
	}
	for i, b := range bodies() {
		if block, e := sum.Seal(b); e != api.OK || !bytes.Equal(block, sealed(b)) {
			t.Errorf("%d: Seal = %v, %d, want %v", i, block, e, sealed(b))
		}
	}
}

// P2.1: behind the bytes are noughts, not what is in their spare room.
func TestSealSpare(t *testing.T) {
	whole := bytes.Repeat([]byte{9}, 200)
	for n := range 125 {
		if block, e := sum.Seal(whole[:n]); e != api.OK || !bytes.Equal(block, sealed(whole[:n])) {
			t.Fatalf("Seal of %d of 200 bytes = %v, %d", n, block, e)
		}
	}
}

// P2.1: more than 124 bytes, one more first, noughts and others alike.
func TestSealRefuses(t *testing.T) {
	for _, n := range []int{125, 126, 127, 128, 129, 132, 248, 252, 256, 380, 1 << 16} {
		for _, b := range [][]byte{make([]byte, n), some(n, 3)} {
			if block, e := sum.Seal(b); e != api.ErrText || len(block) != 0 {
				t.Errorf("Seal of %d bytes = %v, %d, want no bytes, ErrText", n, block, e)
			}
		}
	}
}

// P2.1: a sealed block, made without Seal, is opened.
func TestOpen(t *testing.T) {
	for i, b := range bodies() {
		want := make([]byte, 124)
		copy(want, b)
		if body, e := sum.Open(sealed(b)); e != api.OK || !bytes.Equal(body, want) {
			t.Errorf("%d: Open = %v, %d, want %v", i, body, e, want)
		}
	}
}

// P2.1: blocks that have not 128 bytes, of whatever bytes, one less and one more first.
func TestOpenLengths(t *testing.T) {
	block := sealed(some(124, 9))
	long := append(slices.Clone(block), block...)
	for _, n := range []int{127, 129, 0, 1, 2, 3, 4, 5, 64, 123, 124, 125, 126, 130, 132, 252, 255, 256} {
		for _, b := range [][]byte{long[:n], make([]byte, n), some(n, 2)} {
			if body, e := sum.Open(b); e != api.ErrText || len(body) != 0 {
				t.Errorf("Open of %d bytes = %v, %d, want no bytes, ErrText", n, body, e)
			}
		}
	}
	if body, e := sum.Open(nil); e != api.ErrText || len(body) != 0 {
		t.Errorf("Open(nil) = %v, %d, want no bytes, ErrText", body, e)
	}
	// Sealed as long as they are, yet not of a block's length.
	for _, n := range []int{4, 5, 127, 129} {
		body := some(n-4, 4)
		s := plain(body)
		b := append([]byte{byte(s), byte(s >> 8), byte(s >> 16), byte(s >> 24)}, body...)
		if body, e := sum.Open(b); e != api.ErrText || len(body) != 0 {
			t.Errorf("Open of %d sealed bytes = %v, %d, want no bytes, ErrText", n, body, e)
		}
	}
	if body, e := sum.Open(long[:128]); e != api.OK || !bytes.Equal(body, block[4:]) {
		t.Errorf("Open of 128 bytes with spare room = %v, %d", body, e)
	}
}

// P2.1: blocks of 128 bytes whose sum is another one, or stands elsewhere.
func TestOpenRefuses(t *testing.T) {
	body := some(124, 6)
	block := sealed(body)
	behind := append(slices.Clone(body), block[:4]...)
	turned := slices.Clone(block)
	slices.Reverse(turned[:4])
	inverse := slices.Clone(block)
	spoil(inverse[:4:4])
	nosum := slices.Clone(block)
	clear(nosum[:4])
	whole := slices.Clone(block)
	s := plain(append(make([]byte, 4), body...))
	copy(whole, []byte{byte(s), byte(s >> 8), byte(s >> 16), byte(s >> 24)})
	for i, b := range [][]byte{
		make([]byte, 128), bytes.Repeat([]byte{255}, 128), some(128, 1),
		behind, turned, inverse, nosum, whole,
	} {
		if got, e := sum.Open(b); e != api.ErrBad || len(got) != 0 {
			t.Errorf("%d: Open = %v, %d, want no bytes, ErrBad", i, got, e)
		}
	}
}

// P2.2: bytes handed in, their spare room too, stay as they were.
func TestReadsAlone(t *testing.T) {
	for n := range 140 {
		whole := some(300, n)
		was := slices.Clone(whole)
		sum.Of(whole[3 : 3+n])
		sum.Seal(whole[3 : 3+n])
		sum.Open(whole[3 : 3+n])
		if !bytes.Equal(whole, was) {
			t.Fatalf("%d bytes are %v, were %v", n, whole, was)
		}
	}
	whole := slices.Concat(some(5, 1), sealed(some(124, 2)), some(50, 3))
	was := slices.Clone(whole)
	if _, e := sum.Open(whole[5:133]); e != api.OK || !bytes.Equal(whole, was) {
		t.Errorf("%v, %d, were %v", whole, e, was)
	}
}

// P2.2: what is answered shares no memory with what was handed in, nor with what was answered before.
func TestAnswersNewMemory(t *testing.T) {
	for name, call := range map[string]func([]byte) ([]byte, api.Errno){
		"Seal": sum.Seal, "Seal of few": func(b []byte) ([]byte, api.Errno) { return sum.Seal(b[:7]) }, "Open": sum.Open,
	} {
		in := sealed(some(124, 8))
		if name != "Open" {
			in = in[4:]
		}
		was := slices.Clone(in)
		first, e := call(in)
		second, f := call(in)
		if e != api.OK || f != api.OK {
			t.Fatalf("%s: %d, %d", name, e, f)
		}
		want := slices.Clone(first)
		spoil(second)
		if !bytes.Equal(first, want) || !bytes.Equal(in, was) {
			t.Errorf("%s: what is done to an answer is seen in %v or %v", name, first, in)
		}
		spoil(first)
		if third, _ := call(in); !bytes.Equal(third, want) || !bytes.Equal(in, was) {
			t.Errorf("%s: a later answer is %v of %v, want %v", name, third, in, want)
		}
		third, _ := call(in)
		spoil(in)
		if !bytes.Equal(third, want) {
			t.Errorf("%s: what is done to the argument is seen in the answer %v", name, third)
		}
	}
}

// P2.3: what is sealed is opened: it, and noughts.
func TestSealedIsOpened(t *testing.T) {
	for n := range 125 {
		for seed := range 4 {
			b := some(n, seed)
			block, _ := sum.Seal(b)
			body, e := sum.Open(block)
			if e != api.OK || len(body) != 124 || !bytes.Equal(body[:n], b) || !bytes.Equal(body[n:], make([]byte, 124-n)) {
				t.Fatalf("%d bytes are sealed, and opened: %v, %d, were %v", n, body, e, b)
			}
			if again, f := sum.Seal(body); f != api.OK || !bytes.Equal(again, block) {
				t.Fatalf("what was opened is sealed: %v, %d, was %v", again, f, block)
			}
		}
	}
}

// P2.3, W1: a sealed block of which one byte is turned, each one, to each other byte.
func TestTurnedIsNotOpened(t *testing.T) {
	for i, b := range bodies() {
		block, _ := sum.Seal(b)
		for at := range block {
			is := block[at]
			for by := 1; by < 256; by++ {
				block[at] = is ^ byte(by)
				if body, e := sum.Open(block); e != api.ErrBad || len(body) != 0 {
					t.Fatalf("%d: byte %d turned by %02x: %v, %d, want no bytes, ErrBad", i, at, by, body, e)
				}
			}
			block[at] = is
		}
		if _, e := sum.Open(block); e != api.OK {
			t.Fatalf("%d: turned back: %d", i, e)
		}
	}
}

// P2.3: a block of noughts is not sealed, though noughts may be.
func TestNoughts(t *testing.T) {
	if body, e := sum.Open(make([]byte, 128)); e != api.ErrBad || len(body) != 0 {
		t.Errorf("Open of noughts = %v, %d, want no bytes, ErrBad", body, e)
	}
	block, e := sum.Seal(make([]byte, 124))
	if e != api.OK || bytes.Equal(block[:4], make([]byte, 4)) {
		t.Errorf("Seal of noughts = %v, %d", block, e)
	}
}

// The chapter's examples.
func TestExamples(t *testing.T) {
	if s := sum.Of(nil); s != 0 {
		t.Errorf("Of(none) %x", s)
	}
	if s := sum.Of([]byte("123456789")); s != 0xcbf43926 {
		t.Errorf("Of(123456789) %x", s)
	}
	block, _ := sum.Seal([]byte{1, 2})
	if body, e := sum.Open(block); e != api.OK || len(body) != 124 || !bytes.Equal(body[:3], []byte{1, 2, 0}) {
		t.Error("Open(Seal(1 2))", body, e)
	}
	if body, e := sum.Open(make([]byte, 128)); len(body) != 0 || e != api.ErrBad {
		t.Error("Open(128 noughts)", body, e)
	}
	if b, e := sum.Seal(make([]byte, 125)); len(b) != 0 || e != api.ErrText {
		t.Error("Seal(125 bytes)", b, e)
	}
	if body, e := sum.Open([]byte{1}); len(body) != 0 || e != api.ErrText {
		t.Error("Open(1)", body, e)
	}
}

// The chapter's errors, and its limit, have its numbers.
func TestErrors(t *testing.T) {
	if api.ErrText != 3 || api.ErrBad != 8 || api.Size != 128 {
		t.Error(int(api.ErrText), int(api.ErrBad), api.Size)
	}
}
