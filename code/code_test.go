package code_test

import (
	"bytes"
	"math"
	"slices"
	"testing"

	"scionry/api"
	"scionry/code"
)

// The signatures are the chapter's, to the letter.
var (
	_ func(int) ([]byte, api.Errno)         = code.Two
	_ func(uint32) []byte                   = code.Four
	_ func([]byte, int) (int, api.Errno)    = code.GetTwo
	_ func([]byte, int) (uint32, api.Errno) = code.GetFour
)

// fours are numbers of four bytes: both ends, the ends of each byte, and some
// between whose bytes all differ.
var fours = []uint32{
	0, 1, 2, 127, 128, 254, 255, 256, 257, 258,
	1<<15 - 1, 1 << 15, 1<<16 - 1, 1 << 16, 1<<16 + 1,
	1<<24 - 1, 1 << 24, 1<<24 + 1,
	1<<31 - 1, 1 << 31, 1<<31 + 1, 1<<32 - 2, 1<<32 - 1,
	0x12345678, 0x78563412, 0x00ff00ff, 0xff00ff00, 0x80808080,
}

// places are some from which a list of that length has not all of many bytes:
// one beyond each end first, then those whose sums wrap round.
func places(length, many int) []int {
	return []int{
		length - many + 1, -1, length - many + 2, length - 1, length, length + 1,
		-2, -many, -length - 1,
		math.MaxInt, math.MaxInt - 1, math.MaxInt - many, math.MaxInt - many + 1,
		math.MinInt, math.MinInt + 1, math.MinInt + many,
	}
}

// P1.1: all numbers of two bytes.
func TestTwo(t *testing.T) {
	for n := range 1 << 16 {
		b, e := code.Two(n)
		if want := []byte{byte(n % 256), byte(n / 256)}; e != api.OK || !bytes.Equal(b, want) {
			t.Fatalf("Two(%d) = %v, %d, want %v", n, b, e, want)
		}
	}
}

// P1.1: numbers that are none of two bytes, one beyond each end first.
func TestTwoRefuses(t *testing.T) {
	for _, n := range []int{
		-1, 1 << 16, -2, -256, -1 << 16, 1<<16 + 1, 1 << 24, 1 << 31, 1 << 32,
		1<<32 + 5, -1 << 32, math.MaxInt, math.MinInt,
	} {
		if b, e := code.Two(n); e != api.ErrArg || len(b) != 0 {
			t.Errorf("Two(%d) = %v, %d, want no bytes, ErrArg", n, b, e)
		}
	}
}

// P1.1: each byte of a number of four stands at its place.
func TestFour(t *testing.T) {
	for _, n := range fours {
		want := []byte{
			byte(n % 256), byte(n / 256 % 256), byte(n / 65536 % 256), byte(n / 16777216),
		}
		if b := code.Four(n); !bytes.Equal(b, want) {
			t.Errorf("Four(%d) = %v, want %v", n, b, want)
		}
	}
	for c := range 256 {
		for place := range 4 {
			want := make([]byte, 4)
			want[place] = byte(c)
			if b := code.Four(uint32(c) << (8 * place)); !bytes.Equal(b, want) {
				t.Errorf("byte %d at %d: %v", c, place, b)
			}
		}
	}
}

// P1.2: all pairs of bytes, from the first place on and from the last one.
func TestGetTwo(t *testing.T) {
	for hi := range 256 {
		for lo := range 256 {
			b := []byte{byte(lo), byte(hi), byte(lo), byte(hi)}
			want := lo + 256*hi
			for _, at := range []int{0, 2} {
				if n, e := code.GetTwo(b, at); n != want || e != api.OK {
					t.Fatalf("GetTwo(%v, %d) = %d, %d, want %d", b, at, n, e, want)
				}
			}
			if n, e := code.GetTwo(b, 1); n != hi+256*lo || e != api.OK {
				t.Fatalf("GetTwo(%v, 1) = %d, %d, want %d", b, n, e, hi+256*lo)
			}
		}
	}
}

// P1.2: the place tells which four bytes are the number's.
func TestGetFour(t *testing.T) {
	b := []byte{1, 2, 3, 4, 5, 250, 251, 252, 253}
	for at, want := range []uint32{
		0x04030201, 0x05040302, 0xfa050403, 0xfbfa0504, 0xfcfbfa05, 0xfdfcfbfa,
	} {
		if n, e := code.GetFour(b, at); n != want || e != api.OK {
			t.Errorf("GetFour(%v, %d) = %#x, %d, want %#x", b, at, n, e, want)
		}
	}
}

// P1.2: just those places are refused from which not all bytes are there.
func TestGetRefuses(t *testing.T) {
	for length := range 10 {
		b := bytes.Repeat([]byte{7}, length)
		for _, at := range places(length, 2) {
			if n, e := code.GetTwo(b, at); n != 0 || e != api.ErrBad {
				t.Errorf("GetTwo of %d bytes at %d = %d, %d, want 0, ErrBad", length, at, n, e)
			}
		}
		for _, at := range places(length, 4) {
			if n, e := code.GetFour(b, at); n != 0 || e != api.ErrBad {
				t.Errorf("GetFour of %d bytes at %d = %d, %d, want 0, ErrBad", length, at, n, e)
			}
		}
		for at := range max(0, length-1) {
			if n, e := code.GetTwo(b, at); n != 0x0707 || e != api.OK {
				t.Errorf("GetTwo of %d bytes at %d = %d, %d, want 1799", length, at, n, e)
			}
		}
		for at := range max(0, length-3) {
			if n, e := code.GetFour(b, at); n != 0x07070707 || e != api.OK {
				t.Errorf("GetFour of %d bytes at %d = %d, %d, want 117901063", length, at, n, e)
			}
		}
	}
}

// P1.2: no bytes have no number, and what is in the spare room is not there.
func TestGetOfNoBytes(t *testing.T) {
	for _, b := range [][]byte{nil, {}, make([]byte, 0, 8), make([]byte, 8)[:1]} {
		for _, at := range []int{0, 1, 2, 4, -1, math.MaxInt, math.MinInt} {
			if n, e := code.GetTwo(b, at); n != 0 || e != api.ErrBad {
				t.Errorf("GetTwo(%v, %d) = %d, %d, want 0, ErrBad", b, at, n, e)
			}
			if n, e := code.GetFour(b, at); n != 0 || e != api.ErrBad {
				t.Errorf("GetFour(%v, %d) = %d, %d, want 0, ErrBad", b, at, n, e)
			}
		}
	}
	spare := []byte{1, 2, 3, 4, 5, 6, 7, 8}
	if n, e := code.GetTwo(spare[:3], 2); n != 0 || e != api.ErrBad {
		t.Errorf("GetTwo into the spare room = %d, %d, want 0, ErrBad", n, e)
	}
	if n, e := code.GetFour(spare[:6], 3); n != 0 || e != api.ErrBad {
		t.Errorf("GetFour into the spare room = %d, %d, want 0, ErrBad", n, e)
	}
}

// P1.3: bytes handed in, their spare room too, stay as they were.
func TestReadsAlone(t *testing.T) {
	whole := []byte{9, 8, 7, 6, 5, 4, 3, 2, 1, 255}
	was := slices.Clone(whole)
	b := whole[1:7]
	for at := -2; at < 12; at++ {
		code.GetTwo(b, at)
		code.GetFour(b, at)
		if !bytes.Equal(whole, was) {
			t.Fatalf("at %d: %v, were %v", at, whole, was)
		}
	}
}

// P1.3: what is answered shares no memory with what was answered before, and
// what is done to it (its spare room too) is not seen in a later answer.
func TestAnswersNewMemory(t *testing.T) {
	answers := []func() []byte{
		func() []byte { b, _ := code.Two(0); return b },
		func() []byte { b, _ := code.Two(258); return b },
		func() []byte { b, _ := code.Two(1<<16 - 1); return b },
		func() []byte { return code.Four(0) },
		func() []byte { return code.Four(0x04030201) },
		func() []byte { return code.Four(1<<32 - 1) },
	}
	for i, answer := range answers {
		first := answer()
		want := slices.Clone(first)
		second := answer()
		spoil(second)
		if !bytes.Equal(first, want) {
			t.Errorf("%d: the first answer is %v by the second one, was %v", i, first, want)
		}
		spoil(first)
		if third := answer(); !bytes.Equal(third, want) {
			t.Errorf("%d: a later answer is %v, want %v", i, third, want)
		}
	}
}

// spoil turns every byte of b and of its spare room.
func spoil(b []byte) {
	b = b[:cap(b)]
	for i := range b {
		b[i] ^= 0xff
	}
}

// P1.4: what is put is got, wherever it stands, whatever is behind.
func TestPutIsGot(t *testing.T) {
	for ahead := range 6 {
		for _, behind := range [][]byte{nil, {0}, {255}, {1, 2, 3, 4, 5}, {255, 255, 255, 255}} {
			head := bytes.Repeat([]byte{0xa5}, ahead)
			for n := 0; n < 1<<16; n += 51 {
				two, _ := code.Two(n)
				b := slices.Concat(head, two, behind)
				if got, e := code.GetTwo(b, ahead); got != n || e != api.OK {
					t.Fatalf("GetTwo(%v, %d) = %d, %d, want %d", b, ahead, got, e, n)
				}
			}
			for _, n := range fours {
				b := slices.Concat(head, code.Four(n), behind)
				if got, e := code.GetFour(b, ahead); got != n || e != api.OK {
					t.Fatalf("GetFour(%v, %d) = %d, %d, want %d", b, ahead, got, e, n)
				}
			}
		}
	}
}

// P1.4: what is got is put as just these bytes.
func TestGotIsPut(t *testing.T) {
	b := make([]byte, 1<<12)
	for i := range b {
		b[i] = byte(i*i*31 + i>>3)
	}
	for at := range len(b) - 3 {
		n, _ := code.GetTwo(b, at)
		if two, e := code.Two(n); e != api.OK || !bytes.Equal(two, b[at:at+2]) {
			t.Fatalf("Two(%d) = %v, %d, want %v", n, two, e, b[at:at+2])
		}
		m, _ := code.GetFour(b, at)
		if four := code.Four(m); !bytes.Equal(four, b[at:at+4]) {
			t.Fatalf("Four(%d) = %v, want %v", m, four, b[at:at+4])
		}
	}
}

// The chapter's examples.
func TestExamples(t *testing.T) {
	if b, e := code.Two(258); !bytes.Equal(b, []byte{2, 1}) || e != api.OK {
		t.Error("Two(258)", b, e)
	}
	if b, e := code.Two(65536); len(b) != 0 || e != api.ErrArg {
		t.Error("Two(65536)", b, e)
	}
	if b, e := code.Two(-1); len(b) != 0 || e != api.ErrArg {
		t.Error("Two(-1)", b, e)
	}
	if b := code.Four(1); !bytes.Equal(b, []byte{1, 0, 0, 0}) {
		t.Error("Four(1)", b)
	}
	if n, e := code.GetTwo([]byte{7, 2, 1}, 1); n != 258 || e != api.OK {
		t.Error("GetTwo(7 2 1, 1)", n, e)
	}
	if n, e := code.GetTwo([]byte{7}, 0); n != 0 || e != api.ErrBad {
		t.Error("GetTwo(7, 0)", n, e)
	}
	if n, e := code.GetFour([]byte{1, 0, 0, 0}, 0); n != 1 || e != api.OK {
		t.Error("GetFour(1 0 0 0, 0)", n, e)
	}
	if n, e := code.GetFour([]byte{1, 0, 0, 0}, -1); n != 0 || e != api.ErrBad {
		t.Error("GetFour(1 0 0 0, -1)", n, e)
	}
}

// The chapter's errors have its numbers.
func TestErrors(t *testing.T) {
	if api.ErrArg != 2 || api.ErrBad != 8 {
		t.Error(int(api.ErrArg), int(api.ErrBad))
	}
}
