// Package code is layer 1: see shared/doc/01-code.md.
package code

import (
	"slices"

	"scionry/api"
)

// maxTwo is the greatest number of two bytes.
const maxTwo = 1<<16 - 1

// Two is the two bytes of n, the lowest first.
func Two(n int) ([]byte, api.Errno) {
	if n < 0 || n > maxTwo {
		return nil, api.ErrArg
	}
	return []byte{byte(n), byte(n >> 8)}, api.OK
}

// Four is the four bytes of n, the lowest first.
func Four(n uint32) []byte {
	return []byte{byte(n), byte(n >> 8), byte(n >> 16), byte(n >> 24)}
}

// GetTwo is the number whose two bytes b has from at on.
func GetTwo(b []byte, at int) (int, api.Errno) {
	n, e := gather(b, at, 2)
	return int(n), e
}

// GetFour is the number whose four bytes b has from at on.
func GetFour(b []byte, at int) (uint32, api.Errno) {
	return gather(b, at, 4)
}

// gather is the number whose many bytes b has from at on; many is at most 4.
func gather(b []byte, at, many int) (uint32, api.Errno) {
	// at+many could wrap round; len(b)-many can't.
	if at < 0 || at > len(b)-many {
		return 0, api.ErrBad
	}
	n := uint32(0)
	for _, c := range slices.Backward(b[at : at+many]) {
		n = n<<8 | uint32(c)
	}
	return n, api.OK
}
