// Package octet is layer 1: numbers in bytes, and bits. See shared/doc/01-octet.md.
package octet

import (
	"bytes"
	"iter"

	"causey/api"
)

const (
	maxSize = 4         // bytes of a number
	maxCode = 30        // bits of a code
	lowBits = 1<<31 - 1 // the bits of a stream's number that count
)

// Put is n in size bytes: P1.1.
func Put(n, size int) ([]byte, api.Errno) {
	var b []byte
	if !sized(size) || n < 0 || n>>(8*size) != 0 {
		goto wrong
	}
	b = make([]byte, 0, size)
	for shift := 8 * (size - 1); shift >= 0; shift -= 8 {
		b = append(b, byte(n>>shift))
	}
	return b, api.OK
wrong:
	return nil, api.ErrArg
}

// Take is the number that stands at place at in size bytes: P1.1.
func Take(b []byte, at, size int) (int, api.Errno) {
	n := 0
	e := standing(b, at, size)
	if e != api.OK {
		goto wrong
	}
	for _, c := range b[at : at+size] {
		n = n<<8 | int(c)
	}
	return n, api.OK
wrong:
	return 0, e
}

// Stream is the stream's number that stands at place at: P1.1.
func Stream(b []byte, at int) (int, api.Errno) {
	n, e := Take(b, at, 4)
	return n & lowBits, e
}

// Bit is the bit of that number: P1.2.
func Bit(b []byte, at int) (int, bool) {
	if at < 0 || at >= room(b) {
		goto none
	}
	return bit(b, at), true
none:
	return 0, false
}

// Bits is the code of many bits that begins with bit at: P1.2.
func Bits(b []byte, at, many int) (int, bool) {
	code := 0
	if !coded(many) || at < 0 || at > room(b) || many > room(b)-at {
		goto none
	}
	for one := range from(b, at, many) {
		code = code<<1 | one
	}
	return code, true
none:
	return 0, false
}

// Lay lays a code of many bits behind the first used bits of b: P1.3.
func Lay(b []byte, used, code, many int) ([]byte, int, api.Errno) {
	var o []byte
	var lay func(one int)
	if !coded(many) || code < 0 || code>>many != 0 {
		goto wrong
	}
	if used < 0 || used > room(b) || len(b) > need(used) {
		goto wrong
	}
	o = make([]byte, need(used+many))
	copy(o, b)
	lay = layer(o, used)
	for one := range of(code, many) {
		lay(one)
	}
	return o, used + many, api.OK
wrong:
	return nil, 0, api.ErrArg
}

// Same tells whether both are the same bytes: P1.3.
func Same(a, b []byte) bool { return bytes.Equal(a, b) }

// sized tells whether a number may stand in so many bytes.
func sized(size int) bool { return size >= 1 && size <= maxSize }

// standing is what is wrong with a number of size bytes at place at.
func standing(b []byte, at, size int) api.Errno {
	if !sized(size) || at < 0 {
		return api.ErrArg
	}
	// at+size could wrap round.
	if at > len(b)-size {
		return api.ErrShort
	}
	return api.OK
}

// coded tells whether a code may have so many bits.
func coded(many int) bool { return many >= 0 && many <= maxCode }

// room is how many bits b has.
func room(b []byte) int { return len(b) << 3 }

// need is how many bytes so many bits stand in.
func need(bits int) int { return (bits + 7) >> 3 }

// bit is bit at of b, which has it.
func bit(b []byte, at int) int { return int(b[at>>3]>>(7-at&7)) & 1 }

// from gives many bits of b, which has them, from bit at on.
func from(b []byte, at, many int) iter.Seq[int] {
	return func(yield func(int) bool) {
		for i := at; i < at+many; i++ {
			if !yield(bit(b, i)) {
				return
			}
		}
	}
}

// of gives the bits of a code, the highest first.
func of(code, many int) iter.Seq[int] {
	return func(yield func(int) bool) {
		for shift := many - 1; shift >= 0; shift-- {
			if !yield(code >> shift & 1) {
				return
			}
		}
	}
}

// layer makes what lays one bit after the other into o, behind its first used ones.
func layer(o []byte, used int) func(one int) {
	// What stands behind the used bits counts for nothing, and would show through those that are laid over it.
	if spare := used & 7; spare != 0 {
		o[used>>3] &= byte(0xff) << (8 - spare)
	}
	return func(one int) {
		o[used>>3] |= byte(one) << (7 - used&7)
		used++
	}
}
