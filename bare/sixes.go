package bare

import (
	"iter"
	"strings"
)

const (
	octetBits = 8
	sixBits   = 6
	// letters are those of 0 to 63.
	letters = "ABCDEFGHIJKLMNOPQRSTUVWXYZabcdefghijklmnopqrstuvwxyz0123456789+/"
)

// Sixes is b's bytes by sixes of bits: P12.3.
func Sixes(b string) string {
	var o strings.Builder
	for six := range sixes(b) {
		o.WriteByte(letters[six])
	}
	for o.Len()&3 != 0 {
		o.WriteByte('=')
	}
	return o.String()
}

// Unsix is the bytes whose sixes s is: P12.3.
func Unsix(s string) (string, bool) {
	var o strings.Builder
	var b string
	for c := range octets(s) {
		o.WriteByte(c)
	}
	b = o.String()
	// Bytes have one text alone, so that whatever else is wrong with s, it is not the one of these.
	if Sixes(b) != s {
		goto none
	}
	return b, true
none:
	return "", false
}

// sixes gives the sixes of bits of b, the last one filled with noughts.
func sixes(b string) iter.Seq[uint8] {
	return func(yield func(uint8) bool) {
		bits, used := uint(0), 0 // what fills no six yet
		for _, c := range each(b) {
			bits, used = bits<<octetBits|uint(c), used+octetBits
			for ; used >= sixBits; used -= sixBits {
				if !yield(uint8(bits >> (used - sixBits) & (1<<sixBits - 1))) {
					return
				}
			}
		}
		if used > 0 {
			yield(uint8(bits << (sixBits - used) & (1<<sixBits - 1)))
		}
	}
}

// octets gives the bytes that the letters of s fill; what is no letter, and what fills no byte, is passed over.
func octets(s string) iter.Seq[byte] {
	return func(yield func(byte) bool) {
		bits, used := uint(0), 0 // what fills no byte yet
		for _, c := range each(s) {
			six := strings.IndexByte(letters, c)
			if six < 0 {
				continue
			}
			bits, used = bits<<sixBits|uint(six), used+sixBits
			if used < octetBits {
				continue
			}
			used -= octetBits
			if !yield(byte(bits >> used)) {
				return
			}
		}
	}
}
