package prefix

import (
	"bytes"
	"math"
	"math/big"
	"testing"

	"causey/api"
)

// top is the greatest number that may be told.
const top = 1<<31 - 1

// extremes are numbers that calls must bear wherever they take one.
var extremes = []int{math.MinInt, math.MinInt + 1, -1 << 32, -1 << 31, -256, -8, -1, 0, 1, 2, 3, 4, 5, 6, 7, 8, 9, 15, 16, 64, 255, 256, 65535, top - 1, top, top + 1, 1<<32 - 1, 1 << 32, 1<<35 - 1, 1 << 60, math.MaxInt - 1, math.MaxInt}

// last is the greatest number of so many bits, worked out without a shift.
func last(bits int) int {
	m := 1
	for range bits {
		m *= 2
	}
	return m - 1
}

// numbers are those at which something about a prefix of bits may change, and their neighbours.
func numbers(bits int) []int {
	l := []int{0, 1, top - 1, top}
	for _, at := range []int{0, last(bits), 127, 128, 255, 256} {
		for edge := 1; edge <= top; edge *= 2 {
			for near := -2; near <= 2; near++ {
				if n := at + edge + near; n >= 0 && n <= top {
					l = append(l, n)
				}
			}
		}
	}
	return l
}

// slowPut is n behind a prefix of bits by division alone, with fill bytes behind it that are there for nothing.
func slowPut(n, bits int, upper uint8, fill int) []byte {
	m := last(bits)
	first := int(upper) / (m + 1) * (m + 1)
	if n < m {
		return []byte{byte(first + n)}
	}
	b := []byte{byte(first + m)}
	for n -= m; n >= 128; n /= 128 {
		b = append(b, byte(128+n%128))
	}
	if fill == 0 {
		return append(b, byte(n))
	}
	b = append(b, byte(128+n))
	for range fill - 1 {
		b = append(b, 128)
	}
	return append(b, 0)
}

// slowTake goes through the chapter's sentence on Take, word by word, with numbers that have no bound.
func slowTake(b []byte, bits int) (int, []byte, api.Errno) {
	if bits < 1 || bits > 8 {
		return 0, nil, api.ErrArg
	}
	if len(b) == 0 {
		return 0, nil, api.ErrShort
	}
	m := last(bits)
	sum := big.NewInt(int64(int(b[0]) % (m + 1)))
	goes, part := sum.Int64() == int64(m), big.NewInt(1)
	at := 1
	for ; goes; at++ {
		if at == len(b) {
			return 0, nil, api.ErrShort
		}
		if at == 6 {
			return 0, nil, api.ErrLong
		}
		sum.Add(sum, new(big.Int).Mul(part, big.NewInt(int64(b[at]%128))))
		if sum.Cmp(big.NewInt(top)) > 0 {
			return 0, nil, api.ErrLong
		}
		part.Mul(part, big.NewInt(128))
		goes = b[at] >= 128
	}
	return int(sum.Int64()), b[at:], api.OK
}

// takes holds what Take tells of b against what is asked.
func takes(t *testing.T, b []byte, bits, n int, rest []byte, e api.Errno) {
	t.Helper()
	gotN, gotRest, gotE := Take(b, bits)
	if gotN != n || !bytes.Equal(gotRest, rest) || gotE != e {
		t.Errorf("Take(%x, %d): %d %x %d, not %d %x %d", b, bits, gotN, gotRest, gotE, n, rest, e)
	}
}

// roomy is b with spare room behind it, filled with a mark, and a look at all of it.
func roomy(b []byte) (part, all []byte) {
	all = append(bytes.Clone(b), bytes.Repeat([]byte{0x5a}, 16)...)
	return all[:len(b)], all
}

// P6.1, P6.2: the chapter's examples.
func TestExamples(t *testing.T) {
	for _, c := range []struct {
		n, bits int
		want    []byte
	}{{10, 5, []byte{10}}, {1337, 5, []byte{31, 154, 10}}, {42, 8, []byte{42}}} {
		if b, e := Put(c.n, c.bits, 0); !bytes.Equal(b, c.want) || e != api.OK {
			t.Errorf("Put(%d, %d): %v %d", c.n, c.bits, b, e)
		}
		if Size(c.n, c.bits) != len(c.want) {
			t.Errorf("Size(%d, %d): %d", c.n, c.bits, Size(c.n, c.bits))
		}
		takes(t, c.want, c.bits, c.n, nil, api.OK)
	}
}

// P6.1: the greatest number of each prefix and its neighbours, and the greatest that may be told, written out.
func TestPutEdges(t *testing.T) {
	for _, c := range []struct {
		n, bits int
		want    string
	}{
		{0, 1, "\x00"}, {1, 1, "\x01\x00"}, {2, 1, "\x01\x01"},
		{2, 2, "\x02"}, {3, 2, "\x03\x00"}, {4, 2, "\x03\x01"},
		{6, 3, "\x06"}, {7, 3, "\x07\x00"}, {8, 3, "\x07\x01"},
		{14, 4, "\x0e"}, {15, 4, "\x0f\x00"}, {16, 4, "\x0f\x01"},
		{30, 5, "\x1e"}, {31, 5, "\x1f\x00"}, {32, 5, "\x1f\x01"},
		{62, 6, "\x3e"}, {63, 6, "\x3f\x00"}, {64, 6, "\x3f\x01"},
		{126, 7, "\x7e"}, {127, 7, "\x7f\x00"}, {128, 7, "\x7f\x01"},
		{254, 8, "\xfe"}, {255, 8, "\xff\x00"}, {256, 8, "\xff\x01"},
		{255 + 127, 8, "\xff\x7f"}, {255 + 128, 8, "\xff\x80\x01"},
		{255 + 1<<14 - 1, 8, "\xff\xff\x7f"}, {255 + 1<<14, 8, "\xff\x80\x80\x01"},
		{255 + 1<<21 - 1, 8, "\xff\xff\xff\x7f"}, {255 + 1<<21, 8, "\xff\x80\x80\x80\x01"},
		{255 + 1<<28 - 1, 8, "\xff\xff\xff\xff\x7f"}, {255 + 1<<28, 8, "\xff\x80\x80\x80\x80\x01"},
		{top, 1, "\x01\xfe\xff\xff\xff\x07"}, {top, 5, "\x1f\xe0\xff\xff\xff\x07"}, {top, 8, "\xff\x80\xfe\xff\xff\x07"},
	} {
		if b, e := Put(c.n, c.bits, 0); string(b) != c.want || e != api.OK {
			t.Errorf("Put(%d, %d): %x %d", c.n, c.bits, b, e)
		}
	}
}

// P6.1: all numbers at edges, behind each number of bits, held against a second reading; Size is how many bytes they are.
func TestPut(t *testing.T) {
	for bits := 1; bits <= 8; bits++ {
		for _, n := range numbers(bits) {
			want := slowPut(n, bits, 0, 0)
			if b, e := Put(n, bits, 0); !bytes.Equal(b, want) || e != api.OK {
				t.Errorf("Put(%d, %d): %x %d, not %x", n, bits, b, e, want)
			}
			if Size(n, bits) != len(want) {
				t.Errorf("Size(%d, %d): %d, not %d", n, bits, Size(n, bits), len(want))
			}
		}
	}
}

// P6.1: the upper bits are those of upper, its lowest bits count for nothing, and no other byte has any of it.
func TestPutUpper(t *testing.T) {
	for bits := 1; bits <= 8; bits++ {
		for _, n := range []int{0, 1, last(bits) - 1, last(bits), last(bits) + 1, last(bits) + 128, top} {
			for upper := range 256 {
				want := slowPut(n, bits, uint8(upper), 0)
				if b, e := Put(n, bits, uint8(upper)); !bytes.Equal(b, want) || e != api.OK {
					t.Errorf("Put(%d, %d, %x): %x %d, not %x", n, bits, upper, b, e, want)
				}
			}
		}
	}
	for _, c := range []struct {
		bits  int
		upper uint8
		want  uint8
	}{{1, 0xff, 0xfe}, {4, 0xff, 0xf0}, {5, 0x2f, 0x20}, {5, 0x1f, 0}, {7, 0xff, 0x80}, {7, 0x7f, 0}, {8, 0xff, 0}} {
		if b, e := Put(0, c.bits, c.upper); len(b) != 1 || b[0] != c.want || e != api.OK {
			t.Errorf("Put(0, %d, %x): %x %d", c.bits, c.upper, b, e)
		}
	}
}

// P6.1: bits and numbers that may not be; Size tells 0 there.
func TestPutRefuses(t *testing.T) {
	for _, bits := range extremes {
		for _, n := range extremes {
			may := bits >= 1 && bits <= 8 && n >= 0 && n <= top
			b, e := Put(n, bits, 0xa5)
			if may && (e != api.OK || len(b) == 0) || !may && (e != api.ErrArg || len(b) != 0) {
				t.Errorf("Put(%d, %d): %x %d", n, bits, b, e)
			}
			if Size(n, bits) != len(b) {
				t.Errorf("Size(%d, %d): %d, not %d", n, bits, Size(n, bits), len(b))
			}
		}
	}
}

// P6.2: each first byte, behind each number of bits: its upper bits make no difference, and what stands behind it counts only where the prefix is full.
func TestTakeFirst(t *testing.T) {
	for bits := 1; bits <= 8; bits++ {
		m := last(bits)
		for first := range 256 {
			n, c := first%(m+1), byte(first)
			if n < m {
				takes(t, []byte{c}, bits, n, nil, api.OK)
				takes(t, []byte{c, 0xff, 3}, bits, n, []byte{0xff, 3}, api.OK)
				continue
			}
			takes(t, []byte{c}, bits, 0, nil, api.ErrShort)
			takes(t, []byte{c, 0}, bits, m, nil, api.OK)
			takes(t, []byte{c, 1, 0xff, 3}, bits, m+1, []byte{0xff, 3}, api.OK)
			takes(t, []byte{c, 0x7f}, bits, m+127, nil, api.OK)
			takes(t, []byte{c, 0x80, 1}, bits, m+128, nil, api.OK)
			takes(t, []byte{c, 0xff}, bits, 0, nil, api.ErrShort)
		}
	}
}

// P6.2: longer forms are taken too, as long as there are five bytes behind the first one; one more is too many, though it adds nothing.
func TestTakeLonger(t *testing.T) {
	for bits := 1; bits <= 8; bits++ {
		for _, n := range numbers(bits) {
			if n < last(bits) {
				continue
			}
			for fill := range 7 {
				b := slowPut(n, bits, 0x55, fill)
				behind := []byte{0x80, 0, 0xff}
				if len(b) <= 6 {
					takes(t, b, bits, n, nil, api.OK)
					takes(t, append(b, behind...), bits, n, behind, api.OK)
				} else {
					takes(t, b, bits, 0, nil, api.ErrLong)
					takes(t, append(b, behind...), bits, 0, nil, api.ErrLong)
				}
			}
		}
	}
	takes(t, []byte("\x1f\x80\x80\x80\x80\x00"), 5, 31, nil, api.OK)
	takes(t, []byte("\x1f\x80\x80\x80\x80\x80"), 5, 0, nil, api.ErrShort)
	takes(t, []byte("\x1f\x80\x80\x80\x80\x80\x00"), 5, 0, nil, api.ErrLong)
	takes(t, []byte("\x1f\x80\x80\x80\x80\x80\x80"), 5, 0, nil, api.ErrLong)
}

// P6.2: the greatest number that may be told, and the next one, behind each number of bits.
func TestTakeGreatest(t *testing.T) {
	for bits := 1; bits <= 8; bits++ {
		takes(t, slowPut(top, bits, 0xff, 0), bits, top, nil, api.OK)
		for _, n := range []int{top + 1, top + 2, 1<<32 - 1, 1 << 32, 1<<32 + 5, 1<<35 - 1} {
			b := slowPut(n, bits, 0xff, 0)
			takes(t, b, bits, 0, nil, api.ErrLong)
			takes(t, append(b, 0, 0), bits, 0, nil, api.ErrLong)
			// What is too great is so at the byte that makes it so, whatever it leaves open.
			b[5] |= 0x80
			takes(t, b[:6], bits, 0, nil, api.ErrLong)
		}
	}
	takes(t, []byte("\xff\x80\xfe\xff\xff\x07"), 8, top, nil, api.OK)
	takes(t, []byte("\xff\x81\xfe\xff\xff\x07"), 8, 0, nil, api.ErrLong)
	takes(t, []byte("\xff\x00\xfe\xff\xff\xff"), 8, 255, []byte("\xfe\xff\xff\xff"), api.OK)
	takes(t, []byte("\xff\xff\xff\xff\xff\x08"), 8, 0, nil, api.ErrLong)
	takes(t, []byte("\xff\xff\xff\xff\xff\x88"), 8, 0, nil, api.ErrLong)
	takes(t, []byte("\xff\xff\xff\xff\xff\x7f"), 8, 0, nil, api.ErrLong)
	takes(t, []byte("\xff\xff\xff\xff\xff\xff\xff\xff\xff\xff\xff\x7f"), 8, 0, nil, api.ErrLong)
}

// P6.2: with any of its last bytes left out, a number is short.
func TestTakeShort(t *testing.T) {
	for bits := 1; bits <= 8; bits++ {
		for _, n := range numbers(bits) {
			b := slowPut(n, bits, 0xaa, 0)
			for many := range len(b) {
				takes(t, b[:many], bits, 0, nil, api.ErrShort)
			}
		}
	}
}

// P6.2: bits that may not be go ahead of a first byte that is not there.
func TestTakeRefuses(t *testing.T) {
	for _, bits := range extremes {
		for _, b := range [][]byte{nil, {}, {0}, {0xff}, {0xff, 0xff}, {0x1f, 0x9a, 0x0a, 7}, bytes.Repeat([]byte{0xff}, 9)} {
			n, rest, e := slowTake(b, bits)
			takes(t, b, bits, n, rest, e)
			want, wantE := uint8(0), api.OK
			switch {
			case bits < 1 || bits > 8:
				wantE = api.ErrArg
			case len(b) == 0:
				wantE = api.ErrShort
			default:
				want = uint8(int(b[0]) / (last(bits) + 1) * (last(bits) + 1))
			}
			if u, e := Upper(b, bits); u != want || e != wantE {
				t.Errorf("Upper(%x, %d): %x %d, not %x %d", b, bits, u, e, want, wantE)
			}
		}
	}
}

// P6.2: the upper bits of each first byte stand as they are, the lowest ones are 0; no byte behind it is asked for.
func TestUpper(t *testing.T) {
	for first := range 256 {
		for bits := 1; bits <= 8; bits++ {
			want := uint8(first - first%(last(bits)+1))
			for _, b := range [][]byte{{byte(first)}, {byte(first), 0xff}, {byte(first), 0xff, 0xff, 0xff, 0xff, 0xff, 0xff}} {
				if u, e := Upper(b, bits); u != want || e != api.OK {
					t.Errorf("Upper(%x, %d): %x %d, not %x", b, bits, u, e, want)
				}
			}
		}
	}
	if u, e := Upper([]byte{0xa5}, 4); u != 0xa0 || e != api.OK {
		t.Errorf("%x %d", u, e)
	}
}

// P6.3: what is put is taken, whatever stands behind it; and its upper bits are told.
func TestWhatIsPutIsTaken(t *testing.T) {
	for bits := 1; bits <= 8; bits++ {
		for i, n := range numbers(bits) {
			upper := uint8(i * 37)
			b, e := Put(n, bits, upper)
			if e != api.OK {
				t.Fatal(n, bits, e)
			}
			for _, behind := range []string{"", "\x00", "\x80", "\xff\xff\xff\xff\xff\xff\xff", "\x7f\x01"} {
				all := append(bytes.Clone(b), behind...)
				takes(t, all, bits, n, []byte(behind), api.OK)
				if u, e := Upper(all, bits); int(u) != int(upper)/(last(bits)+1)*(last(bits)+1) || e != api.OK {
					t.Errorf("Upper(%x, %d): %x %d", all, bits, u, e)
				}
			}
		}
	}
}

// tries gives bytes of all kinds that may be taken, many of which go on for long.
func tries(yield func([]byte) bool) {
	tails := []byte{0, 1, 7, 8, 0x7e, 0x7f, 0x80, 0x81, 0x87, 0x88, 0xfe, 0xff}
	var grow func(b []byte, left int) bool
	grow = func(b []byte, left int) bool {
		if !yield(bytes.Clone(b)) {
			return false
		}
		for _, c := range tails {
			if left > 0 && !grow(append(b, c), left-1) {
				return false
			}
		}
		return true
	}
	for _, first := range []byte{0, 0x55, 0xff} {
		if !grow([]byte{first}, 4) {
			return
		}
	}
	seed := uint32(6)
	for range 60000 {
		b := []byte{0xff}
		for range 1 + seed>>16%9 {
			seed = seed*1664525 + 1013904223
			b = append(b, byte(seed>>24)|byte(seed>>14)&0x80)
		}
		seed = seed*1664525 + 1013904223
		if !yield(b) {
			return
		}
	}
}

// P6.2, P6.3: bytes of all kinds are taken as the chapter's words tell; what is taken is put in as many bytes, or fewer.
func TestSlowly(t *testing.T) {
	for b := range tries {
		for bits := 1; bits <= 8; bits++ {
			n, rest, e := slowTake(b, bits)
			takes(t, b, bits, n, rest, e)
			if e != api.OK {
				continue
			}
			upper, _ := Upper(b, bits)
			o, e := Put(n, bits, upper)
			used := len(b) - len(rest)
			if e != api.OK || len(o) > used || len(o) == 0 || o[0] != b[0] || Size(n, bits) != len(o) {
				t.Fatalf("%x behind %d bits is %d, and that is put as %x, %d", b, bits, n, o, e)
			}
			if len(o) == used && !bytes.Equal(o, b[:used]) {
				t.Fatalf("%x behind %d bits is put as %x", b, bits, o)
			}
		}
	}
}

// R4: nothing that is handed in is changed, spare room behind it included; what stands behind a number is new memory.
func TestMemory(t *testing.T) {
	part, all := roomy([]byte("\x1f\x9a\x0aabc"))
	before := bytes.Clone(all)
	_, rest, e := Take(part, 5)
	Upper(part, 5)
	if string(rest) != "abc" || e != api.OK {
		t.Fatal(rest, e)
	}
	again := append(rest, "more than there was room for"...)
	rest[0] = 'z'
	if !bytes.Equal(all, before) {
		t.Errorf("%x became %x", before, all)
	}
	_, rest, _ = Take(part, 5)
	for i := range all {
		all[i] = 0
	}
	if string(rest) != "abc" || string(again[1:3]) != "bc" {
		t.Error("Take shares memory")
	}
	a, _ := Put(1337, 5, 0)
	b, _ := Put(1337, 5, 0)
	a[1] = 0
	if b[1] != 154 {
		t.Error("Put shares memory")
	}
}

// R3: what a call answers hangs on its arguments alone.
func TestSameAgain(t *testing.T) {
	first, _ := Put(1337, 5, 0xe0)
	Take([]byte{0xff, 0xff}, 3)
	Put(top, 8, 0xff)
	second, _ := Put(1337, 5, 0xe0)
	if !bytes.Equal(first, second) {
		t.Errorf("%x, then %x", first, second)
	}
	takes(t, first, 5, 1337, nil, api.OK)
	takes(t, first, 5, 1337, nil, api.OK)
}
