package octet

import (
	"math"
	"testing"

	"causey/api"
)

// extremes are numbers that calls must bear wherever they take one.
var extremes = []int{math.MinInt, math.MinInt + 1, -1 << 32, -9, -1, 0, 1, 2, 3, 4, 5, 7, 8, 9, 15, 16, 29, 30, 31, 32, 63, 64, 1<<30 - 1, 1 << 30, 1<<31 - 1, 1 << 31, 1<<32 - 1, 1 << 32, 1 << 60, math.MaxInt - 7, math.MaxInt - 1, math.MaxInt}

// lists are bytes of several lengths, nil among them.
func lists() [][]byte {
	return [][]byte{nil, {}, {0}, {0xff}, {0xa5, 0x3c}, {1, 2, 3}, {0x80, 0, 0, 1}, {0xff, 0xff, 0xff, 0xff, 0xff}}
}

// roomy is b with spare room behind it, filled with a mark, and a look at all of it.
func roomy(b []byte) (part, all []byte) {
	all = append(append([]byte{}, b...), 0x5a, 0x5a, 0x5a, 0x5a, 0x5a, 0x5a, 0x5a, 0x5a)
	return all[:len(b)], all
}

// slow is the bits of b as a text, worked out by division alone.
func slow(b []byte) string {
	s := ""
	for _, c := range b {
		for part := 128; part > 0; part /= 2 {
			s += string(rune('0' + int(c)/part%2))
		}
	}
	return s
}

// digits is a code of many bits as a text.
func digits(code, many int) string {
	s := ""
	for range many {
		s = string(rune('0'+code%2)) + s
		code /= 2
	}
	return s
}

func value(bits string) int {
	n := 0
	for _, c := range bits {
		n = 2*n + int(c-'0')
	}
	return n
}

// P1.1: each number at the edges of each size stands highest byte first.
func TestPutTellsTheBytes(t *testing.T) {
	for _, c := range []struct {
		n, size int
		want    string
	}{
		{0, 1, "\x00"}, {1, 1, "\x01"}, {128, 1, "\x80"}, {255, 1, "\xff"},
		{0, 2, "\x00\x00"}, {255, 2, "\x00\xff"}, {256, 2, "\x01\x00"}, {65535, 2, "\xff\xff"},
		{258, 3, "\x00\x01\x02"}, {65536, 3, "\x01\x00\x00"}, {1<<24 - 1, 3, "\xff\xff\xff"},
		{0, 4, "\x00\x00\x00\x00"}, {0x01020304, 4, "\x01\x02\x03\x04"}, {1 << 31, 4, "\x80\x00\x00\x00"}, {1<<32 - 1, 4, "\xff\xff\xff\xff"},
	} {
		if b, e := Put(c.n, c.size); string(b) != c.want || e != api.OK {
			t.Errorf("Put(%d, %d): %x %d", c.n, c.size, b, e)
		}
	}
}

// P1.1: what no size holds, and what is no size.
func TestPutRefuses(t *testing.T) {
	for _, n := range extremes {
		for _, size := range extremes {
			may := size >= 1 && size <= 4 && n >= 0 && (n < 1<<(8*size))
			b, e := Put(n, size)
			if may && (e != api.OK || len(b) != size) || !may && (e != api.ErrArg || len(b) != 0) {
				t.Errorf("Put(%d, %d): %x %d", n, size, b, e)
			}
		}
	}
	for size := 1; size <= 4; size++ {
		if b, e := Put(1<<(8*size)-1, size); len(b) != size || e != api.OK {
			t.Errorf("the greatest of %d bytes: %x %d", size, b, e)
		}
		if b, e := Put(1<<(8*size), size); len(b) != 0 || e != api.ErrArg {
			t.Errorf("above the greatest of %d bytes: %x %d", size, b, e)
		}
	}
}

// P1.1: numbers of every size, at every place.
func TestTakeTellsTheNumber(t *testing.T) {
	b := []byte{1, 2, 3, 0xff, 0xfe}
	for _, c := range []struct{ at, size, want int }{
		{0, 1, 1}, {3, 1, 0xff}, {4, 1, 0xfe}, {0, 2, 0x0102}, {3, 2, 0xfffe}, {2, 3, 0x03fffe}, {0, 4, 0x010203ff}, {1, 4, 0x0203fffe},
	} {
		if n, e := Take(b, c.at, c.size); n != c.want || e != api.OK {
			t.Errorf("Take(%d, %d): %d %d", c.at, c.size, n, e)
		}
	}
	if n, e := Take([]byte{0xff, 0xff, 0xff, 0xff}, 0, 4); n != 1<<32-1 || e != api.OK {
		t.Error(n, e)
	}
}

// P1.1: ErrArg goes ahead of ErrShort; beside both stands 0.
func TestTakeRefuses(t *testing.T) {
	for _, b := range lists() {
		for _, at := range extremes {
			for _, size := range extremes {
				want := api.OK
				if size < 1 || size > 4 || at < 0 {
					want = api.ErrArg
				} else if at > len(b) || len(b)-at < size {
					want = api.ErrShort
				}
				n, e := Take(b, at, size)
				if e != want || e != api.OK && n != 0 {
					t.Errorf("Take(%x, %d, %d): %d %d, not %d", b, at, size, n, e, want)
				}
			}
		}
	}
}

// P1.1: of a stream's number the highest bit counts for nothing.
func TestStream(t *testing.T) {
	for _, c := range []struct {
		b    string
		at   int
		want int
		e    api.Errno
	}{
		{"\x00\x00\x00\x03", 0, 3, api.OK},
		{"\x80\x00\x00\x03", 0, 3, api.OK},
		{"\x80\x00\x00\x00", 0, 0, api.OK},
		{"\x40\x00\x00\x00", 0, 1 << 30, api.OK},
		{"\x7f\xff\xff\xff", 0, 1<<31 - 1, api.OK},
		{"\x01\xff\xff\xff\xff\x02", 1, 1<<31 - 1, api.OK},
		{"\xff\xff\xff", 0, 0, api.ErrShort},
		{"\xff\xff\xff\xff", 1, 0, api.ErrShort},
		{"", 0, 0, api.ErrShort},
		{"", -1, 0, api.ErrArg},
		{"\xff\xff\xff\xff", -1, 0, api.ErrArg},
		{"\xff\xff\xff\xff", math.MinInt, 0, api.ErrArg},
		{"\xff\xff\xff\xff", math.MaxInt, 0, api.ErrShort},
	} {
		if n, e := Stream([]byte(c.b), c.at); n != c.want || e != c.e {
			t.Errorf("Stream(%x, %d): %d %d", c.b, c.at, n, e)
		}
	}
}

// P1.2: bit by bit, the highest of each byte first; none before the first, none behind the last.
func TestBit(t *testing.T) {
	for _, b := range lists() {
		text := slow(b)
		for _, at := range append([]int{len(text) - 1, len(text), len(text) + 1}, extremes...) {
			want, ok := 0, at >= 0 && at < len(text)
			if ok {
				want = int(text[at] - '0')
			}
			if n, yes := Bit(b, at); n != want || yes != ok {
				t.Errorf("Bit(%x, %d): %d %v", b, at, n, yes)
			}
		}
	}
}

// P1.2: the chapter's example.
func TestBitsExample(t *testing.T) {
	if n, ok := Bits([]byte{0xa5}, 1, 3); n != 2 || !ok {
		t.Error(n, ok)
	}
}

// P1.2: codes of every length at every place, and all that there is none of.
func TestBits(t *testing.T) {
	for _, b := range lists() {
		text := slow(b)
		places := append([]int{}, extremes...)
		for i := 0; i <= len(text)+1; i++ {
			places = append(places, i)
		}
		manies := append([]int{}, extremes...)
		for i := 0; i <= 31; i++ {
			manies = append(manies, i)
		}
		for _, at := range places {
			for _, many := range manies {
				ok := many >= 0 && many <= 30 && at >= 0 && at <= len(text) && many <= len(text)-at
				want := 0
				if ok {
					want = value(text[at : at+many])
				}
				if n, yes := Bits(b, at, many); n != want || yes != ok {
					t.Errorf("Bits(%x, %d, %d): %d %v", b, at, many, n, yes)
				}
			}
		}
	}
}

// P1.3: the chapter's examples.
func TestLayExamples(t *testing.T) {
	b, used, e := Lay(nil, 0, 5, 3)
	if string(b) != "\xa0" || used != 3 || e != api.OK {
		t.Fatalf("%x %d %d", b, used, e)
	}
	b, used, e = Lay(b, used, 1, 7)
	if string(b) != "\xa0\x40" || used != 10 || e != api.OK {
		t.Errorf("%x %d %d", b, used, e)
	}
}

// P1.3: behind every number of used bits, a code of every length; what stood behind the used bits is gone, and what is left of the last byte is 0.
func TestLay(t *testing.T) {
	b := []byte{0xa5, 0xff, 0xff}
	for used := 0; used <= 24; used++ {
		bytes := b[:(used+7)/8]
		for many := 0; many <= 30; many++ {
			for _, code := range []int{0, 1, 1<<many/3 | 1, 1<<many - 1} {
				if code >= 1<<many {
					continue
				}
				o, all, e := Lay(bytes, used, code, many)
				want := slow(b)[:used] + digits(code, many)
				for len(want)%8 != 0 {
					want += "0"
				}
				if slow(o) != want || all != used+many || e != api.OK {
					t.Fatalf("Lay(%x, %d, %d, %d): %s %d %d, not %s", bytes, used, code, many, slow(o), all, e, want)
				}
			}
		}
	}
}

// P1.3: all that may not be.
func TestLayRefuses(t *testing.T) {
	for _, b := range lists() {
		for _, used := range append([]int{8*len(b) - 8, 8*len(b) - 7, 8 * len(b), 8*len(b) + 1}, extremes...) {
			for _, many := range extremes {
				for _, code := range append([]int{1<<(many&31) - 1, 1 << (many & 31)}, extremes...) {
					may := many >= 0 && many <= 30 && code >= 0 && code <= 1<<(many&31)-1
					may = may && used >= 0 && used <= 8*len(b) && (used+7)/8 == len(b)
					o, all, e := Lay(b, used, code, many)
					if may && e == api.OK && all == used+many && len(o) == (all+7)/8 {
						continue
					}
					if may || e != api.ErrArg || len(o) != 0 || all != 0 {
						t.Fatalf("Lay(%x, %d, %d, %d): %x %d %d", b, used, code, many, o, all, e)
					}
				}
			}
		}
	}
}

// P1.3: the same bytes; nil and empty are the same.
func TestSame(t *testing.T) {
	for i, a := range lists() {
		for j, b := range lists() {
			want := i == j || len(a) == 0 && len(b) == 0
			if Same(a, b) != want {
				t.Errorf("Same(%x, %x) is not %v", a, b, want)
			}
		}
	}
	for i := range 4 {
		a, b := []byte{1, 2, 3, 4}, []byte{1, 2, 3, 4}
		if b[i] ^= 0x80; Same(a, b) {
			t.Errorf("%x and %x differ", a, b)
		}
	}
	if Same([]byte{1, 2}, []byte{1, 2, 0}) || Same([]byte{1, 2, 0}, []byte{1, 2}) {
		t.Error("one is longer")
	}
}

// P1.4: what is put is taken, of every size, at every place.
func TestWhatIsPutIsTaken(t *testing.T) {
	for size := 1; size <= 4; size++ {
		for shift := 0; shift <= 8*size; shift++ {
			for _, n := range []int{1<<shift - 1, 1<<shift - 2, 0x5a5a5a5a % (1 << shift)} {
				if n < 0 {
					continue
				}
				b, e := Put(n, size)
				if e != api.OK {
					t.Fatal(n, size, e)
				}
				for at := range 3 {
					all := append(append(make([]byte, at), b...), 0xee)
					if m, e := Take(all, at, size); m != n || e != api.OK {
						t.Errorf("%d in %d bytes at %d: %d %d", n, size, at, m, e)
					}
				}
			}
		}
	}
}

// P1.4: what is laid is told by Bits, and what was laid ahead of it still is.
func TestWhatIsLaidIsTold(t *testing.T) {
	type part struct{ at, code, many int }
	var b []byte
	var parts []part
	used := 0
	for i := range 200 {
		many := i * 7 % 31
		code := i * 0x9e3779b1 & (1<<many - 1)
		o, all, e := Lay(b, used, code, many)
		if e != api.OK {
			t.Fatal(i, e)
		}
		parts = append(parts, part{used, code, many})
		b, used = o, all
	}
	for _, p := range parts {
		if n, ok := Bits(b, p.at, p.many); n != p.code || !ok {
			t.Errorf("%v: %d %v", p, n, ok)
		}
	}
}

// P1.4: bits laid in two goes are as in one.
func TestTwoGoesAreAsOne(t *testing.T) {
	for used := 0; used <= 16; used++ {
		b := []byte{0x5a, 0xc3}[:(used+7)/8]
		for many := 0; many <= 30; many++ {
			code := 0x2b3c4d5e & (1<<many - 1)
			whole, all, _ := Lay(b, used, code, many)
			for first := 0; first <= many; first++ {
				o, mid, e := Lay(b, used, code>>(many-first), first)
				if e != api.OK {
					t.Fatal(used, many, first, e)
				}
				o, end, e := Lay(o, mid, code&(1<<(many-first)-1), many-first)
				if e != api.OK || end != all || !Same(o, whole) {
					t.Fatalf("%d bits behind %d, cut at %d: %x %d, not %x %d", many, used, first, o, end, whole, all)
				}
			}
		}
	}
}

// R4: nothing that is handed in is changed, spare room behind it included.
func TestArgumentsStay(t *testing.T) {
	for _, b := range lists() {
		part, all := roomy(b)
		before := string(all)
		Take(part, 0, 4)
		Stream(part, 0)
		Bit(part, 3)
		Bits(part, 1, 5)
		Same(part, b)
		for used := 0; used <= 8*len(b); used++ {
			Lay(part, used, 1<<29|1, 30)
			Lay(part, used, 0, 0)
			Lay(part, used, 1, 1)
		}
		if string(all) != before {
			t.Errorf("%x became %x", before, all)
		}
	}
}

// R4: an answer is new memory.
func TestAnswersAreNew(t *testing.T) {
	b, _ := roomy([]byte{0xff, 0xf0})
	o, _, _ := Lay(b, 16, 0, 0)
	p, _, _ := Lay(b, 16, 0, 0)
	o[0] = 1
	if b[0] != 0xff || p[0] != 0xff {
		t.Error("Lay shares memory")
	}
	x, _ := Put(7, 2)
	y, _ := Put(7, 2)
	x[1] = 9
	if y[1] != 7 {
		t.Error("Put shares memory")
	}
}
