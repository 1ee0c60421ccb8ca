package head

import (
	"bytes"
	"math"
	"testing"

	"causey/api"
)

// extremes are numbers that calls must bear wherever they take one.
var extremes = []int{math.MinInt, math.MinInt + 1, -1 << 32, -1 << 31, -1 << 24, -2, -1, 0, 1, 2, 255, 256, 65535, 65536, 1<<24 - 2, 1<<24 - 1, 1 << 24, 1<<24 + 1, 1<<31 - 2, 1<<31 - 1, 1 << 31, 1<<31 + 1, 1<<32 - 1, 1 << 32, 1 << 60, math.MaxInt - 1, math.MaxInt}

// octetKinds are some kinds and flags: known ones, unknown ones, the least and the greatest.
var octetKinds = []uint8{0, 1, 2, 4, 8, 9, 10, 16, 32, 127, 128, 200, 255}

// may tells by the chapter's words whether a head may be.
func may(h api.Head) bool {
	return h.Length >= 0 && h.Length <= 16777215 && h.Stream >= 0 && h.Stream <= 2147483647
}

// slow is the bytes of a head that may be, worked out by division alone.
func slow(h api.Head) []byte {
	b := make([]byte, 9)
	for i, n := 2, h.Length; i >= 0; i, n = i-1, n/256 {
		b[i] = byte(n % 256)
	}
	b[3], b[4] = h.Kind, h.Flags
	for i, n := 8, h.Stream; i >= 5; i, n = i-1, n/256 {
		b[i] = byte(n % 256)
	}
	return b
}

// heads are all heads of the extremes, with some kinds and flags.
func heads() []api.Head {
	var l []api.Head
	for i, length := range extremes {
		for j, stream := range extremes {
			kind, flags := octetKinds[(i+j)%len(octetKinds)], octetKinds[(2*i+3*j)%len(octetKinds)]
			l = append(l, api.Head{Length: length, Kind: kind, Flags: flags, Stream: stream})
		}
	}
	return l
}

// roomy is b with spare room behind it, filled with a mark, and a look at all of it.
func roomy(b []byte) (part, all []byte) {
	all = append(append([]byte{}, b...), bytes.Repeat([]byte{0x5a}, 16)...)
	return all[:len(b)], all
}

// P2.1: Length and Stream at all their edges, and far beyond them.
func TestRight(t *testing.T) {
	for _, h := range heads() {
		if Right(h) != may(h) {
			t.Errorf("%+v: %v", h, Right(h))
		}
	}
	if !Right(api.Head{}) || !Right(api.Head{Length: 1<<24 - 1, Kind: 255, Flags: 255, Stream: 1<<31 - 1}) {
		t.Error("the least and the greatest may be")
	}
}

// P2.1: the chapter's example.
func TestPutExample(t *testing.T) {
	b, e := Put(api.Head{Length: 5, Kind: api.FrData, Flags: api.FgEnd, Stream: 3})
	if string(b) != "\x00\x00\x05\x00\x01\x00\x00\x00\x03" || e != api.OK {
		t.Errorf("%x %d", b, e)
	}
}

// P2.1: each part stands in its place, the highest byte first.
func TestPutTellsTheBytes(t *testing.T) {
	for _, c := range []struct {
		h    api.Head
		want string
	}{
		{api.Head{}, "\x00\x00\x00\x00\x00\x00\x00\x00\x00"},
		{api.Head{Length: 0x010203, Kind: 4, Flags: 5, Stream: 0x06070809}, "\x01\x02\x03\x04\x05\x06\x07\x08\x09"},
		{api.Head{Length: 1<<24 - 1, Kind: 255, Flags: 255, Stream: 1<<31 - 1}, "\xff\xff\xff\xff\xff\x7f\xff\xff\xff"},
		{api.Head{Kind: api.FrUrgency}, "\x00\x00\x00\x10\x00\x00\x00\x00\x00"},
		{api.Head{Flags: api.FgRank}, "\x00\x00\x00\x00\x20\x00\x00\x00\x00"},
		{api.Head{Length: 1 << 23, Stream: 1 << 30}, "\x80\x00\x00\x00\x00\x40\x00\x00\x00"},
	} {
		if b, e := Put(c.h); string(b) != c.want || e != api.OK {
			t.Errorf("%+v: %x %d", c.h, b, e)
		}
	}
}

// P2.1: a head that may not be has no bytes; all others have just theirs.
func TestPutRefuses(t *testing.T) {
	for _, h := range heads() {
		b, e := Put(h)
		if may(h) && (e != api.OK || !bytes.Equal(b, slow(h))) || !may(h) && (e != api.ErrArg || len(b) != 0) {
			t.Errorf("%+v: %x %d", h, b, e)
		}
	}
}

// P2.1: the head, and all that stands behind it; the highest bit of the stream's bytes counts for nothing.
func TestTake(t *testing.T) {
	for _, c := range []struct {
		b    string
		want api.Head
		rest string
	}{
		{"\x00\x00\x05\x00\x01\x00\x00\x00\x03", api.Head{Length: 5, Flags: 1, Stream: 3}, ""},
		{"\x00\x00\x05\x00\x01\x80\x00\x00\x03hi", api.Head{Length: 5, Flags: 1, Stream: 3}, "hi"},
		{"\x01\x02\x03\x04\x05\x06\x07\x08\x09\x0a", api.Head{Length: 0x010203, Kind: 4, Flags: 5, Stream: 0x06070809}, "\x0a"},
		{"\xff\xff\xff\xff\xff\xff\xff\xff\xff\xff\xff", api.Head{Length: 1<<24 - 1, Kind: 255, Flags: 255, Stream: 1<<31 - 1}, "\xff\xff"},
		{"\x00\x00\x00\x00\x00\x80\x00\x00\x00", api.Head{}, ""},
		{"\x00\x00\x00\x00\x00\x40\x00\x00\x00", api.Head{Stream: 1 << 30}, ""},
	} {
		h, rest, e := Take([]byte(c.b))
		if h != c.want || string(rest) != c.rest || e != api.OK {
			t.Errorf("%x: %+v %x %d", c.b, h, rest, e)
		}
	}
}

// P2.1: with fewer than 9 bytes there is no head; with 9, there is.
func TestTakeShort(t *testing.T) {
	all := []byte("\x00\x00\x00\x01\x05\x00\x00\x00\x07")
	for many := range 9 {
		if h, rest, e := Take(all[:many]); h != (api.Head{}) || len(rest) != 0 || e != api.ErrShort {
			t.Errorf("%d bytes: %+v %x %d", many, h, rest, e)
		}
	}
	if h, rest, e := Take(nil); h != (api.Head{}) || len(rest) != 0 || e != api.ErrShort {
		t.Errorf("nil: %+v %x %d", h, rest, e)
	}
	if h, rest, e := Take(all); h != (api.Head{Kind: 1, Flags: 5, Stream: 7}) || len(rest) != 0 || e != api.OK {
		t.Errorf("9 bytes: %+v %x %d", h, rest, e)
	}
}

// P2.2: whole frames of several lengths, with several rests behind them.
func TestWhole(t *testing.T) {
	for _, length := range []int{0, 1, 2, 9, 255, 256, 16384, 16385, 65536, 1<<24 - 1} {
		for _, rest := range []string{"", "\x00", "the rest of it", "\x00\x00\x00\x00\x00\x00\x00\x00\x00"} {
			want := api.Head{Length: length, Kind: 77, Flags: 3, Stream: 5}
			payload := bytes.Repeat([]byte{7, 8, 9}, length/3+1)[:length]
			b := append(append(slow(want), payload...), rest...)
			h, p, r, e := Whole(b)
			if h != want || !bytes.Equal(p, payload) || string(r) != rest || e != api.OK {
				t.Errorf("%d bytes, %d behind them: %+v %d %d %d", length, len(rest), h, len(p), len(r), e)
			}
		}
	}
}

// P2.2: a frame that is not whole: no payload, no rest; its head only if all of its bytes are there.
func TestWholeShort(t *testing.T) {
	want := api.Head{Length: 4, Kind: 1, Flags: 2, Stream: 3}
	all := append(slow(want), "abcd"...)
	for many := range len(all) {
		h, p, r, e := Whole(all[:many])
		if many < 9 && h != (api.Head{}) || many >= 9 && h != want || len(p) != 0 || len(r) != 0 || e != api.ErrShort {
			t.Errorf("%d bytes: %+v %x %x %d", many, h, p, r, e)
		}
	}
	if h, p, r, e := Whole(nil); h != (api.Head{}) || len(p) != 0 || len(r) != 0 || e != api.ErrShort {
		t.Errorf("nil: %+v %x %x %d", h, p, r, e)
	}
	if h, p, r, e := Whole(all); h != want || string(p) != "abcd" || len(r) != 0 || e != api.OK {
		t.Errorf("all: %+v %x %x %d", h, p, r, e)
	}
	great := append(bytes.Repeat([]byte{255}, 9), make([]byte, 1000)...)
	if h, p, r, e := Whole(great); h != (api.Head{Length: 1<<24 - 1, Kind: 255, Flags: 255, Stream: 1<<31 - 1}) || len(p) != 0 || len(r) != 0 || e != api.ErrShort {
		t.Errorf("the greatest: %+v %x %x %d", h, p, r, e)
	}
}

// P2.2: of two frames one behind the other, each is told in turn; the stream's highest bit counts for nothing here too.
func TestWholeInTurn(t *testing.T) {
	b := []byte("\x00\x00\x02\x00\x00\x80\x00\x00\x01hi\x00\x00\x00\x04\x01\x00\x00\x00\x00\x00")
	h, p, r, e := Whole(b)
	if h != (api.Head{Length: 2, Stream: 1}) || string(p) != "hi" || len(r) != 10 || e != api.OK {
		t.Fatalf("%+v %x %x %d", h, p, r, e)
	}
	h, p, r, e = Whole(r)
	if h != (api.Head{Kind: 4, Flags: 1}) || len(p) != 0 || string(r) != "\x00" || e != api.OK {
		t.Errorf("%+v %x %x %d", h, p, r, e)
	}
}

// P2.3: all flags against all flags, bit by bit.
func TestHas(t *testing.T) {
	for flags := range 256 {
		for flag := range 256 {
			want := true
			for part := 1; part < 256; part *= 2 {
				want = want && (flag/part%2 == 0 || flags/part%2 == 1)
			}
			if Has(api.Head{Length: -1, Stream: -1, Kind: 9, Flags: uint8(flags)}, uint8(flag)) != want {
				t.Fatalf("%x has %x: not %v", flags, flag, want)
			}
		}
	}
}

// P2.3: of all kinds just those from 0 to 9, and 16.
func TestKnown(t *testing.T) {
	for kind := range 256 {
		if want := kind <= 9 || kind == 16; Known(uint8(kind)) != want {
			t.Errorf("kind %d is not %v", kind, want)
		}
	}
}

// P2.4: what is put is taken, and is a whole frame, if it has no payload.
func TestWhatIsPutIsTaken(t *testing.T) {
	for _, h := range heads() {
		b, e := Put(h)
		if e != api.OK {
			continue
		}
		for _, rest := range []string{"", "x", "some more"} {
			o, r, e := Take(append(append([]byte{}, b...), rest...))
			if o != h || string(r) != rest || e != api.OK {
				t.Errorf("%+v: %+v %x %d", h, o, r, e)
			}
		}
		if h.Length == 0 {
			if o, p, r, e := Whole(b); o != h || len(p) != 0 || len(r) != 0 || e != api.OK {
				t.Errorf("%+v: %+v %x %x %d", h, o, p, r, e)
			}
		}
	}
}

// P2.4: what is taken may be, and has just those bytes, but for the one bit.
func TestWhatIsTakenHasItsBytes(t *testing.T) {
	seed := uint32(1)
	for i := range 3000 {
		b := make([]byte, 9)
		for j := range b {
			seed = seed*1664525 + 1013904223
			b[j] = byte(seed >> 24)
		}
		if i%3 == 0 {
			b[5] |= 0x80
		}
		h, _, e := Take(b)
		if e != api.OK || !Right(h) {
			t.Fatalf("%x: %+v %d", b, h, e)
		}
		o, e := Put(h)
		b[5] &= 0x7f
		if !bytes.Equal(o, b) || e != api.OK {
			t.Fatalf("%x: %x %d", b, o, e)
		}
	}
}

// R4: nothing that is handed in is changed, spare room behind it included.
func TestArgumentsStay(t *testing.T) {
	for _, b := range []string{"", "\x00\x00\x02", "\x00\x00\x02\x00\x00\x80\x00\x00\x01", "\x00\x00\x02\x00\x00\x80\x00\x00\x01hi", "\x00\x00\x02\x00\x00\x80\x00\x00\x01hithere"} {
		part, all := roomy([]byte(b))
		before := string(all)
		_, rest, _ := Take(part)
		_, p, r, _ := Whole(part)
		for _, l := range [][]byte{rest, p, r} {
			_ = append(l, 1, 2, 3)
			for i := range l {
				l[i] = 0xee
			}
		}
		if string(all) != before {
			t.Errorf("%x became %x", before, all)
		}
	}
}

// R4: an answer is new memory, and shares none with another.
func TestAnswersAreNew(t *testing.T) {
	x, _ := Put(api.Head{Length: 1})
	y, _ := Put(api.Head{Length: 1})
	x[2] = 9
	if y[2] != 1 {
		t.Error("Put shares memory")
	}
	b := []byte("\x00\x00\x02\x00\x00\x80\x00\x00\x01hithere")
	_, p, r, _ := Whole(b)
	_ = append(p, "XXXX"...)
	if string(r) != "there" {
		t.Error("payload and rest share memory")
	}
	b[9], b[12] = 'X', 'X'
	if string(p) != "hi" || string(r) != "there" {
		t.Error("Whole keeps its argument")
	}
}
