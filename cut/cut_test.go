package cut

import (
	"bytes"
	"math"
	"reflect"
	"testing"

	"causey/api"
)

// greeting is the preface, byte by byte as the chapter tells it.
var greeting = []byte{80, 82, 73, 32, 42, 32, 72, 84, 84, 80, 47, 50, 46, 48, 13, 10, 13, 10, 83, 77, 13, 10, 13, 10}

var fine = api.Fault{}

func wholly(code uint32) api.Fault { return api.Fault{Whole: true, Code: code} }

// framed is a frame's bytes, by divisions alone.
func framed(length int, kind, flags uint8, stream int, payload []byte) []byte {
	b := []byte{byte(length / 65536), byte(length / 256 % 256), byte(length % 256), kind, flags,
		byte(stream / 16777216), byte(stream / 65536 % 256), byte(stream / 256 % 256), byte(stream % 256)}
	return append(b, payload...)
}

// full is a frame that tells as many bytes as it has.
func full(kind, flags uint8, stream int, payload []byte) []byte {
	return framed(len(payload), kind, flags, stream, payload)
}

// piece is what such a frame is told as.
func piece(kind, flags uint8, stream int, payload []byte) api.Piece {
	return api.Piece{Head: api.Head{Length: len(payload), Kind: kind, Flags: flags, Stream: stream}, Payload: payload}
}

// filled is n bytes that differ from their neighbours.
func filled(n int) []byte {
	b := make([]byte, n)
	for i := range b {
		b[i] = byte(i*7 + i/256)
	}
	return b
}

func join(l ...[]byte) []byte { return bytes.Join(l, nil) }

// samePieces holds pieces against each other; nil and empty mean the same.
func samePieces(a, b []api.Piece) bool {
	if len(a) != len(b) {
		return false
	}
	for i := range a {
		if a[i].Head != b[i].Head || !bytes.Equal(a[i].Payload, b[i].Payload) {
			return false
		}
	}
	return true
}

// slowFeed is the chapter's words, a byte at a time: it begins a new frame where one ended.
func slowFeed(r api.Reader, chunk []byte) (o api.Reader, l []api.Piece, f api.Fault) {
	o = api.Reader{Pre: r.Pre, Rest: bytes.Clone(r.Rest)}
	for _, c := range chunk {
		if o.Pre < 24 {
			if c != greeting[o.Pre] {
				return o, l, wholly(1)
			}
			o.Pre++
			continue
		}
		o.Rest = append(o.Rest, c)
		if len(o.Rest) < 9 {
			continue
		}
		b := o.Rest
		n := int(b[0])*65536 + int(b[1])*256 + int(b[2])
		if n > 16384 {
			return api.Reader{Pre: 24}, l, wholly(6)
		}
		if len(b) == 9+n {
			stream := int(b[5])%128*16777216 + int(b[6])*65536 + int(b[7])*256 + int(b[8])
			l = append(l, piece(b[3], b[4], stream, b[9:]))
			o.Rest = nil
		}
	}
	return o, l, fine
}

// check feeds a chunk, and holds what is told against what is asked.
func check(t *testing.T, name string, r api.Reader, chunk []byte, o api.Reader, l []api.Piece, f api.Fault, e api.Errno) {
	t.Helper()
	got, gl, gf, ge := Feed(r, chunk)
	if !Same(got, o) || !samePieces(gl, l) || gf != f || ge != e {
		t.Errorf("%s: told %v, %d pieces, %v, %v, not %v, %d pieces, %v, %v", name, got, len(gl), gf, ge, o, len(l), f, e)
	}
}

func TestPreface(t *testing.T) {
	if !bytes.Equal(Preface(), greeting) || string(Preface()) != "PRI * HTTP/2.0\r\n\r\nSM\r\n\r\n" {
		t.Error(Preface())
	}
	Preface()[0] = 0
	if !bytes.Equal(Preface(), greeting) {
		t.Error("the preface is not told in memory of its own")
	}
}

func TestRight(t *testing.T) {
	rest := []byte{0}
	for _, c := range []struct {
		r    api.Reader
		want bool
	}{
		{api.Reader{}, true},
		{api.Reader{Rest: []byte{}}, true},
		{api.Reader{Pre: 1}, true},
		{api.Reader{Pre: 23}, true},
		{api.Reader{Pre: 24}, true},
		{api.Reader{Pre: 24, Rest: []byte{}}, true},
		{api.Reader{Pre: 25}, false},
		{api.Reader{Pre: -1}, false},
		{api.Reader{Pre: math.MinInt}, false},
		{api.Reader{Pre: math.MaxInt}, false},
		{api.Reader{Rest: rest}, false},
		{api.Reader{Pre: 23, Rest: rest}, false},
		{api.Reader{Pre: 24, Rest: rest}, true},
		{api.Reader{Pre: 25, Rest: rest}, false},
		{api.Reader{Pre: 24, Rest: make([]byte, 8)}, true},
		{api.Reader{Pre: 24, Rest: make([]byte, 9)}, false},
		{api.Reader{Pre: 24, Rest: make([]byte, 10)}, false},
		{api.Reader{Pre: 24, Rest: framed(1, 0, 0, 1, nil)}, true},
		{api.Reader{Pre: 24, Rest: framed(1, 0, 0, 1, []byte{7})}, false},
		{api.Reader{Pre: 24, Rest: framed(1, 0, 0, 1, []byte{7, 8})}, false},
		{api.Reader{Pre: 24, Rest: framed(2, 0, 0, 1, []byte{7})}, true},
		{api.Reader{Pre: 24, Rest: framed(16384, 0, 0, 1, filled(16383))}, true},
		{api.Reader{Pre: 24, Rest: framed(16384, 0, 0, 1, filled(16384))}, false},
		{api.Reader{Pre: 24, Rest: framed(16385, 0, 0, 1, nil)}, false},
		{api.Reader{Pre: 24, Rest: framed(16385, 0, 0, 1, filled(16385))}, false},
		{api.Reader{Pre: 24, Rest: framed(1<<24-1, 255, 255, 1<<31-1, nil)}, false},
		{api.Reader{Pre: 24, Rest: framed(16385, 0, 0, 1, nil)[:8]}, true},
		{api.Reader{Pre: 24, Rest: bytes.Repeat([]byte{255}, 8)}, true},
		{api.Reader{Pre: 24, Rest: bytes.Repeat([]byte{255}, 9)}, false},
	} {
		if Right(c.r) != c.want {
			t.Errorf("Right(%d, %d bytes) is %v", c.r.Pre, len(c.r.Rest), !c.want)
		}
	}
}

func TestBegun(t *testing.T) {
	for _, n := range []int{math.MinInt, -1, 0, 1, 23, 25, 48, math.MaxInt} {
		if Begun(api.Reader{Pre: n}) {
			t.Error(n)
		}
	}
	if !Begun(api.Reader{Pre: 24}) || !Begun(api.Reader{Pre: 24, Rest: []byte{1}}) {
		t.Error("the whole preface came")
	}
}

func TestOwnAndSame(t *testing.T) {
	a := api.Reader{Pre: 24, Rest: []byte{1, 2, 3}}
	b := Own(a)
	if !Same(a, b) || !Same(b, a) {
		t.Error(a, b)
	}
	b.Rest[1] = 9
	if a.Rest[1] != 2 || Same(a, b) || Same(b, a) {
		t.Error(a, b)
	}
	if Same(a, api.Reader{Pre: 24, Rest: []byte{1, 2}}) || Same(api.Reader{Pre: 24, Rest: []byte{1, 2}}, a) || Same(a, api.Reader{Pre: 23, Rest: a.Rest}) {
		t.Error("they differ")
	}
	if !Same(api.Reader{Rest: []byte{}}, api.Reader{}) || !Same(api.Reader{}, api.Reader{}) || Same(api.Reader{Pre: 1}, api.Reader{}) {
		t.Error("nil and empty mean the same")
	}
	for _, r := range []api.Reader{{}, {Pre: -5, Rest: []byte{4}}, {Pre: math.MaxInt}, {Pre: 3, Rest: []byte{}}} {
		if !Same(Own(r), r) {
			t.Error(r)
		}
	}
}

func TestPrefaceComes(t *testing.T) {
	for at := 0; at <= 24; at++ {
		for to := at; to <= 24; to++ {
			check(t, "part of it", api.Reader{Pre: at}, greeting[at:to], api.Reader{Pre: to}, nil, fine, api.OK)
		}
		check(t, "nil", api.Reader{Pre: at}, nil, api.Reader{Pre: at}, nil, fine, api.OK)
	}
}

func TestPrefaceBreaks(t *testing.T) {
	check(t, "71", api.Reader{}, []byte{71}, api.Reader{}, nil, wholly(1), api.OK)
	for from := 0; from < 24; from++ {
		for at := from; at < 24; at++ {
			for _, c := range []byte{greeting[at] ^ 1, greeting[at] ^ 32, greeting[at] ^ 128, 0, 255} {
				if c == greeting[at] {
					continue
				}
				chunk := append(bytes.Clone(greeting[from:at]), c)
				check(t, "one byte another", api.Reader{Pre: from}, chunk, api.Reader{Pre: at}, nil, wholly(1), api.OK)
				// What stands behind counts for nothing, though it were the preface's rest and a frame.
				chunk = join(chunk, greeting[at:], full(6, 0, 0, filled(8)))
				check(t, "and more behind", api.Reader{Pre: from}, chunk, api.Reader{Pre: at}, nil, wholly(1), api.OK)
			}
		}
	}
}

func TestFrames(t *testing.T) {
	long := filled(16384)
	for _, c := range []struct {
		name  string
		chunk []byte
		l     []api.Piece
		rest  []byte
	}{
		{"nothing", nil, nil, nil},
		{"an empty one", full(4, 0, 0, nil), []api.Piece{piece(4, 0, 0, nil)}, nil},
		{"two empty ones", join(full(4, 0, 0, nil), full(0, 1, 5, nil)), []api.Piece{piece(4, 0, 0, nil), piece(0, 1, 5, nil)}, nil},
		{"8 bytes of a head", full(4, 0, 0, nil)[:8], nil, full(4, 0, 0, nil)[:8]},
		{"a head alone", framed(3, 0, 1, 7, nil), nil, framed(3, 0, 1, 7, nil)},
		{"all but a byte", framed(3, 0, 1, 7, []byte{1, 2}), nil, framed(3, 0, 1, 7, []byte{1, 2})},
		{"a whole one", full(0, 1, 7, []byte{1, 2, 3}), []api.Piece{piece(0, 1, 7, []byte{1, 2, 3})}, nil},
		{"one and a byte", full(0, 1, 7, []byte{1, 2, 3, 4})[:12], nil, full(0, 1, 7, []byte{1, 2, 3, 4})[:12]},
		{"one and some of another", join(full(1, 4, 3, []byte{5}), []byte{0, 0}), []api.Piece{piece(1, 4, 3, []byte{5})}, []byte{0, 0}},
		{"a kind that is not known", full(99, 255, 1<<31-1, []byte{6, 6}), []api.Piece{piece(99, 255, 1<<31-1, []byte{6, 6})}, nil},
		{"the greatest", full(0, 0, 1, long), []api.Piece{piece(0, 0, 1, long)}, nil},
		{"the greatest, but a byte", full(0, 0, 1, long)[:9+16383], nil, full(0, 0, 1, long)[:9+16383]},
	} {
		check(t, c.name, api.Reader{Pre: 24}, c.chunk, api.Reader{Pre: 24, Rest: c.rest}, c.l, fine, api.OK)
		check(t, c.name+", with the preface", api.Reader{}, join(greeting, c.chunk), api.Reader{Pre: 24, Rest: c.rest}, c.l, fine, api.OK)
	}
	// The highest bit of the stream counts for nothing.
	b := full(8, 0, 3, filled(4))
	b[5] = 128
	check(t, "the highest bit", api.Reader{Pre: 24}, b, api.Reader{Pre: 24}, []api.Piece{piece(8, 0, 3, filled(4))}, fine, api.OK)
}

func TestHeadBreaks(t *testing.T) {
	ahead := join(full(6, 0, 0, filled(8)), full(0, 0, 1, nil))
	told := []api.Piece{piece(6, 0, 0, filled(8)), piece(0, 0, 1, nil)}
	for _, n := range []int{16385, 16386, 32768, 65536, 1 << 20, 1<<24 - 1} {
		bad := framed(n, 0, 0, 1, nil)
		broken := api.Reader{Pre: 24}
		check(t, "its head alone", broken, bad, broken, nil, wholly(6), api.OK)
		check(t, "with some behind", broken, join(bad, filled(40)), broken, nil, wholly(6), api.OK)
		check(t, "behind whole frames", broken, join(ahead, bad), broken, told, wholly(6), api.OK)
		check(t, "whole frames behind count for nothing", broken, join(ahead, bad, ahead), broken, told, wholly(6), api.OK)
		check(t, "with the preface", api.Reader{Pre: 20}, join(greeting[20:], ahead, bad), broken, told, wholly(6), api.OK)
		check(t, "8 bytes of it wait", broken, join(ahead, bad[:8]), api.Reader{Pre: 24, Rest: bad[:8]}, told, fine, api.OK)
		check(t, "and the ninth", api.Reader{Pre: 24, Rest: bad[:8]}, bad[8:], broken, nil, wholly(6), api.OK)
	}
	bad := framed(16385, 0, 0, 1, filled(16385))
	check(t, "the whole payload there", api.Reader{Pre: 24}, bad, api.Reader{Pre: 24}, nil, wholly(6), api.OK)
}

func TestWrongReaders(t *testing.T) {
	for _, r := range []api.Reader{
		{Pre: -1}, {Pre: 25}, {Pre: math.MinInt}, {Pre: math.MaxInt, Rest: []byte{1}},
		{Rest: []byte{1}}, {Pre: 23, Rest: []byte{1, 2}},
		{Pre: 24, Rest: make([]byte, 9)}, {Pre: 24, Rest: framed(1, 0, 0, 1, []byte{1, 2})},
		{Pre: 24, Rest: framed(16385, 0, 0, 1, nil)},
	} {
		for _, chunk := range [][]byte{nil, {}, greeting, full(6, 0, 0, filled(8)), {71}} {
			check(t, "it may not be", r, chunk, r, nil, fine, api.ErrArg)
		}
		o, _, _, _ := Feed(r, greeting)
		if len(r.Rest) > 0 {
			o.Rest[0] ^= 1
			if Same(o, r) {
				t.Error("a reader that may not be is told in memory of another")
			}
		}
	}
}

// streams are bytes of connections that P5.3 is tried with, some broken.
func streams() [][]byte {
	frames := join(full(4, 0, 0, filled(12)), full(4, 1, 0, nil), full(1, 5, 1, []byte{0x82}), full(0, 0, 1, nil), full(99, 3, 1<<31-1, filled(30)))
	l := [][]byte{nil, greeting, frames, join(greeting, frames), join(greeting, frames, frames[:20])}
	l = append(l, join(greeting, frames, framed(16385, 0, 0, 1, filled(11)), frames))
	l = append(l, join(greeting, framed(1<<24-1, 0, 0, 1, nil)))
	l = append(l, join(greeting[:23], []byte{11}, frames), join(greeting[1:], frames))
	return append(l, join(greeting, bytes.Repeat([]byte{0}, 50)), join(greeting, bytes.Repeat([]byte{255}, 50)))
}

// feedAll feeds chunks one behind the other, till one breaks.
func feedAll(t *testing.T, chunks [][]byte) (r api.Reader, l []api.Piece, f api.Fault) {
	t.Helper()
	for _, c := range chunks {
		o, more, f, e := Feed(r, c)
		if e != api.OK || !Right(o) {
			t.Fatal(o, e)
		}
		r, l = o, append(l, more...)
		if f != fine {
			return r, l, f
		}
	}
	return r, l, fine
}

func TestCutsAnyhow(t *testing.T) {
	for i, b := range streams() {
		o, l, f := slowFeed(api.Reader{}, b)
		same := func(chunks ...[]byte) {
			t.Helper()
			got, gl, gf := feedAll(t, chunks)
			if !Same(got, o) || !samePieces(gl, l) || gf != f {
				t.Errorf("stream %d in %d chunks: %v %d %v, not %v %d %v", i, len(chunks), got, len(gl), gf, o, len(l), f)
			}
		}
		same(b)
		for at := range len(b) + 1 {
			same(b[:at], b[at:])
			same(b[:at], nil, b[at:])
			for to := at; to <= len(b); to += 5 {
				same(b[:at], b[at:to], b[to:])
			}
		}
		for n := 1; n < 12; n++ {
			var chunks [][]byte
			for at := 0; at < len(b); at += n {
				chunks = append(chunks, b[at:min(at+n, len(b))])
			}
			same(chunks...)
		}
		if f == fine && !bytes.Equal(backAgain(o, l), b) {
			t.Error("bytes are lost", i)
		}
	}
}

// backAgain is all bytes that a connection was read from.
func backAgain(r api.Reader, l []api.Piece) []byte {
	b := bytes.Clone(greeting[:r.Pre])
	for _, p := range l {
		b = append(b, full(p.Head.Kind, p.Head.Flags, p.Head.Stream, p.Payload)...)
	}
	return append(b, r.Rest...)
}

// TestSlowly holds Feed against the chapter's words, a byte at a time, on bytes of all kinds.
func TestSlowly(t *testing.T) {
	seed := uint32(5)
	next := func(n int) int {
		seed = seed*1664525 + 1013904223
		return int(seed>>8) % n
	}
	for range 20000 {
		r := api.Reader{Pre: next(25)}
		if r.Pre > 12 {
			r.Pre = 24
		}
		var b []byte
		b = append(b, greeting[r.Pre:]...)
		for range next(4) {
			n := next(6)
			b = append(b, framed(n, byte(next(256)), byte(next(256)), next(1<<24), filled(max(0, n-next(40)/38)))...)
		}
		if next(6) == 0 {
			b = append(b, framed(16380+next(9), 0, 0, 1, filled(next(9)))...)
		}
		if len(b) > 0 && next(5) == 0 {
			b[next(len(b))] ^= byte(1 << next(8))
		}
		at := next(len(b) + 1)
		o, l, f := slowFeed(r, b[:at])
		check(t, "first", r, b[:at], o, l, f, api.OK)
		if f == fine {
			o2, l2, f2 := slowFeed(o, b[at:])
			check(t, "second", o, b[at:], o2, l2, f2, api.OK)
		}
	}
}

func TestManyFrames(t *testing.T) {
	const many = 200000
	o, l, f, e := Feed(api.Reader{Pre: 24}, bytes.Repeat(full(0, 0, 1, []byte{3}), many))
	if len(l) != many || len(o.Rest) != 0 || f != fine || e != api.OK {
		t.Error(len(l), f, e)
	}
}

func TestMemory(t *testing.T) {
	room := make([]byte, 14, 64)
	copy(room, framed(8, 6, 0, 0, filled(5)))
	room = append(room, bytes.Repeat([]byte{0xee}, 50)...)[:14]
	chunk := join(filled(8)[5:], full(0, 0, 1, []byte{1, 2}), full(0, 0, 1, []byte{3, 4}), []byte{0, 0, 4})
	kept, asked := bytes.Clone(room[:64]), bytes.Clone(chunk)
	o, l, _, e := Feed(api.Reader{Pre: 24, Rest: room}, chunk)
	if e != api.OK || len(l) != 3 || len(o.Rest) != 3 {
		t.Fatal(o, l, e)
	}
	if !bytes.Equal(room[:64], kept) || !bytes.Equal(chunk, asked) {
		t.Error("what was handed in is changed")
	}
	want := []api.Piece{piece(6, 0, 0, filled(8)), piece(0, 0, 1, []byte{1, 2}), piece(0, 0, 1, []byte{3, 4})}
	for i := range chunk {
		chunk[i] = 0x55
	}
	for i := range room[:64] {
		room[:64][i] = 0x55
	}
	if !samePieces(l, want) || !bytes.Equal(o.Rest, []byte{0, 0, 4}) {
		t.Error("an answer shares memory with what was handed in")
	}
	for i := range l {
		l[i].Payload = append(l[i].Payload, 0x77, 0x77, 0x77)[:len(l[i].Payload)]
	}
	_ = append(o.Rest, 0x77)
	for i := range l {
		for k := range l[i].Payload {
			l[i].Payload[k] = 0x66
		}
		if i+1 < len(l) && !samePieces(l[i+1:], want[i+1:]) {
			t.Error("two payloads share memory")
		}
	}
	if !bytes.Equal(o.Rest, []byte{0, 0, 4}) {
		t.Error("the rest shares memory with a payload")
	}
}

func TestSameAgain(t *testing.T) {
	chunk := join(greeting, full(6, 0, 0, filled(8)), []byte{0, 0, 4})
	o1, l1, f1, e1 := Feed(api.Reader{}, chunk)
	_, _, _, _ = Feed(api.Reader{}, []byte{71})
	o2, l2, f2, e2 := Feed(api.Reader{}, chunk)
	if !reflect.DeepEqual(o1, o2) || !reflect.DeepEqual(l1, l2) || f1 != f2 || e1 != e2 {
		t.Error("the same call answers another time otherwise")
	}
}
