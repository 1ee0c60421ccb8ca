package text

import (
	"bytes"
	"strings"
	"testing"

	"causey/api"
	"causey/huff"
	"causey/prefix"
)

// top is the greatest number that may be told.
const top = 1<<31 - 1

// number is n behind a prefix of 7 bits, worked out by division alone: first is what the highest bit adds, fill is how many bytes stand behind it for nothing.
func number(n, first, fill int) []byte {
	if n < 127 {
		return []byte{byte(first + n)}
	}
	b := []byte{byte(first + 127)}
	for n -= 127; n >= 128; n /= 128 {
		b = append(b, byte(128+n%128))
	}
	if fill == 0 {
		return append(b, byte(n))
	}
	b = append(b, byte(128+n))
	for range fill - 1 {
		b = append(b, 128)
	}
	return append(b, 0)
}

// slowPlain is s's bytes, plain, by the chapter's words.
func slowPlain(s string) string { return string(number(len(s), 0, 0)) + s }

// slowBits is s's bytes, in bits, by the chapter's words.
func slowBits(s string) string {
	b := huff.Put([]byte(s))
	return string(number(len(b), 128, 0)) + string(b)
}

// slowBest is s's best bytes, by the chapter's words.
func slowBest(s string) string {
	if huff.Shorter([]byte(s)) {
		return slowBits(s)
	}
	return slowPlain(s)
}

// slowTake goes through the chapter's sentence on Take, word by word.
func slowTake(b []byte) (string, []byte, api.Errno) {
	n, rest, e := prefix.Take(b, 7)
	if e != api.OK {
		return "", nil, e
	}
	if len(rest) < n {
		return "", nil, api.ErrShort
	}
	if b[0] < 128 {
		return string(rest[:n]), rest[n:], api.OK
	}
	s, e := huff.Take(rest[:n])
	if e != api.OK {
		return "", nil, e
	}
	return string(s), rest[n:], api.OK
}

// brief is s, or its beginning and its end.
func brief(s string) string {
	if len(s) <= 40 {
		return s
	}
	return s[:20] + ".." + s[len(s)-20:]
}

// takes holds what Take tells of b against what is asked.
func takes(t *testing.T, b, s, rest string, e api.Errno) {
	t.Helper()
	gotS, gotRest, gotE := Take([]byte(b))
	if gotS != s || string(gotRest) != rest || gotE != e {
		t.Errorf("Take(%x): %q %x %d, not %q %x %d", brief(b), brief(gotS), brief(string(gotRest)), gotE, brief(s), brief(rest), e)
	}
}

// puts holds what Plain, Bits, Best and Size tell of s against what is asked.
func puts(t *testing.T, s, plain, bits, best string) {
	t.Helper()
	if b := Plain(s); string(b) != plain {
		t.Errorf("Plain(%q): %x, not %x", brief(s), brief(string(b)), brief(plain))
	}
	if b := Bits(s); string(b) != bits {
		t.Errorf("Bits(%q): %x, not %x", brief(s), brief(string(b)), brief(bits))
	}
	if b := Best(s); string(b) != best {
		t.Errorf("Best(%q): %x, not %x", brief(s), brief(string(b)), brief(best))
	}
	if Size(s) != len(best) {
		t.Errorf("Size(%q): %d, not %d", brief(s), Size(s), len(best))
	}
}

// behinds are bytes that may stand behind a text.
var behinds = []string{"", "\x00", "\x80", "\xff", "a", "\x7f", "\xff\xff\xff\xff\xff\xff\xff", "\x01a\x81\x37", strings.Repeat("\x00", 300)}

// returns holds s, put in either way, against what is taken of it, whatever stands behind it.
func returns(t *testing.T, s string) {
	t.Helper()
	for _, b := range [][]byte{Plain(s), Bits(s), Best(s)} {
		for _, behind := range behinds {
			takes(t, string(b)+behind, s, behind, api.OK)
		}
	}
}

// mixed gives texts that hang on a seed alone, many of few values.
func mixed(seed uint32, many int) string {
	b := make([]byte, many)
	kind := seed % 4
	for i := range b {
		seed = seed*1664525 + 1013904223
		c := byte(seed >> 24)
		switch kind {
		case 0:
			b[i] = c
		case 1:
			b[i] = "/a0.-:bz AZ~"[int(c)%12]
		case 2:
			b[i] = c | byte(seed>>12)
		case 3:
			b[i] = "aceinorstu"[int(c)%10]
		}
	}
	return string(b)
}

// roomy is b with spare room behind it, filled with a mark, and a look at all of it.
func roomy(b []byte) (part, all []byte) {
	all = append(bytes.Clone(b), bytes.Repeat([]byte{0x5a}, 16)...)
	return all[:len(b)], all
}

// P8.1, P8.2: the chapter's examples.
func TestExamples(t *testing.T) {
	puts(t, "a", "\x01a", "\x81\x37", "\x01a")
	puts(t, "aaa", "\x03aaa", "\x82\x31\x8d", "\x82\x31\x8d")
	takes(t, "\x01a", "a", "", api.OK)
	takes(t, "\x81\x37", "a", "", api.OK)
	takes(t, "\x03aaa", "aaa", "", api.OK)
	takes(t, "\x82\x31\x8d", "aaa", "", api.OK)
}

// P8.1, P8.2: the empty text has its number alone, in either way.
func TestEmpty(t *testing.T) {
	puts(t, "", "\x00", "\x80", "\x00")
	for _, behind := range behinds {
		takes(t, "\x00"+behind, "", behind, api.OK)
		takes(t, "\x80"+behind, "", behind, api.OK)
	}
}

// P8.1: texts of each kind, written out.
func TestPutWrittenOut(t *testing.T) {
	puts(t, "-", "\x01-", "\x81\x07", "\x01-")
	puts(t, "aa", "\x02aa", "\x82\x31\xbf", "\x02aa")
	puts(t, "\x00", "\x01\x00", "\x82\xe0\x1f", "\x01\x00")
	puts(t, "\xff\x00", "\x02\xff\x00", "\x83\xf9\xfc\x03", "\x02\xff\x00")
	puts(t, "--------", "\x08--------", "\x85\x00\x00\x00\x00\x00", "\x85\x00\x00\x00\x00\x00")
	puts(t, "host", "\x04host", "\x83\xb1\x6d\x77", "\x83\xb1\x6d\x77")
	puts(t, "é", "\x02\xc3\xa9", "\x83\xf2\x7d\xe7", "\x02\xc3\xa9")
}

// P8.1, P8.3: texts whose number of bytes is just below, at and just above what fits the first byte, and at the next edges, plain; all their bytes are of 11 bits.
func TestPlainEdges(t *testing.T) {
	for _, c := range []struct {
		many   int
		number string
	}{
		{125, "\x7d"}, {126, "\x7e"}, {127, "\x7f\x00"}, {128, "\x7f\x01"}, {129, "\x7f\x02"},
		{127 + 127, "\x7f\x7f"}, {127 + 128, "\x7f\x80\x01"}, {127 + 129, "\x7f\x81\x01"},
		{127 + 1<<14 - 1, "\x7f\xff\x7f"}, {127 + 1<<14, "\x7f\x80\x80\x01"},
	} {
		s := strings.Repeat("~", c.many)
		want := c.number + s
		if b := Plain(s); string(b) != want {
			t.Errorf("Plain of %d bytes: %x", c.many, brief(string(b)))
		}
		if b := Best(s); string(b) != want || Size(s) != len(want) {
			t.Errorf("Best of %d bytes: %x, %d", c.many, brief(string(b)), Size(s))
		}
		returns(t, s)
	}
}

// P8.1, P8.3: texts whose number of bytes in bits is just below, at and just above what fits the first byte, and at the next edges; eight of their bytes stand in five.
func TestBitsEdges(t *testing.T) {
	for _, c := range []struct {
		many   int
		number string
	}{
		{125, "\xfd"}, {126, "\xfe"}, {127, "\xff\x00"}, {128, "\xff\x01"}, {129, "\xff\x02"},
		{127 + 127, "\xff\x7f"}, {127 + 128, "\xff\x80\x01"}, {127 + 129, "\xff\x81\x01"},
		{127 + 1<<14 - 1, "\xff\xff\x7f"}, {127 + 1<<14, "\xff\x80\x80\x01"},
	} {
		s := strings.Repeat("a", c.many*8/5)
		packed := huff.Put([]byte(s))
		if len(packed) != c.many {
			t.Fatalf("%d bytes in bits are %d", len(s), len(packed))
		}
		want := c.number + string(packed)
		puts(t, s, slowPlain(s), want, want)
		returns(t, s)
	}
}

// P8.1: texts whose bits are as many bytes as the text itself, one fewer, one more: the best bytes are in bits only where these are fewer.
func TestBestEdges(t *testing.T) {
	for _, c := range []struct {
		s    string
		more int // bytes in bits, less the text's
	}{
		{"", 0},
		{"a", 0}, {"aa", 0}, {"aaa", -1},
		{"bbb", 0}, {"bbbb", -1},
		{"AAAAAAA", 0}, {"AAAAAAAA", -1},
		{"aa\x00a", 0}, {"aaaa\x00", -1},
		{"\x00", 1}, {"\x00a", 0}, {"\x00\x00", 1}, {"\xff\xff\xff", 2},
		{strings.Repeat("a", 125) + strings.Repeat("~", 125), 0},
		{strings.Repeat("a", 127) + strings.Repeat("~", 123), -1},
		{strings.Repeat("a", 124) + strings.Repeat("~", 126), 1},
		{strings.Repeat("A", 127), -15}, {strings.Repeat("~", 127), 48},
	} {
		if d := len(huff.Put([]byte(c.s))) - len(c.s); d != c.more {
			t.Fatalf("%q: %d, not %d", brief(c.s), d, c.more)
		}
		best := slowPlain(c.s)
		if c.more < 0 {
			best = slowBits(c.s)
		}
		puts(t, c.s, slowPlain(c.s), slowBits(c.s), best)
		returns(t, c.s)
	}
}

// P8.1: the number of a text's bytes may need one byte more than that of its bits, and the other way round.
func TestNumbersApart(t *testing.T) {
	puts(t, strings.Repeat("a", 127), "\x7f\x00"+strings.Repeat("a", 127), "\xd0"+string(huff.Put([]byte(strings.Repeat("a", 127)))), slowBits(strings.Repeat("a", 127)))
	s := strings.Repeat("\x01", 100)
	puts(t, s, "\x64"+s, "\xff\x0b"+string(huff.Put([]byte(s))), "\x64"+s)
}

// P8.2: a text is taken as far as its number tells, and no further; what stands behind it is told as it is.
func TestTakeBehind(t *testing.T) {
	takes(t, "\x01ab", "a", "b", api.OK)
	takes(t, "\x02ab", "ab", "", api.OK)
	takes(t, "\x00ab", "", "ab", api.OK)
	takes(t, "\x03\x81\x37\x00\x01a", "\x81\x37\x00", "\x01a", api.OK)
	takes(t, "\x81\x37\x81\x37", "a", "\x81\x37", api.OK)
	takes(t, "\x81\x37\xff", "a", "\xff", api.OK)
	takes(t, "\x82\x31\xbf\xff\xff", "aa", "\xff\xff", api.OK)
	takes(t, "\x80\xff", "", "\xff", api.OK)
	takes(t, "\x02\xff\xff\xff", "\xff\xff", "\xff", api.OK)
}

// P8.2: numbers that are not short are taken too, in either way.
func TestTakeLongerNumbers(t *testing.T) {
	for _, many := range []int{127, 128, 254, 255, 300} {
		plain := strings.Repeat("Z", many)
		text := strings.Repeat("a", many*8/5)
		packed := string(huff.Put([]byte(text)))
		if len(packed) != many {
			t.Fatal(many, len(packed))
		}
		for fill := range 7 {
			head, highHead := string(number(many, 0, fill)), string(number(many, 128, fill))
			if len(head) <= 6 {
				takes(t, head+plain+"x", plain, "x", api.OK)
				takes(t, highHead+packed+"x", text, "x", api.OK)
				continue
			}
			takes(t, head+plain+"x", "", "", api.ErrLong)
			takes(t, highHead+packed+"x", "", "", api.ErrLong)
		}
	}
}

// P8.2: no bytes at all, and numbers that are cut off.
func TestTakeCutOff(t *testing.T) {
	takes(t, "", "", "", api.ErrShort)
	if s, rest, e := Take(nil); s != "" || len(rest) != 0 || e != api.ErrShort {
		t.Errorf("Take(nil): %q %x %d", s, rest, e)
	}
	for _, first := range []int{0, 128} {
		for _, n := range []int{127, 128, 255, 127 + 1<<14, top} {
			b := number(n, first, 0)
			for many := range len(b) {
				takes(t, string(b[:many]), "", "", api.ErrShort)
			}
		}
	}
	takes(t, "\x7f\x80\x80\x80\x80\x80", "", "", api.ErrShort)
	takes(t, "\xff\x80\x80\x80\x80\x80", "", "", api.ErrShort)
}

// P8.2: numbers that are too long: a sixth byte behind the first one, and more than may be told.
func TestTakeTooLong(t *testing.T) {
	for _, first := range []string{"\x7f", "\xff"} {
		for _, tail := range []string{
			"\x80\x80\x80\x80\x80\x00", "\x80\x80\x80\x80\x80\x80", "\x80\x80\x80\x80\x80\x00aaaa",
			"\x81\xff\xff\xff\x07", "\xff\xff\xff\xff\x08", "\xff\xff\xff\xff\x7f", "\xff\xff\xff\xff\x88", "\xff\xff\xff\xff\xff\xff\xff\xff\xff",
		} {
			takes(t, first+tail, "", "", api.ErrLong)
			takes(t, first+tail+strings.Repeat("a", 200), "", "", api.ErrLong)
		}
		// The greatest number may be told, but as many bytes are not there.
		takes(t, first+"\x80\xff\xff\xff\x07", "", "", api.ErrShort)
		takes(t, first+"\x80\xff\xff\xff\x07"+strings.Repeat("a", 200), "", "", api.ErrShort)
	}
}

// P8.2: fewer bytes behind the number than it tells, in either way.
func TestTakeTooFew(t *testing.T) {
	for _, s := range []string{"a", "aaa", "host", "\x00", strings.Repeat("~", 126), strings.Repeat("~", 127), strings.Repeat("a", 203), strings.Repeat("a", 204), strings.Repeat("a\x00", 500)} {
		for _, b := range [][]byte{Plain(s), Bits(s)} {
			for many := range len(b) {
				takes(t, string(b[:many]), "", "", api.ErrShort)
			}
		}
	}
}

// P8.2: bits that are no text, whatever stands behind them; the same bytes, plain, are one.
func TestTakeNoText(t *testing.T) {
	for _, bits := range []string{"\xff", "\x78", "\x30", "\xfe\x3f", "\x37\xff", "\xff\xe0", "\xff\xff\xff\xff", "\xfa\x1f", "\x31\x8d\xff", "\xe0"} {
		for _, behind := range behinds {
			takes(t, string(number(len(bits), 0, 0))+bits+behind, bits, behind, api.OK)
			takes(t, string(number(len(bits), 128, 0))+bits+behind, "", "", api.ErrHuff)
		}
	}
	// Ones that would go on behind the text do not, and a code that ends there is none here.
	takes(t, "\x81\xe0\x1f", "", "", api.ErrHuff)
	takes(t, "\x82\xe0\x1f", "\x00", "", api.OK)
}

// P8.2: where two of these are so at once, it is the first in the chapter's order.
func TestTakeOrder(t *testing.T) {
	// Too few bytes, and those that are there are no text.
	takes(t, "\x82\xff", "", "", api.ErrShort)
	takes(t, "\x83\x78\xff", "", "", api.ErrShort)
	takes(t, "\xff\x00\xff\xff\xff", "", "", api.ErrShort)
	takes(t, "\xff\x80\xff\xff\xff\x07\xff\xff", "", "", api.ErrShort)
	// A number that is too long, and too few bytes behind it, or such as are no text.
	takes(t, "\xff\x81\xff\xff\xff\x07", "", "", api.ErrLong)
	takes(t, "\xff\x81\xff\xff\xff\x07\xff\xff", "", "", api.ErrLong)
	takes(t, "\xff\x80\x80\x80\x80\x80\x00\xff\xff", "", "", api.ErrLong)
	takes(t, "\x7f\x81\xff\xff\xff\x07", "", "", api.ErrLong)
	// A number that is cut off, whose bytes so far would be no text.
	takes(t, "\xff\xff\xff", "", "", api.ErrShort)
	takes(t, "\xff\xff\xff\xff\xff\x87", "", "", api.ErrLong)
	takes(t, "\xff\x80\xff\xff\xff\x87", "", "", api.ErrShort)
}

// P8.2: each first byte, with bytes of several kinds behind it, held against a second reading.
func TestTakeFirst(t *testing.T) {
	tails := []string{"", "\x00", "\x7f", "\x80", "\xff", strings.Repeat("\x00", 130), strings.Repeat("\x37", 130), strings.Repeat("\xff", 130), "\x00" + strings.Repeat("\x31", 300), "\x05" + strings.Repeat("z", 300)}
	for first := range 256 {
		for _, tail := range tails {
			b := append([]byte{byte(first)}, tail...)
			s, rest, e := slowTake(b)
			takes(t, string(b), s, string(rest), e)
		}
	}
	for seed := range uint32(20000) {
		b := []byte(mixed(seed, 1+int(seed/4%24)))
		b[0] = b[0] & 0x87
		s, rest, e := slowTake(b)
		takes(t, string(b), s, string(rest), e)
	}
}

// P8.1, P8.3: texts of all kinds, held against a second reading: what is put is taken, whatever stands behind it, and the best bytes are not more than those of either way.
func TestWhatIsPutIsTaken(t *testing.T) {
	look := func(s string) {
		puts(t, s, slowPlain(s), slowBits(s), slowBest(s))
		if n := len(Best(s)); n > len(Plain(s)) || n > len(Bits(s)) || n != Size(s) {
			t.Errorf("the best bytes of %q are %d", brief(s), n)
		}
		returns(t, s)
	}
	for c := range 256 {
		look(string([]byte{byte(c)}))
		look(string([]byte{byte(c), 'a', byte(c)}))
	}
	for seed := range uint32(1200) {
		look(mixed(seed, int(seed%301)))
	}
	for _, c := range []string{"a", "\x00", "a~", "\xff\xfe-"} {
		look(strings.Repeat(c, 40000))
	}
}

// P8.2, P8.3: texts that stand one behind the other come one after the other.
func TestSeveral(t *testing.T) {
	texts := []string{"", "a", "host", "\x00\xff", strings.Repeat("a", 300), strings.Repeat("~", 127), "", "aaa"}
	var b []byte
	for i, s := range texts {
		b = append(b, [][]byte{Plain(s), Bits(s), Best(s)}[i%3]...)
	}
	for _, want := range texts {
		s, rest, e := Take(b)
		if s != want || e != api.OK {
			t.Fatalf("%q %d, not %q", brief(s), e, brief(want))
		}
		b = rest
	}
	if len(b) != 0 {
		t.Errorf("%x is left", b)
	}
}

// R4: nothing that is handed in is changed, spare room behind it included; what is told is new memory.
func TestMemory(t *testing.T) {
	for _, c := range []string{"\x03abcdef", "\x82\x31\x8ddef", "\x00def", "\x80def"} {
		part, all := roomy([]byte(c))
		before := bytes.Clone(all)
		s, rest, e := Take(part)
		if string(rest) != "def" || e != api.OK {
			t.Fatalf("%q %q %d", s, rest, e)
		}
		want := strings.Clone(s)
		_, again, _ := Take(part)
		_ = append(rest, "more than there was room for"...)
		rest[0] = 'z'
		if !bytes.Equal(all, before) {
			t.Errorf("%x became %x", before, all)
		}
		clear(all)
		if s != want || string(rest) != "zef" || string(again) != "def" {
			t.Errorf("Take shares memory: %q %q %q", s, rest, again)
		}
	}
	for _, put := range []func(string) []byte{Plain, Bits, Best} {
		a, b := put("aaa"), put("aaa")
		want := bytes.Clone(b)
		_ = append(a, "more than there was room for"...)
		clear(a)
		if !bytes.Equal(b, want) {
			t.Errorf("%x became %x", want, b)
		}
	}
}

// R3: what a call answers hangs on its arguments alone.
func TestSameAgain(t *testing.T) {
	first := Best("www.example.com")
	Take([]byte{0xff, 0xff})
	Take([]byte{0x81, 0xff})
	Bits("\x00")
	Size("")
	takes(t, string(first), "www.example.com", "", api.OK)
	takes(t, string(first), "www.example.com", "", api.OK)
	if second := Best("www.example.com"); !bytes.Equal(first, second) {
		t.Errorf("%x, then %x", first, second)
	}
}
