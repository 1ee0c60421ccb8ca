package huff

import (
	"bytes"
	"math"
	"strings"
	"testing"

	"causey/api"
)

// extremes are numbers that calls must bear wherever they take one.
var extremes = []int{math.MinInt, math.MinInt + 1, -1 << 32, -1 << 31, -2048, -256, -16, -11, -5, -1, 16, 31, 63, 64, 65, 2047, 2048, 4095, 4096, 65536, 1 << 31, 1<<32 - 1, 1 << 32, 1<<32 + 6, 1 << 36, 1 << 60, math.MaxInt - 1, math.MaxInt}

// chapter is the chapter's list, but its last line, and the first code of each number of bits.
var chapter = []struct {
	many, first int
	bytes       string
}{
	{5, 0, "- / 0 1 2 3 a c e i n o r s t u"},
	{6, 32, ". 4 5 6 7 8 9 : b d f g h l m p"},
	{7, 96, "A B C D E F G H j k q v w x y z"},
}

// slowCodes is all codes as digits: those of one number of bits rise by one with the bytes' numbers.
func slowCodes() (l [256]string) {
	taken := map[byte]bool{}
	for _, line := range chapter {
		next := line.first
		for c := range 256 {
			if strings.Contains(" "+line.bytes+" ", " "+string(rune(c))+" ") && c > ' ' && c < 128 {
				l[c] = digits(next, line.many)
				taken[byte(c)] = true
				next++
			}
		}
	}
	next := 1792
	for c := range 256 {
		if !taken[byte(c)] {
			l[c] = digits(next, 11)
			next++
		}
	}
	return l
}

// digits is a number in so many bits, worked out by division alone.
func digits(code, many int) string {
	s := ""
	for range many {
		s = string(rune('0'+code%2)) + s
		code /= 2
	}
	return s
}

// value is the number of digits.
func value(s string) int {
	n := 0
	for _, c := range s {
		n = 2*n + int(c-'0')
	}
	return n
}

// whole is the bytes of digits, of which there are eight a byte.
func whole(t *testing.T, s string) []byte {
	t.Helper()
	if len(s)%8 != 0 {
		t.Fatalf("%s fills no byte", s)
	}
	var b []byte
	for ; s != ""; s = s[8:] {
		b = append(b, byte(value(s[:8])))
	}
	return b
}

// spread is the digits of bytes.
func spread(b []byte) string {
	s := ""
	for _, c := range b {
		s += digits(int(c), 8)
	}
	return s
}

// slowDigits is b's codes as digits, and behind them the ones that fill the last byte.
func slowDigits(codes [256]string, b []byte) (bits int, s string) {
	var l []string
	for _, c := range b {
		l = append(l, codes[c])
	}
	s = strings.Join(l, "")
	bits = len(s)
	for len(s)%8 != 0 {
		s += "1"
	}
	return bits, s
}

// slowTake goes through the chapter's sentence on Take, word by word.
func slowTake(codes [256]string, b []byte) ([]byte, api.Errno) {
	s := spread(b)
	var o []byte
	for s != "" {
		found := false
		for c, code := range codes {
			if strings.HasPrefix(s, code) {
				o, s, found = append(o, byte(c)), s[len(code):], true
				break
			}
		}
		if found {
			continue
		}
		if len(s) <= 7 && strings.Count(s, "1") == len(s) {
			break
		}
		return nil, api.ErrHuff
	}
	return o, api.OK
}

// takes holds what Take tells of b against what is asked.
func takes(t *testing.T, b []byte, want string, e api.Errno) {
	t.Helper()
	got, gotE := Take(b)
	if string(got) != want || gotE != e {
		t.Errorf("Take(%x): %q %d, not %q %d", b, got, gotE, want, e)
	}
}

// puts holds what Put, Bits and Shorter tell of s against what is asked.
func puts(t *testing.T, s string, bits int, want string) {
	t.Helper()
	b := []byte(s)
	if o := Put(b); string(o) != want {
		t.Errorf("Put(%q): %x, not %x", s, o, want)
	}
	if Bits(b) != bits {
		t.Errorf("Bits(%q): %d, not %d", s, Bits(b), bits)
	}
	if Shorter(b) != (len(want) < len(s)) {
		t.Errorf("Shorter(%q): %v", s, Shorter(b))
	}
}

// roomy is b with spare room behind it, filled with a mark, and a look at all of it.
func roomy(b []byte) (part, all []byte) {
	all = append(bytes.Clone(b), bytes.Repeat([]byte{0x5a}, 16)...)
	return all[:len(b)], all
}

// mixed gives bytes that hang on a seed alone, many of few values.
func mixed(seed uint32, many int) []byte {
	b := make([]byte, many)
	kind := seed % 4
	for i := range b {
		seed = seed*1664525 + 1013904223
		c := byte(seed >> 24)
		switch kind {
		case 0:
			b[i] = c
		case 1:
			b[i] = "/a0.-:bz AZ~"[int(c)%12]
		case 2:
			b[i] = c | byte(seed>>12)
		case 3:
			b[i] = c & byte(seed>>12)
		}
	}
	return b
}

// P7.1, P7.2: the chapter's examples.
func TestExamples(t *testing.T) {
	for _, c := range []struct {
		c          byte
		code, many int
		put        string
	}{{'a', 6, 5, "\x37"}, {0, 1792, 11, "\xe0\x1f"}} {
		if code, many := Code(c.c); code != c.code || many != c.many {
			t.Errorf("Code(%q): %d %d", c.c, code, many)
		}
		if o, ok := Of(c.code, c.many); o != c.c || !ok {
			t.Errorf("Of(%d, %d): %q %v", c.code, c.many, o, ok)
		}
		puts(t, string(rune(c.c)), c.many, c.put)
		takes(t, []byte(c.put), string(rune(c.c)), api.OK)
	}
}

// P7.1: the first and last byte of each number of bits, and those of 11 bits on both sides of all that have fewer, written out.
func TestCodesWrittenOut(t *testing.T) {
	for _, c := range []struct {
		c          byte
		code, many int
	}{
		{'-', 0, 5}, {'/', 1, 5}, {'0', 2, 5}, {'3', 5, 5}, {'a', 6, 5}, {'c', 7, 5}, {'t', 14, 5}, {'u', 15, 5},
		{'.', 32, 6}, {'4', 33, 6}, {'9', 38, 6}, {':', 39, 6}, {'b', 40, 6}, {'m', 46, 6}, {'p', 47, 6},
		{'A', 96, 7}, {'H', 103, 7}, {'j', 104, 7}, {'y', 110, 7}, {'z', 111, 7},
		{0, 1792, 11}, {1, 1793, 11}, {' ', 1824, 11}, {',', 1836, 11}, {';', 1837, 11}, {'@', 1842, 11}, {'I', 1843, 11}, {'Z', 1860, 11}, {'`', 1866, 11}, {'{', 1867, 11}, {'~', 1870, 11}, {127, 1871, 11}, {128, 1872, 11}, {254, 1998, 11}, {255, 1999, 11},
	} {
		if code, many := Code(c.c); code != c.code || many != c.many {
			t.Errorf("Code(%q): %d %d, not %d %d", c.c, code, many, c.code, c.many)
		}
		if o, ok := Of(c.code, c.many); o != c.c || !ok {
			t.Errorf("Of(%d, %d): %q %v, not %q", c.code, c.many, o, ok, c.c)
		}
	}
}

// P7.1: every byte's code, held against a second reading; and how many bytes have codes of so many bits.
func TestCodes(t *testing.T) {
	count := map[int]int{}
	for c, want := range slowCodes() {
		code, many := Code(byte(c))
		if digits(code, many) != want || code != value(want) {
			t.Errorf("Code(%q): %d %d, not %s", byte(c), code, many, want)
		}
		count[many]++
	}
	if count[5] != 16 || count[6] != 16 || count[7] != 16 || count[11] != 208 {
		t.Error(count)
	}
}

// P7.1: every number in every number of bits: the byte whose code it is, and none's in all others; the end is no byte.
func TestOf(t *testing.T) {
	bytesOf := map[string]byte{}
	for c, code := range slowCodes() {
		bytesOf[code] = byte(c)
	}
	for many := 0; many <= 13; many++ {
		for code := range 1 << many {
			want, is := bytesOf[digits(code, many)]
			if c, ok := Of(code, many); c != want || ok != is {
				t.Errorf("Of(%d, %d): %q %v, not %q %v", code, many, c, ok, want, is)
			}
		}
	}
	for _, code := range []int{2000, 2001, 2015, 2016, 2046, 2047, 2048} {
		if c, ok := Of(code, 11); c != 0 || ok {
			t.Errorf("Of(%d, 11): %q %v", code, c, ok)
		}
	}
}

// P7.1: numbers and numbers of bits that are none's, whatever they are.
func TestOfRefuses(t *testing.T) {
	for _, many := range append([]int{0, 1, 2, 3, 4, 8, 9, 10}, extremes...) {
		for _, code := range append([]int{0, 1, 6, 12, 15, 32, 47, 96, 111, 1792, 1999}, extremes...) {
			if c, ok := Of(code, many); c != 0 || ok {
				t.Errorf("Of(%d, %d): %q %v", code, many, c, ok)
			}
		}
	}
	for _, many := range []int{5, 6, 7, 11} {
		for _, code := range append([]int{17, 30, 48, 62, 112, 127, 1791, 2000, 2001}, extremes...) {
			if c, ok := Of(code, many); c != 0 || ok {
				t.Errorf("Of(%d, %d): %q %v", code, many, c, ok)
			}
		}
	}
}

// P7.2: last bytes that are filled with 0 to 7 ones, written out.
func TestPutFills(t *testing.T) {
	for _, c := range []struct {
		s    string
		bits int
		want string
	}{
		{"", 0, ""},
		{"aaaaaaaa", 40, "\x31\x8c\x63\x18\xc6"}, {"Aa:.", 24, "\xc0\x69\xe0"},
		{"A", 7, "\xc1"}, {"z", 7, "\xdf"},
		{".", 6, "\x83"}, {"p", 6, "\xbf"},
		{"-", 5, "\x07"}, {"u", 5, "\x7f"}, {"--.-", 21, "\x00\x20\x07"},
		{"bb", 12, "\xa2\x8f"}, {"--", 10, "\x00\x3f"}, {"aa", 10, "\x31\xbf"},
		{"\x00", 11, "\xe0\x1f"}, {"\xff", 11, "\xf9\xff"},
		{"AA.-", 25, "\xc1\x82\x00\x7f"}, {"a\x00a\xff", 32, "\x37\x00\x37\xcf"},
	} {
		puts(t, c.s, c.bits, c.want)
		takes(t, []byte(c.want), c.s, api.OK)
	}
	filled := map[int]bool{}
	for many := range 9 {
		s := strings.Repeat("u", many)
		want := ""
		for range many {
			want += "01111"
		}
		for len(want)%8 != 0 {
			want += "1"
		}
		filled[len(want)-5*many] = true
		puts(t, s, 5*many, string(whole(t, want)))
		takes(t, whole(t, want), s, api.OK)
	}
	if len(filled) != 8 {
		t.Error(filled)
	}
}

// P7.2, P7.3: texts of noughts: those whose bits are, and those whose bytes are.
func TestNoughts(t *testing.T) {
	puts(t, "--------", 40, "\x00\x00\x00\x00\x00")
	puts(t, "-", 5, "\x07")
	puts(t, "\x00\x00\x00\x00\x00\x00\x00\x00", 88, "\xe0\x1c\x03\x80\x70\x0e\x01\xc0\x38\x07\x00")
	puts(t, "0000", 20, "\x10\x84\x2f")
	takes(t, make([]byte, 5), "--------", api.OK)
	takes(t, make([]byte, 500), strings.Repeat("-", 800), api.OK)
	for many := range 41 {
		e, want := api.ErrHuff, ""
		if many%5 == 0 {
			e, want = api.OK, strings.Repeat("-", many/5*8)
		}
		takes(t, make([]byte, many), want, e)
	}
}

// P7.2: every byte alone, and every two, held against a second reading.
func TestPut(t *testing.T) {
	codes := slowCodes()
	for c := range 256 {
		for _, b := range [][]byte{{byte(c)}, {byte(c), byte(c)}, {'a', byte(c)}, {byte(c), 'A'}, {byte(c), 0xff, byte(c)}} {
			bits, want := slowDigits(codes, b)
			puts(t, string(b), bits, string(whole(t, want)))
		}
	}
	for seed := range uint32(4000) {
		b := mixed(seed, int(seed%41))
		bits, want := slowDigits(codes, b)
		puts(t, string(b), bits, string(whole(t, want)))
	}
}

// P7.2: texts in bits that are shorter than their bytes, as long, and longer, at their edges.
func TestShorter(t *testing.T) {
	for _, c := range []struct {
		s    string
		want bool
	}{
		{"", false},
		{"a", false}, {"aa", false}, {"aaa", true}, {"aaaa", true},
		{"b", false}, {"bb", false}, {"bbb", false}, {"bbbb", true},
		{"A", false}, {"AAAAAAA", false}, {"AAAAAAAA", true},
		{"\x00", false}, {"\xff\xff\xff", false}, {strings.Repeat("~", 1000), false},
		{"a\x00", false}, {"aa\x00", false}, {"aa\x00a", false}, {"aaaa\x00", true},
		{"aaaaa\x00\x00\x00", false}, {"aaaaaa\x00\x00\x00", true}, {"aaaaaaaa\x00\x00", true},
		{"text/html", true}, {"200", true}, {"Z", false},
	} {
		if Shorter([]byte(c.s)) != c.want {
			t.Errorf("Shorter(%q): not %v", c.s, c.want)
		}
	}
	if Shorter(nil) || Bits(nil) != 0 || len(Put(nil)) != 0 {
		t.Error("nothing is not as empty")
	}
}

// P7.3: ones that fill the last byte are taken, and no more of them: a whole byte of ones, behind any text, is none's.
func TestTakeFill(t *testing.T) {
	takes(t, nil, "", api.OK)
	takes(t, []byte{}, "", api.OK)
	for _, s := range []string{"", "u", "uu", "uuu", "uuuu", "uuuuu", "uuuuuu", "uuuuuuu", "uuuuuuuu", "a", "A", "\x00", "\xff", "a.A\x00"} {
		b := Put([]byte(s))
		takes(t, b, s, api.OK)
		for many := 1; many <= 9; many++ {
			takes(t, append(bytes.Clone(b), bytes.Repeat([]byte{0xff}, many)...), "", api.ErrHuff)
		}
	}
	takes(t, whole(t, "00110"+"111"), "a", api.OK)
	takes(t, whole(t, "00110"+"111"+"11111111"), "", api.ErrHuff)
	takes(t, whole(t, strings.Repeat("00110", 8)), "aaaaaaaa", api.OK)
	takes(t, whole(t, strings.Repeat("00110", 8)+"11111111"), "", api.ErrHuff)
	takes(t, whole(t, strings.Repeat("00110", 5)+"1111111"), "aaaaa", api.OK)
	takes(t, whole(t, strings.Repeat("00110", 5)+"1111111"+"11111111"), "", api.ErrHuff)
}

// P7.3: noughts at the end, and any that stand among the ones that fill, as far as they are no byte's code.
func TestTakeNoughtsAtTheEnd(t *testing.T) {
	takes(t, whole(t, "00110"+"000"), "", api.ErrHuff)
	takes(t, whole(t, "00110"+"110"), "", api.ErrHuff)
	takes(t, whole(t, "00110"+"011"), "", api.ErrHuff)
	takes(t, whole(t, "00110"+"101"), "", api.ErrHuff)
	takes(t, whole(t, "1100000"+"0"), "", api.ErrHuff)
	takes(t, whole(t, "100000"+"00"), "", api.ErrHuff)
	takes(t, whole(t, "100000"+"10"), "", api.ErrHuff)
	takes(t, whole(t, "11100000000"+"00000"), "\x00-", api.OK)
	takes(t, whole(t, "11100000000"+"11110"), "", api.ErrHuff)
	takes(t, whole(t, "00110"+"00110"+"000000"), "", api.ErrHuff)
	takes(t, whole(t, "00110"+"00110"+"100000"), "aa.", api.OK)
	takes(t, whole(t, "00110"+"00110"+"111110"), "", api.ErrHuff)
}

// P7.3: bits that are no byte's code, the end's among them, first, within, and last.
func TestTakeNoCode(t *testing.T) {
	for code := 2000; code <= 2047; code++ {
		for _, ahead := range []string{"", "00110", "100000", "1100000", "11100000000"} {
			for _, behind := range []string{"", "00110", "11100000000", "0000000000000"} {
				s := ahead + digits(code, 11) + behind
				for len(s)%8 != 0 {
					s += "1"
				}
				takes(t, whole(t, s), "", api.ErrHuff)
			}
		}
	}
	takes(t, []byte{0x37, 0xff}, "", api.ErrHuff)
	takes(t, []byte{0xff, 0xe6}, "", api.ErrHuff)
}

// P7.3: a code whose last bits are left out is none, but where its first ones are just ones, 7 at most.
func TestTakeCutOff(t *testing.T) {
	codes := slowCodes()
	for c, code := range codes {
		for part := 1; part < len(code); part++ {
			s, text := code[:part], ""
			for len(s)%8 != 0 {
				s, text = "00110"+s, text+"a"
			}
			if strings.Count(code[:part], "1") == part && part <= 7 {
				takes(t, whole(t, s), text, api.OK)
				continue
			}
			if got, e := slowTake(codes, whole(t, s)); e == api.OK {
				t.Fatalf("the first %d bits of the code of %d are %q", part, c, got)
			}
			takes(t, whole(t, s), "", api.ErrHuff)
		}
	}
}

// P7.3, P7.4: all bytes, and all two of them, held against a second reading; what is taken has just those bits.
func TestTakeAll(t *testing.T) {
	codes := slowCodes()
	look := func(b []byte) {
		want, e := slowTake(codes, b)
		takes(t, b, string(want), e)
		if e == api.OK && !bytes.Equal(Put(want), b) {
			t.Errorf("%x is %q, and that is put as %x", b, want, Put(want))
		}
	}
	for c := range 256 {
		look([]byte{byte(c)})
		for d := range 256 {
			look([]byte{byte(c), byte(d)})
		}
	}
	for seed := range uint32(12000) {
		look(mixed(seed, 3+int(seed/4%20)))
	}
}

// P7.4: no code begins another one, nor the end's; and the end's begins none.
func TestNoCodeBeginsAnother(t *testing.T) {
	var codes []string
	for c := range 256 {
		code, many := Code(byte(c))
		codes = append(codes, digits(code, many))
	}
	codes = append(codes, digits(2047, 11))
	for i, a := range codes {
		for j, b := range codes {
			if i != j && strings.HasPrefix(a, b) {
				t.Errorf("%s begins with %s", a, b)
			}
		}
	}
}

// P7.4: what is put is taken: each byte behind each, and texts of all kinds.
func TestWhatIsPutIsTaken(t *testing.T) {
	for c := range 256 {
		for d := range 256 {
			b := []byte{byte(c), byte(d)}
			takes(t, Put(b), string(b), api.OK)
		}
	}
	for seed := range uint32(4000) {
		b := mixed(seed, int(seed%97))
		takes(t, Put(b), string(b), api.OK)
	}
	for _, c := range []string{"-", "a", "u", ".", "z", "\x00", "\xff", "ab\x00Z"} {
		b := bytes.Repeat([]byte(c), 100000)
		o := Put(b)
		if len(o) != (Bits(b)+7)/8 || Shorter(b) != (len(o) < len(b)) {
			t.Errorf("%q, many times: %d bytes", c, len(o))
		}
		if got, e := Take(o); !bytes.Equal(got, b) || e != api.OK {
			t.Errorf("%q, many times: %d bytes, %d", c, len(got), e)
		}
	}
}

// R4: nothing that is handed in is changed, spare room behind it included; what is told is new memory.
func TestMemory(t *testing.T) {
	part, all := roomy([]byte("aaa\x00"))
	before := bytes.Clone(all)
	o := Put(part)
	Bits(part)
	Shorter(part)
	_ = append(o, "more than there was room for"...)
	if !bytes.Equal(all, before) {
		t.Errorf("%x became %x", before, all)
	}
	want := bytes.Clone(o)
	clear(all)
	if !bytes.Equal(o, want) {
		t.Error("Put keeps what it is handed")
	}
	part, all = roomy(o)
	before = bytes.Clone(all)
	s, e := Take(part)
	again, _ := Take(part)
	_ = append(s, "more than there was room for"...)
	if !bytes.Equal(all, before) {
		t.Errorf("%x became %x", before, all)
	}
	clear(all)
	s[0] = 'z'
	if string(s) != "zaa\x00" || string(again) != "aaa\x00" || e != api.OK {
		t.Errorf("Take shares memory: %q %q %d", s, again, e)
	}
}

// R3: what a call answers hangs on its arguments alone.
func TestSameAgain(t *testing.T) {
	first := Put([]byte("www.example.com"))
	Take([]byte{0xff, 0xff})
	Of(-1, 11)
	Code(0xff)
	takes(t, first, "www.example.com", api.OK)
	takes(t, first, "www.example.com", api.OK)
	if second := Put([]byte("www.example.com")); !bytes.Equal(first, second) {
		t.Errorf("%x, then %x", first, second)
	}
}
