package bare

import (
	"encoding/base64"
	"fmt"
	"math"
	"regexp"
	"strconv"
	"strings"
	"testing"

	"causey/api"
)

const most = 999_999_999_999_999

// whole, thousandths, str, token, octets and yes are items of each kind.
func whole(n int) api.Bare       { return api.Bare{Kind: api.BaInt, Int: n} }
func thousandths(n int) api.Bare { return api.Bare{Kind: api.BaDecimal, Int: n} }
func str(s string) api.Bare      { return api.Bare{Kind: api.BaString, Text: s} }
func token(s string) api.Bare    { return api.Bare{Kind: api.BaToken, Text: s} }
func bytesOf(s string) api.Bare  { return api.Bare{Kind: api.BaBytes, Text: s} }
func yes(y bool) api.Bare        { return api.Bare{Kind: api.BaBool, Yes: y} }

// brief is s, or its beginning and its end.
func brief(s string) string {
	if len(s) <= 80 {
		return s
	}
	return s[:40] + ".." + s[len(s)-40:]
}

// short is an item told in a text.
func short(b api.Bare) string {
	return fmt.Sprintf("{%d %d %q %v}", b.Kind, b.Int, brief(b.Text), b.Yes)
}

// prints holds that an item may be, and what its text is.
func prints(t *testing.T, b api.Bare, want string) {
	t.Helper()
	if !Right(b) {
		t.Errorf("%s may not be", short(b))
	}
	s, e := Print(b)
	if s != want || e != api.OK {
		t.Errorf("Print(%s): %q %d, not %q", short(b), brief(s), e, brief(want))
	}
}

// wrong holds that an item may not be, and has no text.
func wrong(t *testing.T, b api.Bare) {
	t.Helper()
	if Right(b) {
		t.Errorf("%s may be", short(b))
	}
	if s, e := Print(b); s != "" || e != api.ErrArg {
		t.Errorf("Print(%s): %q %d, not 2 alone", short(b), brief(s), e)
	}
}

// reads holds which item a text begins with, and what stands behind it.
func reads(t *testing.T, s string, want api.Bare, behind string) {
	t.Helper()
	b, rest, e := Parse(s)
	if b != want || rest != behind || e != api.OK {
		t.Errorf("Parse(%q): %s %q %d, not %s %q", brief(s), short(b), brief(rest), e, short(want), brief(behind))
	}
}

// none holds that a text begins with no item.
func none(t *testing.T, s string) {
	t.Helper()
	if b, rest, e := Parse(s); b != (api.Bare{}) || rest != "" || e != api.ErrBare {
		t.Errorf("Parse(%q): %s %q %d, not 120 alone", brief(s), short(b), brief(rest), e)
	}
}

// both holds that an item has that text, which is read as it with nothing behind.
func both(t *testing.T, b api.Bare, s string) {
	t.Helper()
	prints(t, b, s)
	reads(t, s, b, "")
}

// slow is a second reading of what a text begins with, by patterns.
type slow struct {
	number, str, escape, token, bytes, truth *regexp.Regexp
}

func newSlow() slow {
	return slow{
		number: regexp.MustCompile(`^(-?)([0-9]*)(\.([0-9]*))?`),
		str:    regexp.MustCompile(`^"((?:[ !#-\[\]-~]|\\["\\])*)"`),
		escape: regexp.MustCompile(`\\(.)`),
		token:  regexp.MustCompile("^[A-Za-z*][A-Za-z0-9!#$%&'*+\\-.^_`|~:/]*"),
		bytes:  regexp.MustCompile(`^:([A-Za-z0-9+/]*=*):`),
		truth:  regexp.MustCompile(`^\?([01])`),
	}
}

// parse is the item that s begins with, of how many bytes it is, and whether there is one.
func (r slow) parse(s string) (b api.Bare, used int, ok bool) {
	if m := r.str.FindStringSubmatch(s); m != nil {
		return str(r.escape.ReplaceAllString(m[1], "$1")), len(m[0]), true
	}
	if m := r.token.FindString(s); m != "" {
		return token(m), len(m), true
	}
	if m := r.bytes.FindStringSubmatch(s); m != nil {
		o, err := base64.StdEncoding.Strict().DecodeString(m[1])
		return bytesOf(string(o)), len(m[0]), err == nil
	}
	if m := r.truth.FindStringSubmatch(s); m != nil {
		return yes(m[1] == "1"), 2, true
	}
	m := r.number.FindStringSubmatch(s)
	if m[2] == "" {
		return b, 0, false
	}
	if m[3] == "" {
		n, _ := strconv.Atoi(m[1] + m[2])
		return whole(n), len(m[0]), len(m[2]) <= 15
	}
	n, _ := strconv.Atoi(m[1] + m[2] + (m[4] + "000")[:3])
	return thousandths(n), len(m[0]), len(m[2]) <= 12 && len(m[4]) >= 1 && len(m[4]) <= 3
}

// right is a second reading of what may be, by its kind's row in the chapter.
func (r slow) right(b api.Bare) bool {
	text, number, truth := b.Text == "", b.Int == 0, !b.Yes
	switch b.Kind {
	case api.BaInt, api.BaDecimal:
		return text && truth && math.Abs(float64(b.Int)) < 1e15
	case api.BaString:
		return number && truth && !regexp.MustCompile(`[^ -~]`).MatchString(b.Text)
	case api.BaToken:
		return number && truth && b.Text != "" && r.token.FindString(b.Text) == b.Text
	case api.BaBytes:
		return number && truth
	case api.BaBool:
		return number && text
	}
	return false
}

// asRead holds what Parse tells against the second reading, and what is read against its text.
func (r slow) asRead(t *testing.T, s string) {
	t.Helper()
	want, used, ok := r.parse(s)
	if !ok {
		none(t, s)
		return
	}
	reads(t, s, want, s[used:])
	if !Right(want) || !r.right(want) {
		t.Errorf("%q: %s is read, and may not be", brief(s), short(want))
	}
	own, e := Print(want)
	if e != api.OK {
		t.Errorf("%q: %s is read, and has no text: %d", brief(s), short(want), e)
	}
	reads(t, own, want, "")
}

// mixed gives numbers that hang on a seed alone.
func mixed(seed uint32) func(below int) int {
	seed = seed*2654435761 + 12345
	return func(below int) int {
		seed = seed*1664525 + 1013904223
		return int(seed>>8) % below
	}
}

// someText is so many bytes, each of those that are given.
func someText(n func(int) int, of string, many int) string {
	b := make([]byte, many)
	for i := range b {
		b[i] = of[n(len(of))]
	}
	return string(b)
}

// every is a text of all bytes, in order.
func every() string {
	b := make([]byte, 256)
	for i := range b {
		b[i] = byte(i)
	}
	return string(b)
}

// P12.1 to P12.3: the chapter's examples.
func TestExamples(t *testing.T) {
	both(t, thousandths(1500), "1.5")
	both(t, bytesOf("\x01\x02"), ":AQI=:")
	reads(t, "-007;a", whole(-7), ";a")
}

// P12.1, P12.2: whole numbers, and the greatest of them.
func TestInts(t *testing.T) {
	for n, s := range map[int]string{
		0: "0", 1: "1", -1: "-1", 9: "9", 10: "10", -10: "-10", 100: "100", 1500: "1500", 123456789: "123456789", 1 << 31: "2147483648", -1 << 32: "-4294967296",
		most: "999999999999999", -most: "-999999999999999", most - 1: "999999999999998", 100_000_000_000_000: "100000000000000",
	} {
		both(t, whole(n), s)
		for _, behind := range []string{"", ";", ",", " ", "a", "-", "-1", "?1", "\"", ":", "*", "=", "\x00", "\xff", "/", "+1", ")", "e5", "E5", "_1", "x1"} {
			reads(t, s+behind, whole(n), behind)
		}
	}
	for _, n := range []int{most + 1, -most - 1, most + 2, 1e16, -1e16, math.MaxInt, math.MinInt, math.MaxInt - 1, math.MinInt + 1} {
		wrong(t, whole(n))
		wrong(t, thousandths(n))
	}
	// Noughts ahead are digits as others.
	for s, n := range map[string]int{
		"00": 0, "-0": 0, "-00": 0, "007": 7, "000000000000000": 0, "-000000000000000": 0, "000000000000001": 1, "-000000000000012": -12, "100000000000000": 1e14,
	} {
		reads(t, s, whole(n), "")
		reads(t, s+";0", whole(n), ";0")
	}
	for _, s := range []string{
		"0000000000000000", "0000000000000001", "1000000000000000", "9999999999999999", "-0000000000000000", "-1000000000000000", "00000000000000000001", strings.Repeat("0", 1000), strings.Repeat("9", 1000), "1000000000000000;a", "0000000000000000.0",
		"-", "--", "--1", "-a", "- 1", "-.5", "-;1", "-\"", "-?1", "-\x00", "+1", "+", ".", ".5", "-:", "-*",
	} {
		none(t, s)
	}
}

// P12.1, P12.2: decimals: noughts at both ends, as many digits as may be, and more.
func TestDecimals(t *testing.T) {
	for n, s := range map[int]string{
		0: "0.0", 1: "0.001", -1: "-0.001", 10: "0.01", 100: "0.1", 101: "0.101", 110: "0.11", 999: "0.999", -999: "-0.999", 1000: "1.0", -1000: "-1.0", 1001: "1.001", 1010: "1.01", 1100: "1.1", 1500: "1.5", -1500: "-1.5", 10000: "10.0", -5: "-0.005", -50: "-0.05", -500: "-0.5",
		123456: "123.456", most: "999999999999.999", -most: "-999999999999.999", 999999999999000: "999999999999.0", 100000000000001: "100000000000.001", -100000000000010: "-100000000000.01",
	} {
		both(t, thousandths(n), s)
		for _, behind := range []string{"", ";", ".", ".5", "..", "-1", " ", "a", "\xff", "?0", ","} {
			reads(t, s+behind, thousandths(n), behind)
		}
	}
	for s, n := range map[string]int{
		"0.00": 0, "0.000": 0, "-0.0": 0, "-0.000": 0, "1.50": 1500, "1.500": 1500, "01.5": 1500, "-001.050": -1050, "000000000000.0": 0, "000000000001.5": 1500, "-000000000001.001": -1001, "1.00": 1000, "0.010": 10,
	} {
		reads(t, s, thousandths(n), "")
		reads(t, s+";1", thousandths(n), ";1")
	}
	for _, s := range []string{
		"1.", "-1.", "0.", "1.;a", "1.a", "1. 5", "1..5", "1.-5", "1.2345", "0.0000", "-0.0000", "1.5000", "1.2345;a", "0." + strings.Repeat("0", 1000),
		"0000000000000.0", "1234567890123.4", "-1234567890123.4", "0000000000001.5", "1234567890123.", "12345678901234.5", "123456789012345.6", "123456789012345.", "999999999999.9999", "123456789012.",
	} {
		none(t, s)
	}
}

// P12.1, P12.2: each byte within a string, alone and with a \ ahead.
func TestStrings(t *testing.T) {
	both(t, str(""), `""`)
	both(t, str("a"), `"a"`)
	both(t, str(" a b "), `" a b "`)
	both(t, str(`"`), `"\""`)
	both(t, str(`\`), `"\\"`)
	both(t, str(`\"`), `"\\\""`)
	both(t, str(`"\`), `"\"\\"`)
	both(t, str(`\\`), `"\\\\"`)
	both(t, str(`""`), `"\"\""`)
	both(t, str(`a\nb"c"`), `"a\\nb\"c\""`)
	both(t, str("?1;:*-'`~ 0.5"), "\"?1;:*-'`~ 0.5\"")
	both(t, str(every()[32:127]), `" !\"`+every()[35:92]+`\\`+every()[93:127]+`"`)
	for i := range 256 {
		c := string([]byte{byte(i)})
		switch {
		case c == `"` || c == `\`:
			both(t, str("x"+c+"y"), `"x\`+c+`y"`)
		case i >= 32 && i <= 126:
			both(t, str("x"+c+"y"), `"x`+c+`y"`)
			none(t, `"x\`+c+`y"`)
		default:
			wrong(t, str(c))
			wrong(t, str("x"+c))
			wrong(t, str("x"+c+"y"))
			none(t, `"`+c+`"`)
			none(t, `"x`+c+`y"`)
			none(t, `"x\`+c+`y"`)
			none(t, `"x`+c)
		}
		reads(t, `"x"`+c, str("x"), c)
		reads(t, `"\""`+c, str(`"`), c)
		reads(t, `"\\"`+c, str(`\`), c)
	}
	for _, s := range []string{`"`, `"a`, `"\`, `"\"`, `"\\`, `"\\\"`, `"a\"`, `"abc\" `, `"é"`, "\"\u2028\"", `"\a"`, `"\ "`, `"\0"`, `"a\n"`, "\"\n\"", "\"a\tb\"", "\"\x7f\"", `'a'`} {
		none(t, s)
	}
	wrong(t, str("é"))
	wrong(t, str("a\nb"))
}

// inFirst and inOther are a token's bytes, written out.
const (
	inFirst = "ABCDEFGHIJKLMNOPQRSTUVWXYZabcdefghijklmnopqrstuvwxyz*"
	inOther = inFirst + "0123456789!#$%&'+-.^_`|~:/"
)

// P12.1, P12.2: each byte as a token's first one, and as another one.
func TestTokens(t *testing.T) {
	for i := range 256 {
		c := string([]byte{byte(i)})
		first, other := strings.Contains(inFirst, c), strings.Contains(inOther, c)
		for _, behind := range []string{"", "a", "1", "*", ":", "%"} {
			if Token(c+behind) != first {
				t.Errorf("Token(%q): %v", c+behind, !first)
			}
			if first {
				both(t, token(c+behind), c+behind)
			} else {
				wrong(t, token(c+behind))
			}
		}
		for _, s := range []string{"a" + c, "*" + c, "a" + c + "b", "ab1" + c} {
			if Token(s) != other {
				t.Errorf("Token(%q): %v", s, !other)
			}
			if other {
				both(t, token(s), s)
			} else {
				wrong(t, token(s))
				at := strings.Index(s[1:], c) + 1
				reads(t, s, token(s[:at]), s[at:])
			}
		}
	}
	if Token("") {
		t.Error("nothing is a token")
	}
	wrong(t, token(""))
	both(t, token(inFirst+inOther), inFirst+inOther)
	for s, n := range map[string]int{"a;b": 1, "foo123/456": 10, "*/*;q": 3, "a b": 1, "a,b": 1, "a=1": 1, "a\"b\"": 1, "a?1": 1, "a(b)": 1, "text/html:x, y": 11, "a\\": 1, "aé": 1} {
		reads(t, s, token(s[:n]), s[n:])
	}
	for _, s := range []string{"", " a", "=a", ";a", ",", "(", ")", "!a", "#", "$", "%a", "&", "'a", "^", "_a", "`", "|", "~", "/", "\ta", "\x00", "\x80", "é", "@", "[", "{", "<", ">"} {
		none(t, s)
	}
}

// P12.1, P12.2: bytes between colons.
func TestBytes(t *testing.T) {
	both(t, bytesOf(""), "::")
	both(t, bytesOf("a"), ":YQ==:")
	both(t, bytesOf("ab"), ":YWI=:")
	both(t, bytesOf("abc"), ":YWJj:")
	both(t, bytesOf("\x00"), ":AA==:")
	both(t, bytesOf("\xff\xff\xff"), ":////:")
	both(t, bytesOf("\xfb\xef\xbe"), ":++++:")
	both(t, bytesOf("\"\\:;\n\x7f"), ":"+base64.StdEncoding.EncodeToString([]byte("\"\\:;\n\x7f"))+":")
	both(t, bytesOf(every()), ":"+base64.StdEncoding.EncodeToString([]byte(every()))+":")
	for _, behind := range []string{":", "::", ";a", "=", "==", "a", "AA==:", " ", "\x00"} {
		reads(t, "::"+behind, bytesOf(""), behind)
		reads(t, ":YQ==:"+behind, bytesOf("a"), behind)
	}
	for _, s := range []string{
		":", ":a", ":YQ==", ":YQ", ":YQ:", ":YQ=:", ":YQ===:", ":YR==:", ":YWK=:", ":YWI:", ":YWI==:", ":Y:", ":Y===:", ":=:", ":==:", ":===:", ":====:", ":Y Q==:", ": YQ==:", ":YQ== :", ":YQ==\n:", ":YQ\n==:", ":\n:", ":\r\n:", ":YQ--:", ":Y_-_:",
		":YQ==YQ==:", ":YWJj=:", ":YWJj==:", ":YWJj====:", ":=YQ=:", ":YWJjY:", ":AB==:", ":A/==:", ":AAB=:", ":AA==AA==:", ":YQ==\x00:", ":YQ=\xff:", ":\":", ":?1:", ":YW:Jj:", ":-1:", ":1.5:",
	} {
		none(t, s)
	}
}

// P12.1, P12.2: yes and no.
func TestBools(t *testing.T) {
	both(t, yes(true), "?1")
	both(t, yes(false), "?0")
	for i := range 256 {
		c := string([]byte{byte(i)})
		reads(t, "?1"+c, yes(true), c)
		reads(t, "?0"+c, yes(false), c)
		if c != "0" && c != "1" {
			none(t, "?"+c)
			none(t, "?"+c+"1")
		}
	}
	for _, s := range []string{"?", "??1", "? 1", "?-1", "?true", "?t", "?yes", "?\"1\"", "?2", "?:"} {
		none(t, s)
	}
}

// P12.1: what a kind does not name is nothing; kinds that there are not may not be.
func TestRight(t *testing.T) {
	r := newSlow()
	for k := range 256 {
		for _, n := range []int{0, 1, -1, most, -most, most + 1, -most - 1, math.MaxInt, math.MinInt} {
			for _, s := range []string{"", "a", "*", "1", " ", "\"", "a b", "\x7f", "\x1f", "\x80", "é", "a\x00"} {
				for _, y := range []bool{false, true} {
					b := api.Bare{Kind: uint8(k), Int: n, Text: s, Yes: y}
					if r.right(b) != Right(b) {
						t.Errorf("Right(%s): %v", short(b), Right(b))
					}
					if !r.right(b) {
						wrong(t, b)
					}
				}
			}
		}
	}
	for _, b := range []api.Bare{
		{}, {Kind: 0, Int: 1}, {Kind: 0, Yes: true}, {Kind: api.Bares}, {Kind: 255}, {Kind: api.Bares, Text: "a"},
		{Kind: api.BaInt, Text: "1"}, {Kind: api.BaInt, Int: 1, Yes: true}, {Kind: api.BaDecimal, Int: 1, Text: "a"}, {Kind: api.BaDecimal, Yes: true}, {Kind: api.BaString, Int: 1}, {Kind: api.BaString, Text: "a", Yes: true},
		{Kind: api.BaToken, Text: "a", Int: -1}, {Kind: api.BaToken, Text: "a", Yes: true}, {Kind: api.BaBytes, Int: 1}, {Kind: api.BaBytes, Yes: true}, {Kind: api.BaBool, Int: 1}, {Kind: api.BaBool, Text: "1", Yes: true},
	} {
		wrong(t, b)
	}
}

// P12.3: bytes by sixes of bits, and back.
func TestSixes(t *testing.T) {
	for b, s := range map[string]string{
		"": "", "\x00": "AA==", "\x01": "AQ==", "\x01\x02": "AQI=", "\x00\x00": "AAA=", "\x00\x00\x00": "AAAA", "\xff": "/w==", "\xff\xff": "//8=", "\xff\xff\xff": "////", "f": "Zg==", "fo": "Zm8=", "foo": "Zm9v", "foob": "Zm9vYg==", "fooba": "Zm9vYmE=", "foobar": "Zm9vYmFy",
		"\x00\x10\x83\x10\x51\x87\x20\x92\x8b\x30\xd3\x8f\x41\x14\x93\x51\x55\x97\x61\x96\x9b\x71\xd7\x9f\x82\x18\xa3\x92\x59\xa7\xa2\x9a\xab\xb2\xdb\xaf\xc3\x1c\xb3\xd3\x5d\xb7\xe3\x9e\xbb\xf3\xdf\xbf": "ABCDEFGHIJKLMNOPQRSTUVWXYZabcdefghijklmnopqrstuvwxyz0123456789+/",
	} {
		if o := Sixes(b); o != s {
			t.Errorf("Sixes(%q): %q, not %q", b, o, s)
		}
		if o, ok := Unsix(s); o != b || !ok {
			t.Errorf("Unsix(%q): %q %v, not %q", s, o, ok, b)
		}
	}
	n := mixed(1)
	for i := range 3000 {
		b := someText(n, every(), i%300)
		s := base64.StdEncoding.EncodeToString([]byte(b))
		if o := Sixes(b); o != s {
			t.Fatalf("Sixes(%q): %q, not %q", b, o, s)
		}
		if o, ok := Unsix(s); o != b || !ok {
			t.Fatalf("Unsix(%q): %q %v, not %q", s, o, ok, b)
		}
	}
}

// unsixed holds what Unsix tells against a second reading.
func unsixed(t *testing.T, s string) {
	t.Helper()
	b, err := base64.StdEncoding.Strict().DecodeString(s)
	// That reading passes over ends of lines.
	ok := err == nil && !strings.ContainsAny(s, "\r\n")
	if !ok {
		b = nil
	}
	if o, is := Unsix(s); o != string(b) || is != ok {
		t.Errorf("Unsix(%q): %q %v, not %q %v", s, o, is, b, ok)
	}
}

// P12.3: what is no bytes' sixes.
func TestUnsix(t *testing.T) {
	for _, s := range []string{
		"=", "==", "===", "====", "A", "A=", "A==", "A===", "AA", "AA=", "AA===", "AAA", "AAA==", "AAA===", "AAAA=", "AAAA==", "AAAA===", "AAAA====", "AAAAA", "AAAAAA", "AAAAAAA", "AB==", "AP==", "A/==", "AAB=", "AAD=", "AA/=", "A=A=", "=AAA", "AA=A", "==AA", "AA==AA==", "AA==AAAA", "AAA=AAAA",
		"A-__", "AA-_", " AAAA", "AAAA ", "AA AA", "AAAA\n", "\nAAAA", "AA\r\nAA", "AAAA:", ":AAAA:", "AA=\n=", "\x00AAA", "AAA\xff", "AAAé", "AAA\x80",
	} {
		if o, ok := Unsix(s); o != "" || ok {
			t.Errorf("Unsix(%q): %q %v", s, o, ok)
		}
		unsixed(t, s)
	}
	// The last letters' lowest bits: noughts alone.
	const all = "ABCDEFGHIJKLMNOPQRSTUVWXYZabcdefghijklmnopqrstuvwxyz0123456789+/"
	for i := range all {
		if _, ok := Unsix("A" + all[i:i+1] + "=="); ok != (i&15 == 0) {
			t.Errorf("A%c==: %v", all[i], ok)
		}
		if _, ok := Unsix("AA" + all[i:i+1] + "="); ok != (i&3 == 0) {
			t.Errorf("AA%c=: %v", all[i], ok)
		}
		if _, ok := Unsix("AAA" + all[i:i+1]); !ok {
			t.Errorf("AAA%c: no", all[i])
		}
	}
	for i := range 256 {
		c := string([]byte{byte(i)})
		for _, s := range []string{c, c + "AAA", "A" + c + "AA", "AA" + c + "A", "AAA" + c, "AAAA" + c, "AA" + c + "=", "A" + c + "==", "AA=" + c, "AA==" + c, c + "AA=="} {
			unsixed(t, s)
		}
	}
	const few = "AQg/+=-\n:"
	var deeper func(s string, more int)
	deeper = func(s string, more int) {
		unsixed(t, s)
		for i := range len(few) {
			if more > 0 {
				deeper(s+few[i:i+1], more-1)
			}
		}
	}
	deeper("", 5)
	n := mixed(2)
	for i := range 20000 {
		unsixed(t, someText(n, few, i%13))
	}
}

// P12.2: all texts of one and two bytes, and those of few bytes up to six, held against the second reading.
func TestShortTexts(t *testing.T) {
	r := newSlow()
	r.asRead(t, "")
	for i := range 256 {
		r.asRead(t, string([]byte{byte(i)}))
		for k := range 256 {
			r.asRead(t, string([]byte{byte(i), byte(k)}))
		}
	}
	for _, few := range []string{"-09.;", "\"\\a \x7f", ":Ag=\n/", "?10*a"} {
		var deeper func(s string, more int)
		deeper = func(s string, more int) {
			r.asRead(t, s)
			for i := range len(few) {
				if more > 0 {
					deeper(s+few[i:i+1], more-1)
				}
			}
		}
		deeper("", 6)
	}
}

// P12.2, P12.4: longer texts of many kinds, whole, cut off and changed, held against the second reading.
func TestLongTexts(t *testing.T) {
	r := newSlow()
	for seed := range uint32(4000) {
		n := mixed(seed)
		var s string
		switch n(5) {
		case 0:
			s = strings.Repeat("-", n(2)) + someText(n, "0123456789", n(18))
			if n(2) == 0 {
				s += "." + someText(n, "0123456789", n(6))
			}
		case 1:
			s = `"` + someText(n, "ab \\\\\"~!;", n(20)) + `"`
		case 2:
			s = someText(n, inFirst, 1) + someText(n, inOther, n(20))
		case 3:
			s = ":" + Sixes(someText(n, every(), n(20))) + ":"
		case 4:
			s = "?" + someText(n, "01a?", n(3))
		}
		s += someText(n, every()+";;;,,, ", n(4))
		r.asRead(t, s)
		for i := range len(s) {
			r.asRead(t, s[:i])
			r.asRead(t, s[i:])
			r.asRead(t, s[:i]+someText(n, every(), 1)+s[i+1:])
		}
	}
}

// some is an item that may be.
func some(n func(int) int) api.Bare {
	number := (n(1<<20)<<30 + n(1<<20)<<10 + n(1<<10)) % (most + 1)
	for range n(16) {
		number /= 10
	}
	if n(2) == 0 {
		number = -number
	}
	switch n(6) {
	case 0:
		return whole(number)
	case 1:
		return thousandths(number)
	case 2:
		return str(someText(n, every()[32:127]+`""\\`, n(30)))
	case 3:
		return token(someText(n, inFirst, 1) + someText(n, inOther, n(30)))
	case 4:
		return bytesOf(someText(n, every(), n(30)))
	}
	return yes(n(2) == 0)
}

// goesOn tells whether a byte behind an item's text would be read with it.
func goesOn(b api.Bare, c byte) bool {
	digit := c >= '0' && c <= '9'
	switch b.Kind {
	case api.BaInt:
		return digit || c == '.'
	case api.BaDecimal:
		return digit
	case api.BaToken:
		return strings.IndexByte(inOther, c) >= 0
	}
	return false
}

// P12.4: what may be is read from its text, each byte behind it that does not go on with it; and what is read may be.
func TestThereAndBack(t *testing.T) {
	for seed := range uint32(2000) {
		n := mixed(seed)
		b := some(n)
		s, e := Print(b)
		if e != api.OK || !Right(b) {
			t.Fatalf("%s: %d", short(b), e)
		}
		reads(t, s, b, "")
		for i := range 256 {
			if c := byte(i); !goesOn(b, c) {
				reads(t, s+string([]byte{c}), b, string([]byte{c}))
				reads(t, s+string([]byte{c})+s, b, string([]byte{c})+s)
			}
		}
		long := someText(n, every(), n(200))
		if long != "" && !goesOn(b, long[0]) {
			reads(t, s+long, b, long)
		}
	}
}

// P12.4: every number of thousandths, and every whole one, at both sides of each power of ten.
func TestNumbersThereAndBack(t *testing.T) {
	for power := 1; power <= most+1; power *= 10 {
		for d := -1200; d <= 1200; d++ {
			n := power + d
			if n > most || n < -most {
				wrong(t, whole(n))
				wrong(t, thousandths(n))
				wrong(t, whole(-n))
				wrong(t, thousandths(-n))
				continue
			}
			both(t, whole(n), strconv.Itoa(n))
			both(t, whole(-n), strconv.Itoa(-n))
			s, _ := Print(thousandths(n))
			reads(t, s, thousandths(n), "")
			own, _ := Print(thousandths(-n))
			if n > 0 && own != "-"+s {
				t.Errorf("%d thousandths: %q, below 0 %q", n, s, own)
			}
			reads(t, own, thousandths(-n), "")
		}
	}
}

// R1: long texts end, and soon.
func TestLong(t *testing.T) {
	const many = 1 << 20
	both(t, str(strings.Repeat("a", many)), `"`+strings.Repeat("a", many)+`"`)
	both(t, str(strings.Repeat(`\`, many)), `"`+strings.Repeat(`\\`, many)+`"`)
	both(t, token(strings.Repeat("a", many)), strings.Repeat("a", many))
	both(t, bytesOf(strings.Repeat("\x00", 3*many)), ":"+strings.Repeat("A", 4*many)+":")
	reads(t, "1;"+strings.Repeat("1", many), whole(1), ";"+strings.Repeat("1", many))
	for _, s := range []string{"1", "-1", "1.", "\"", ":"} {
		none(t, s+strings.Repeat("1", many))
	}
	none(t, `"`+strings.Repeat(`\"`, many))
	none(t, `"`+strings.Repeat("a", many)+"\x00\"")
	none(t, strings.Repeat("-", many))
	none(t, strings.Repeat(" ", many))
	none(t, ":"+strings.Repeat("=", many)+":")
	wrong(t, str(strings.Repeat("a", many)+"\x00"))
	wrong(t, token(strings.Repeat("a", many)+" "))
}

// R3, R4: calls answer the same, whatever was called ahead of them, and what was told stays.
func TestSameAgain(t *testing.T) {
	s := `"a\"b";x`
	b, rest, e := Parse(s)
	for i := range 50 {
		_, _, _ = Parse(strings.Repeat("9", i))
		_, _ = Print(whole(i))
		_, _ = Unsix(strings.Repeat("A", i))
		_ = Token("a" + strconv.Itoa(i))
		reads(t, s, str(`a"b`), ";x")
	}
	if b != str(`a"b`) || rest != ";x" || e != api.OK {
		t.Errorf("what was told is changed: %s %q %d", short(b), rest, e)
	}
}
