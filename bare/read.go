package bare

import (
	"strings"

	"causey/api"
)

// readNumber reads the number that s begins with.
func readNumber(s string) (b api.Bare, rest string, ok bool) {
	var part string
	unsigned, minus := strings.CutPrefix(s, "-")
	whole, rest := digits(unsigned)
	behind, pointed := strings.CutPrefix(rest, ".")
	if whole == "" || len(whole) > intDigits {
		goto none
	}
	b = api.Bare{Kind: api.BaInt, Int: value(whole)}
	if pointed {
		part, rest = digits(behind)
		if len(whole) > wholeDigits || part == "" || len(part) > partDigits {
			goto none
		}
		b = api.Bare{Kind: api.BaDecimal, Int: value(whole + (part + "00")[:partDigits])}
	}
	if minus {
		b.Int = -b.Int
	}
	return b, rest, true
none:
	return api.Bare{}, "", false
}

// digits is the digits that s begins with, and what stands behind them.
func digits(s string) (of, rest string) {
	n := run(s, digit)
	return s[:n], s[n:]
}

// value is the number of these digits, which are not so many that it could wrap round.
func value(digits string) int {
	n := 0
	for _, c := range each(digits) {
		n = n*10 + int(c-'0')
	}
	return n
}

// readString reads the string that s, whose first byte is a ", begins with.
func readString(s string) (b api.Bare, rest string, ok bool) {
	var o strings.Builder
	ahead := false // whether the last byte is a \ that counts for the next one
	for i, c := range each(s[1:]) {
		switch {
		case !inString(c), ahead && !marked(c):
			goto none
		case !ahead && c == '"':
			return api.Bare{Kind: api.BaString, Text: o.String()}, s[i+2:], true
		case !ahead && c == '\\':
			ahead = true
			continue
		}
		o.WriteByte(c)
		ahead = false
	}
none:
	return api.Bare{}, "", false
}

// readToken reads the token that s, whose first byte is one's, begins with.
func readToken(s string) (b api.Bare, rest string, ok bool) {
	n := run(s, inToken)
	return api.Bare{Kind: api.BaToken, Text: s[:n]}, s[n:], true
}

// readBytes reads the bytes that s, whose first byte is a colon, begins with.
func readBytes(s string) (b api.Bare, rest string, ok bool) {
	sixes, rest, ended := strings.Cut(s[1:], ":")
	o, ok := Unsix(sixes)
	if !ended || !ok {
		goto none
	}
	return api.Bare{Kind: api.BaBytes, Text: o}, rest, true
none:
	return api.Bare{}, "", false
}

// readBool reads the yes or no that s, whose first byte is a ?, begins with.
func readBool(s string) (b api.Bare, rest string, ok bool) {
	for _, yes := range [...]bool{false, true} {
		b = api.Bare{Kind: api.BaBool, Yes: yes}
		rest, ok = strings.CutPrefix(s, truth(b))
		if ok {
			return b, rest, true
		}
	}
	return api.Bare{}, "", false
}
