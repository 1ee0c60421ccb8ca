package bare

import (
	"strconv"
	"strings"

	"causey/api"
)

// decimal is so many thousandths as a text; n may be a BaDecimal's.
func decimal(n int) string {
	sign := ""
	if n < 0 {
		sign, n = "-", -n
	}
	// A thousand more keeps the noughts ahead.
	part := strconv.Itoa(thousand + n%thousand)[1:]
	return sign + strconv.Itoa(n/thousand) + "." + part[:1] + strings.TrimRight(part[1:], "0")
}

// quoted is a string's text.
func quoted(s string) string {
	var o strings.Builder
	o.WriteByte('"')
	for _, c := range each(s) {
		if marked(c) {
			o.WriteByte('\\')
		}
		o.WriteByte(c)
	}
	o.WriteByte('"')
	return o.String()
}

// marked tells whether c has a \ ahead of it in a string's text.
func marked(c byte) bool { return c == '\\' || c == '"' }

// truth is a yes or no as a text.
func truth(b api.Bare) string {
	if b.Yes {
		return "?1"
	}
	return "?0"
}
