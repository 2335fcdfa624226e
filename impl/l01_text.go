package impl

import (
	"strconv"
	"strings"
)

const (
	MaxInputLen      = 20000
	MaxUint          = 1000000000
	MaxLineLen       = 600
	MaxFieldsPerLine = 24
	MaxTime          = 20000
	WeekHours        = 168
	MaxSpans         = 20
)

// hexDigits has the hexadecimal digits at the indexes of their values.
const hexDigits = "0123456789abcdef"

type Span struct {
	From int
	To   int
}

type Week struct {
	Open   []Span
	Closed []Span
}

// EncodeHex returns the lowercase hexadecimal encoding of s, two digits per byte with the high
// half first, and true. It returns "" and false if s is longer than MaxInputLen bytes. Example:
// EncodeHex("az") returns "617a" and true.
func EncodeHex(s string) (string, bool) {
	if len(s) > MaxInputLen {
		return "", false
	}
	text := make([]byte, 0, 2*len(s))
	for at := range len(s) {
		text = append(text, hexDigits[s[at]>>4], hexDigits[s[at]&15])
	}
	return string(text), true
}

// DecodeHex returns the string t for which EncodeHex(t) is s, and true. It returns "" and false
// if there is no such string (an odd length, a character other than 0-9 and a-f, or a result
// longer than MaxInputLen).
func DecodeHex(s string) (string, bool) {
	if len(s)%2 != 0 || len(s)/2 > MaxInputLen {
		return "", false
	}
	decoded := make([]byte, 0, len(s)/2)
	for at := 0; at < len(s); at += 2 {
		high, low := hexValue(s[at]), hexValue(s[at+1])
		if high < 0 || low < 0 {
			return "", false
		}
		decoded = append(decoded, byte(high*16+low))
	}
	return string(decoded), true
}

// hexValue returns the value of a hexadecimal digit, or -1 for any other byte.
func hexValue(b byte) int {
	for value, digit := range hexDigits {
		if digit == rune(b) {
			return value
		}
	}
	return -1
}

// FormatInt returns n in decimal without leading zeros, with a leading `-` for a negative number.
// It is defined for every int; FormatInt(0) is "0".
func FormatInt(n int) string { return strconv.Itoa(n) }

// ParseUint returns the number n in the range 0 to MaxUint for which FormatInt(n) is s, and true.
// It returns 0 and false if there is none. Example: ParseUint("01") returns 0 and false.
func ParseUint(s string) (int, bool) {
	if s == "" || (s[0] == '0' && s != "0") {
		return 0, false
	}
	n := 0
	for _, digit := range s {
		if digit < '0' || digit > '9' {
			return 0, false
		}
		n = n*10 + int(digit-'0')
		// Checked at each digit, so that a long text cannot overflow n.
		if n > MaxUint {
			return 0, false
		}
	}
	return n, true
}

// SplitFields returns the fields of a line in order, and true. Fields are maximal runs of bytes
// other than the space (byte 32); leading and trailing spaces are ignored. SplitFields returns
// nil and false if the line is longer than MaxLineLen bytes, contains a byte outside the range 32
// to 126, or has more than MaxFieldsPerLine fields. An empty line and a line of spaces have no
// fields.
func SplitFields(line string) ([]string, bool) {
	if len(line) > MaxLineLen {
		return nil, false
	}
	// The fields are clones, as a result shares no memory with an argument.
	fields := []string{}
	valid := true
	start := -1
scan:
	for at := 0; at < len(line); at++ {
		switch b := line[at]; {
		case b < 32 || b > 126:
			valid = false
			break scan
		case b != ' ':
			if start < 0 {
				start = at
			}
		case start >= 0:
			fields = append(fields, strings.Clone(line[start:at]))
			start = -1
		}
	}
	if start >= 0 {
		fields = append(fields, strings.Clone(line[start:]))
	}
	if !valid || len(fields) > MaxFieldsPerLine {
		return nil, false
	}
	return fields, true
}

// Clamp returns n clamped to the range low to high. If high is less than low, it returns low.
func Clamp(n int, low int, high int) int { return max(low, min(n, high)) }

// SpansOk reports whether there are at most MaxSpans spans; From of each is at least 0 and less
// than To, and To is at most most; and From of each but the first one is greater than To of the
// one before it. No spans at all are always correct.
func SpansOk(list []Span, most int) bool {
	if len(list) > MaxSpans {
		return false
	}
	for i, s := range list {
		if s.From < 0 || s.From >= s.To || s.To > most {
			return false
		}
		if i > 0 && s.From <= list[i-1].To {
			return false
		}
	}
	return true
}

// WeekOk reports whether SpansOk is true for Open and WeekHours, and for Closed and MaxTime.
func WeekOk(w Week) bool { return SpansOk(w.Open, WeekHours) && SpansOk(w.Closed, MaxTime) }

// isTime reports whether t is a time.
func isTime(t int) bool { return t >= 0 && t <= MaxTime }

// IsOpen reports whether w is valid, there is such an hour, hour modulo WeekHours belongs to a
// span of Open, and hour to no span of Closed.
func IsOpen(w Week, hour int) bool {
	return WeekOk(w) && hour >= 0 && hour < MaxTime && openAt(w, hour)
}

// openAt is IsOpen for a valid week and an hour that there is; it spares the callers that look at
// many hours from checking the week each time.
func openAt(w Week, hour int) bool {
	return inSpans(w.Open, hour%WeekHours) && !inSpans(w.Closed, hour)
}

// inSpans reports whether an hour belongs to one of the spans. They are in ascending order, so the
// first one that ends after the hour decides.
func inSpans(list []Span, hour int) bool {
	for _, s := range list {
		if hour < s.To {
			return hour >= s.From
		}
	}
	return false
}

// OpenHours returns the number of hours from from to to-1 for which IsOpen is true. It returns 0
// if w is not valid, from or to is not a time, or to is less than from.
func OpenHours(w Week, from int, to int) int {
	if !WeekOk(w) || !isTime(from) || !isTime(to) || to < from {
		return 0
	}
	open := 0
	for i := range to - from {
		if openAt(w, from+i) {
			open++
		}
	}
	return open
}

// AfterOpen returns the least time t that is at least from and for which OpenHours(w, from, t) is
// n, and true. It returns 0 and false if there is none, w is not valid, or from is not a time.
// Example: for a week with the one span 8 to 18 in Open and nothing in Closed, AfterOpen(w, 10,
// 9) returns 177 and true: the hours 10 to 17 and 176.
func AfterOpen(w Week, from int, n int) (int, bool) {
	if n < 0 || !WeekOk(w) || !isTime(from) {
		return 0, false
	}
	left := n
	for t := from; ; t++ {
		if left == 0 {
			return t, true
		}
		if t == MaxTime {
			return 0, false
		}
		if openAt(w, t) {
			left--
		}
	}
}

// BeforeOpen returns the greatest time t that is at least from and for which OpenHours(w, from,
// t) is at most n, and true. It returns 0 and false if n is negative, w is not valid, or from is
// not a time. For the same week, BeforeOpen(w, 10, 8) returns 176 and true.
func BeforeOpen(w Week, from int, n int) (int, bool) {
	if n < 0 || !WeekOk(w) || !isTime(from) {
		return 0, false
	}
	left := n
	for t := from; t < MaxTime; t++ {
		if !openAt(w, t) {
			continue
		}
		if left == 0 {
			return t, true
		}
		left--
	}
	return MaxTime, true
}
