package tests

import (
	"math"
	"math/rand"
	"slices"
	"strings"
	"testing"

	"loop.example/g03318/impl"
)

func TestLimitsOfChapter1(t *testing.T) {
	limits := []int{impl.MaxInputLen, impl.MaxUint, impl.MaxLineLen, impl.MaxFieldsPerLine, impl.MaxTime, impl.WeekHours, impl.MaxSpans}
	if !slices.Equal(limits, []int{20000, 1000000000, 600, 24, 20000, 168, 20}) {
		t.Error("unexpected limits", limits)
	}
}

// allBytes returns a string with each byte once.
func allBytes() string {
	all := make([]byte, 256)
	for i := range all {
		all[i] = byte(i)
	}
	return string(all)
}

func TestEncodeHex(t *testing.T) {
	for _, c := range []struct {
		s, want string
		ok      bool
	}{
		{"", "", true},
		{"az", "617a", true},
		{"\x00\x0f\xf0\xff", "000ff0ff", true},
		{"\xc3\xa9\x80", "c3a980", true},
		{strings.Repeat("\xab", 20000), strings.Repeat("ab", 20000), true},
		{strings.Repeat("a", 20001), "", false},
		{strings.Repeat("a", 50000), "", false},
	} {
		if got, ok := impl.EncodeHex(c.s); got != c.want || ok != c.ok {
			t.Errorf("EncodeHex of %d bytes: %d bytes, %v", len(c.s), len(got), ok)
		}
	}
}

func TestDecodeHex(t *testing.T) {
	for _, c := range []struct {
		s, want string
		ok      bool
	}{
		{"", "", true},
		{"617a", "az", true},
		{"000ff0ff", "\x00\x0f\xf0\xff", true},
		{"c3a980", "\xc3\xa9\x80", true},
		{"6", "", false},
		{"617", "", false},
		{"617A", "", false},
		{"6g", "", false},
		{"g6", "", false},
		{"0x", "", false},
		{"61 7a", "", false},
		{"617a\n", "", false},
		{"é", "", false},
		{"617a-1", "", false},
		{strings.Repeat("ab", 20000), strings.Repeat("\xab", 20000), true},
		{strings.Repeat("ab", 20000) + "a", "", false},
		{strings.Repeat("ab", 20001), "", false},
		{strings.Repeat("ab", 19999) + "aG", "", false},
	} {
		if got, ok := impl.DecodeHex(c.s); got != c.want || ok != c.ok {
			t.Errorf("DecodeHex of %d bytes: %d bytes, %v", len(c.s), len(got), ok)
		}
	}
}

func TestDecodeHexOfAllPairs(t *testing.T) {
	for high := range 256 {
		for low := range 256 {
			s := string([]byte{byte(high), byte(low)})
			want := strings.Trim(s, "0123456789abcdef") == ""
			got, ok := impl.DecodeHex(s)
			if ok != want || !ok && got != "" {
				t.Fatalf("DecodeHex(%q): %q, %v", s, got, ok)
			}
			if back, _ := impl.EncodeHex(got); ok && back != s {
				t.Fatalf("EncodeHex(%q): %q", got, back)
			}
		}
	}
}

func TestHexRoundTrip(t *testing.T) {
	for _, s := range []string{"", "a", "az", allBytes(), strings.Repeat(allBytes(), 78), strings.Repeat("\xff", 20000)} {
		text, ok := impl.EncodeHex(s)
		if back, fine := impl.DecodeHex(text); !ok || !fine || back != s || len(text) != 2*len(s) {
			t.Errorf("a string of %d bytes does not come back: %v %v", len(s), ok, fine)
		}
	}
}

func TestFormatInt(t *testing.T) {
	for n, want := range map[int]string{
		0: "0", 1: "1", 9: "9", 10: "10", -1: "-1", -7: "-7", -10: "-10", 100: "100", 12345: "12345",
		1000000000: "1000000000", 1000000001: "1000000001", -1000000000: "-1000000000",
		math.MaxInt: "9223372036854775807", math.MinInt: "-9223372036854775808", math.MinInt + 1: "-9223372036854775807",
	} {
		if got := impl.FormatInt(n); got != want {
			t.Errorf("FormatInt(%d): %q", n, got)
		}
	}
}

func TestParseUint(t *testing.T) {
	for s, want := range map[string]int{"0": 0, "1": 1, "9": 9, "10": 10, "100": 100, "305": 305, "999999999": 999999999, "1000000000": 1000000000} {
		if got, ok := impl.ParseUint(s); got != want || !ok {
			t.Errorf("ParseUint(%q): %d, %v", s, got, ok)
		}
	}
	for _, s := range []string{
		"", "01", "00", "007", "0000000001", "-1", "-0", "+1", "-", " 1", "1 ", "1a", "a1", "a", "1_0", "0x1", "1.0", "1e3", "1\n", "1\x00",
		"/", ":", "1/", "1:", "\u0661", "1\u0661", "\uff11", "\xff", "1\xff",
		"1000000001", "1000000010", "2000000000", "9999999999", "10000000000", "9223372036854775807", "9223372036854775808",
		"18446744073709551616", "18446744073709551617", "36893488147419103232", "1" + strings.Repeat("0", 30), strings.Repeat("9", 1000),
		strings.Repeat("0", 1000),
	} {
		if got, ok := impl.ParseUint(s); got != 0 || ok {
			t.Errorf("ParseUint(%q): %d, %v", s, got, ok)
		}
	}
}

func TestDecimalRoundTrip(t *testing.T) {
	r := rand.New(rand.NewSource(1))
	numbers := []int{impl.MaxUint - 1, impl.MaxUint}
	for i := range 5000 {
		numbers = append(numbers, i, r.Intn(impl.MaxUint+1), r.Intn(1<<r.Intn(30)))
	}
	for _, n := range numbers {
		text := impl.FormatInt(n)
		if back, ok := impl.ParseUint(text); !ok || back != n {
			t.Fatalf("%d does not come back from %q: %d, %v", n, text, back, ok)
		}
		if back, ok := impl.ParseUint("0" + text); ok || back != 0 {
			t.Fatalf("ParseUint(%q): %d, %v", "0"+text, back, ok)
		}
		if back, ok := impl.ParseUint(impl.FormatInt(-1 - n)); ok || back != 0 {
			t.Fatalf("ParseUint of %d: %d, %v", -1-n, back, ok)
		}
		if back, ok := impl.ParseUint(impl.FormatInt(impl.MaxUint + 1 + n)); ok || back != 0 {
			t.Fatalf("ParseUint of %d: %d, %v", impl.MaxUint+1+n, back, ok)
		}
	}
}

func TestSplitFields(t *testing.T) {
	for _, c := range []struct {
		line string
		want []string
	}{
		{"", nil},
		{" ", nil},
		{"     ", nil},
		{"a", []string{"a"}},
		{" a", []string{"a"}},
		{"a ", []string{"a"}},
		{"  put  7   3  ", []string{"put", "7", "3"}},
		{"!\"# ~}|", []string{"!\"#", "~}|"}},
		{strings.Repeat(" ", 600), nil},
		{strings.Repeat("a", 600), []string{strings.Repeat("a", 600)}},
		{strings.Repeat(" ", 599) + "b", []string{"b"}},
		{strings.Repeat("x ", 24), slices.Repeat([]string{"x"}, 24)},
		{"x" + strings.Repeat(" x", 23), slices.Repeat([]string{"x"}, 24)},
		{strings.Repeat(" ", 300) + strings.Repeat("x ", 24), slices.Repeat([]string{"x"}, 24)},
	} {
		if got, ok := impl.SplitFields(c.line); !ok || !slices.Equal(got, c.want) {
			t.Errorf("SplitFields(%q): %q, %v", c.line, got, ok)
		}
	}
}

func TestSplitFieldsRejects(t *testing.T) {
	for _, line := range []string{
		strings.Repeat(" ", 601),
		strings.Repeat("a", 601),
		strings.Repeat("a", 100000),
		strings.Repeat("x ", 25),
		"x" + strings.Repeat(" x", 24),
		strings.Repeat("x ", 300),
		"a\tb", "a b\n", "\x00", "a\x1f", "\x7fa", "a b\x80c d", "caf\xc3\xa9", "\xffa b", "\x1f" + strings.Repeat(" x", 25),
	} {
		if got, ok := impl.SplitFields(line); ok || got != nil {
			t.Errorf("SplitFields(%q): %q, %v", line, got, ok)
		}
	}
	for b := range 256 {
		for _, line := range []string{string([]byte{byte(b)}), "a " + string([]byte{byte(b)}) + " c", string([]byte{byte(b)}) + "b", "b" + string([]byte{byte(b)})} {
			got, ok := impl.SplitFields(line)
			if want := b >= 32 && b <= 126; ok != want || !ok && got != nil {
				t.Fatalf("SplitFields(%q): %q, %v", line, got, ok)
			}
		}
	}
}

func TestSplitFieldsOfManyLines(t *testing.T) {
	r := rand.New(rand.NewSource(2))
	for range 3000 {
		line := make([]byte, r.Intn(60))
		for i := range line {
			line[i] = "  aZ09!~"[r.Intn(8)]
		}
		want := strings.Fields(string(line))
		got, ok := impl.SplitFields(string(line))
		if ok != (len(want) <= 24) || ok && !slices.Equal(got, want) || !ok && got != nil {
			t.Fatalf("SplitFields(%q): %q, %v", line, got, ok)
		}
	}
}

func TestClamp(t *testing.T) {
	for _, c := range []struct{ n, low, high, want int }{
		{3, 1, 5, 3}, {0, 1, 5, 1}, {9, 1, 5, 5}, {1, 1, 5, 1}, {5, 1, 5, 5}, {-9, -5, -1, -5}, {0, -5, -1, -1}, {7, 4, 4, 4},
		{3, 5, 1, 5}, {0, 5, 1, 5}, {9, 5, 1, 5}, {5, 5, 4, 5},
		{math.MinInt, math.MinInt, math.MaxInt, math.MinInt}, {math.MaxInt, math.MinInt, math.MaxInt, math.MaxInt},
		{math.MinInt, 0, 1, 0}, {math.MaxInt, 0, 1, 1}, {0, math.MaxInt, math.MinInt, math.MaxInt}, {math.MaxInt, math.MinInt, math.MinInt, math.MinInt},
	} {
		if got := impl.Clamp(c.n, c.low, c.high); got != c.want {
			t.Errorf("Clamp(%d, %d, %d): %d", c.n, c.low, c.high, got)
		}
	}
	for n := -6; n <= 6; n++ {
		for low := -4; low <= 4; low++ {
			for high := low; high <= 4; high++ {
				got := impl.Clamp(n, low, high)
				if got < low || got > high || n >= low && n <= high && got != n || n < low && got != low || n > high && got != high {
					t.Fatalf("Clamp(%d, %d, %d): %d", n, low, high, got)
				}
			}
		}
	}
}
