package tests

import (
	"fmt"
	"math"
	"math/big"
	"math/rand"
	"slices"
	"testing"

	"loop.example/g03318/impl"
)

func TestLimitsOfChapter3(t *testing.T) {
	limits := []int{impl.MaxSecret, impl.MaxCount, impl.Window, impl.Wide, impl.MaxTries, impl.MaxPause}
	if !slices.Equal(limits, []int{2147483646, 1000000, 5, 40, 3, 6}) {
		t.Error("unexpected limits", limits)
	}
	results := []int{impl.TryOpen, impl.TryWait, impl.TryWrong, impl.TryPause, impl.TryBad}
	if !slices.Equal(results, []int{0, 1, 2, 3, 4}) {
		t.Error("unexpected results", results)
	}
}

// codeBy returns the code of a count with exact numbers.
func codeBy(secret int, count int) string {
	prime := big.NewInt(1<<31 - 1)
	x := new(big.Int).Mul(big.NewInt(65537), big.NewInt(int64(count)))
	x.Add(x, big.NewInt(int64(secret)))
	factor := new(big.Int).Exp(big.NewInt(48271), big.NewInt(3), nil)
	x.Mul(x, factor).Mod(x, prime)
	return fmt.Sprintf("%06d", x.Int64()%1000000)
}

func TestCodeOf(t *testing.T) {
	for _, c := range []struct {
		secret, count int
		want          string
	}{
		{1, 0, "394886"},
		{2147418110, 1, "000000"},
		{7226, 0, "000021"},
		{79665, 0, "000008"},
		{12345, 0, "755989"}, {12345, 1, "387854"}, {12345, 2, "019719"}, {12345, 3, "651584"},
		{1, 1000000, "545221"},
		{2147483646, 0, "088761"},
		{2147483646, 1000000, "239096"},
		{0, 0, ""}, {-1, 0, ""}, {2147483647, 0, ""}, {2147483648, 0, ""}, {math.MaxInt, 0, ""}, {math.MinInt, 0, ""},
		{1, -1, ""}, {1, 1000001, ""}, {1, math.MaxInt, ""}, {1, math.MinInt, ""},
		{0, -1, ""}, {math.MaxInt, math.MaxInt, ""}, {math.MinInt, math.MinInt, ""},
	} {
		if got := impl.CodeOf(c.secret, c.count); got != c.want {
			t.Errorf("CodeOf(%d, %d): %q instead of %q", c.secret, c.count, got, c.want)
		}
	}
}

func TestCodeOfFollowsTheRule(t *testing.T) {
	r := rand.New(rand.NewSource(41))
	zeros := 0
	for range 20000 {
		secret, count := 1+r.Intn(impl.MaxSecret), r.Intn(impl.MaxCount+1)
		if r.Intn(3) == 0 {
			secret, count = 1+r.Intn(100), r.Intn(100)
		}
		want := codeBy(secret, count)
		if got := impl.CodeOf(secret, count); got != want {
			t.Fatalf("CodeOf(%d, %d): %q instead of %q", secret, count, got, want)
		}
		if want[0] == '0' {
			zeros++
		}
	}
	if zeros < 1000 {
		t.Error("too few codes with leading zeros", zeros)
	}
}

// twinCounts is a distance of two counts that have the same code for many secrets.
const twinCounts = 798606

// twinSecret returns a secret with which the counts first and first+twinCounts have the same code.
func twinSecret(t *testing.T, first int) int {
	for secret := 1; secret < 1000; secret++ {
		if impl.CodeOf(secret, first) == impl.CodeOf(secret, first+twinCounts) {
			return secret
		}
	}
	t.Fatal("no secret has the same code for two counts", first)
	return 0
}

// The numbers of two counts differ by a constant, so the distances at which codes can be equal do not depend on the secret.
func TestEqualCodesAreFarApart(t *testing.T) {
	const prime = 1<<31 - 1
	step := 65537
	for range 3 {
		step = step * 48271 % prime
	}
	near := []int{}
	for distance := 1; distance <= impl.MaxCount; distance++ {
		difference := step * distance % prime
		if difference%1000000 == 0 || (prime-difference)%1000000 == 0 {
			near = append(near, distance)
		}
	}
	if !slices.Equal(near, []int{twinCounts, 917825}) {
		t.Error("unexpected distances", near)
	}
	r := rand.New(rand.NewSource(42))
	for range 500 {
		secret, first := 1+r.Intn(impl.MaxSecret), r.Intn(impl.MaxCount-impl.Wide)
		seen := map[string]bool{}
		for n := first; n < first+impl.Wide; n++ {
			seen[impl.CodeOf(secret, n)] = true
		}
		if len(seen) != impl.Wide {
			t.Fatalf("equal codes from %d on with the secret %d", first, secret)
		}
	}
}

func TestTryName(t *testing.T) {
	for result, want := range map[int]string{
		impl.TryOpen: "open", impl.TryWait: "wait", impl.TryWrong: "wrong", impl.TryPause: "pause", impl.TryBad: "bad",
		-1: "", 5: "", 100: "", math.MaxInt: "", math.MinInt: "",
	} {
		if got := impl.TryName(result); got != want {
			t.Errorf("TryName(%d): %q", result, got)
		}
	}
}

// badPads returns pads that are not valid.
func badPads() []impl.Pad {
	return []impl.Pad{
		{}, {Secret: 0, Count: 5}, {Secret: -1}, {Secret: 2147483647}, {Secret: math.MaxInt}, {Secret: math.MinInt},
		{Secret: 1, Count: -1}, {Secret: 1, Count: 1000002}, {Secret: 1, Count: math.MaxInt}, {Secret: 1, Count: math.MinInt},
		{Secret: math.MaxInt, Count: math.MaxInt}, {Secret: math.MinInt, Count: math.MinInt},
	}
}

func TestPadOk(t *testing.T) {
	for _, p := range []impl.Pad{{Secret: 1}, {Secret: 2147483646}, {Secret: 1, Count: 1}, {Secret: 5, Count: 1000000}, {Secret: 5, Count: 1000001}, {Secret: 2147483646, Count: 1000001}} {
		if !impl.PadOk(p) {
			t.Error("a valid pad is rejected", p)
		}
	}
	for _, p := range badPads() {
		if impl.PadOk(p) {
			t.Error("a bad pad is accepted", p)
		}
	}
}

func TestPress(t *testing.T) {
	for _, c := range []struct {
		pad, want impl.Pad
		code      string
	}{
		{impl.Pad{Secret: 1}, impl.Pad{Secret: 1, Count: 1}, "394886"},
		{impl.Pad{Secret: 2147418110, Count: 1}, impl.Pad{Secret: 2147418110, Count: 2}, "000000"},
		{impl.Pad{Secret: 12345, Count: 2}, impl.Pad{Secret: 12345, Count: 3}, "019719"},
		{impl.Pad{Secret: 2147483646, Count: 999999}, impl.Pad{Secret: 2147483646, Count: 1000000}, codeBy(2147483646, 999999)},
		{impl.Pad{Secret: 1, Count: 1000000}, impl.Pad{Secret: 1, Count: 1000001}, "545221"},
	} {
		if got, code, ok := impl.Press(c.pad); got != c.want || code != c.code || !ok {
			t.Errorf("Press of %v: %v, %q, %v", c.pad, got, code, ok)
		}
	}
	for _, p := range append(badPads(), impl.Pad{Secret: 1, Count: 1000001}, impl.Pad{Secret: 2147483646, Count: 1000001}) {
		if got, code, ok := impl.Press(p); got != p || code != "" || ok {
			t.Errorf("Press of %v: %v, %q, %v", p, got, code, ok)
		}
	}
}

func TestPressShowsTheCodesInOrder(t *testing.T) {
	p := impl.Pad{Secret: 77, Count: 999000}
	for n := 999000; n <= impl.MaxCount; n++ {
		q, code, ok := impl.Press(p)
		if !ok || code != impl.CodeOf(77, n) || q != (impl.Pad{Secret: 77, Count: n + 1}) {
			t.Fatalf("Press of %v: %v, %q, %v", p, q, code, ok)
		}
		p = q
	}
	if q, code, ok := impl.Press(p); ok || code != "" || q != p {
		t.Error("a pad without counts shows a code", q, code)
	}
}

func TestMostWrong(t *testing.T) {
	for time, want := range map[int]int{
		0: 3, 1: 6, 2: 6, 3: 9, 6: 9, 7: 12, 14: 12, 15: 15, 30: 15, 31: 18, 62: 18, 63: 21, 126: 21, 127: 24, 190: 24, 191: 27, 254: 27, 255: 30,
		19999: 954, 20000: 954, 20001: 0, -1: 0, -3: 0, math.MaxInt: 0, math.MinInt: 0,
	} {
		if got := impl.MostWrong(time); got != want {
			t.Errorf("MostWrong(%d): %d instead of %d", time, got, want)
		}
	}
}
