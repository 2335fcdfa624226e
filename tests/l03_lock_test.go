package tests

import (
	"math"
	"math/rand"
	"testing"

	"loop.example/g03318/impl"
)

// code returns the code of a count with the secret of most of these tests.
func code(count int) string { return impl.CodeOf(12345, count) }

// badCodes returns texts that are no codes.
func badCodes() []string {
	return []string{"", "x", "0", "00000", "75598", "7559890", "0755989", " 755989", "755989 ", "75598x", "abcdef", "-55989", "+55989", "\x00\x00\x00\x00\x00\x00", "٧٥٥", "7559.9"}
}

// badLocks returns locks of which one field is out of its range, or all are.
func badLocks() []impl.Lock {
	locks := []impl.Lock{{}, {Next: 4, Tries: 1, Pauses: 1, Until: 1}}
	good := impl.Lock{Secret: 12345, Next: 3, Tries: 1, Pauses: 2, Until: 7}
	add := func(set func(l *impl.Lock, n int), values ...int) {
		for _, n := range append(values, math.MinInt, math.MaxInt) {
			l := good
			set(&l, n)
			locks = append(locks, l)
		}
	}
	add(func(l *impl.Lock, n int) { l.Secret = n }, 0, -1, -12345, 2147483647)
	add(func(l *impl.Lock, n int) { l.Next = n }, -1, 1000002)
	add(func(l *impl.Lock, n int) { l.Tries = n }, -1, 3)
	add(func(l *impl.Lock, n int) { l.Pauses = n }, -1, 7)
	add(func(l *impl.Lock, n int) { l.Until = n }, -1, 20065)
	add(func(l *impl.Lock, n int) { *l = impl.Lock{Secret: n, Next: n, Tries: n, Pauses: n, Until: n} }, -1)
	return locks
}

func TestLockOk(t *testing.T) {
	for _, l := range []impl.Lock{
		{Secret: 1}, {Secret: 2147483646}, {Secret: 1, Next: 1000000}, {Secret: 1, Next: 1000001}, {Secret: 1, Tries: 1}, {Secret: 1, Tries: 2},
		{Secret: 1, Pauses: 6}, {Secret: 1, Until: 20000}, {Secret: 1, Until: 20064}, {Secret: 2147483646, Next: 1000001, Tries: 2, Pauses: 6, Until: 20064},
	} {
		if !impl.LockOk(l) {
			t.Error("a valid lock is rejected", l)
		}
	}
	for _, l := range badLocks() {
		if impl.LockOk(l) {
			t.Error("a bad lock is accepted", l)
		}
	}
}

func TestNewLock(t *testing.T) {
	for _, secret := range []int{1, 2, 12345, 2147483645, 2147483646} {
		if l, ok := impl.NewLock(secret); !ok || l != (impl.Lock{Secret: secret}) {
			t.Error("unexpected lock", secret, l, ok)
		}
	}
	for _, secret := range []int{0, -1, 2147483647, 2147483648, math.MinInt, math.MaxInt} {
		if l, ok := impl.NewLock(secret); ok || l != (impl.Lock{}) {
			t.Error("unexpected lock", secret, l, ok)
		}
	}
}

func TestMatchOf(t *testing.T) {
	for _, next := range []int{0, 1, 5, 1000, 999994, 999995, 999996, 999997, 999998, 999999, 1000000, 1000001} {
		l := impl.Lock{Secret: 12345, Next: next, Tries: 2, Pauses: 6, Until: 20064}
		for n := max(0, next-3); n < next+8; n++ {
			want := -1
			if n >= next && n <= next+4 && n <= 1000000 {
				want = n
			}
			if got := impl.MatchOf(l, code(n)); got != want {
				t.Errorf("MatchOf the code of %d for %d as Next: %d", n, next, got)
			}
		}
		for _, bad := range badCodes() {
			if got := impl.MatchOf(l, bad); got != -1 {
				t.Errorf("MatchOf %q for %d as Next: %d", bad, next, got)
			}
		}
	}
	for _, l := range badLocks() {
		for _, text := range append(badCodes(), code(0), code(3), code(4), impl.CodeOf(l.Secret, l.Next)) {
			if got := impl.MatchOf(l, text); got != -1 {
				t.Errorf("MatchOf %q for a bad lock %v: %d", text, l, got)
			}
		}
	}
}

// Codes are compared, not counts: the code of a count that was passed long ago opens for one that has the same.
func TestMatchOfACodeOfTwoCounts(t *testing.T) {
	for _, first := range []int{0, 7, 201394} {
		secret := twinSecret(t, first)
		twin := first + twinCounts
		text := impl.CodeOf(secret, first)
		for next := twin - 6; next <= twin+1; next++ {
			want := -1
			if next <= twin && twin <= next+4 {
				want = twin
			}
			if got := impl.MatchOf(impl.Lock{Secret: secret, Next: next}, text); got != want {
				t.Errorf("MatchOf the code of %d and %d for %d as Next: %d", first, twin, next, got)
			}
		}
		if got := impl.MatchOf(impl.Lock{Secret: secret, Next: first}, text); got != first {
			t.Errorf("MatchOf the code of %d and %d: %d", first, twin, got)
		}
	}
}

func TestTry(t *testing.T) {
	for i, c := range []struct {
		lock   impl.Lock
		code   string
		now    int
		want   impl.Lock
		result int
	}{
		{impl.Lock{Secret: 12345}, code(0), 0, impl.Lock{Secret: 12345, Next: 1}, impl.TryOpen},
		{impl.Lock{Secret: 12345}, code(4), 20000, impl.Lock{Secret: 12345, Next: 5}, impl.TryOpen},
		{impl.Lock{Secret: 12345}, code(5), 0, impl.Lock{Secret: 12345, Tries: 1}, impl.TryWrong},
		{impl.Lock{Secret: 12345, Next: 9}, code(8), 3, impl.Lock{Secret: 12345, Next: 9, Tries: 1}, impl.TryWrong},
		{impl.Lock{Secret: 12345, Next: 9, Tries: 2, Pauses: 6, Until: 7}, code(10), 7, impl.Lock{Secret: 12345, Next: 11, Until: 7}, impl.TryOpen},
		{impl.Lock{Secret: 12345, Next: 9, Tries: 2, Pauses: 6, Until: 7}, code(10), 6, impl.Lock{Secret: 12345, Next: 9, Tries: 2, Pauses: 6, Until: 7}, impl.TryWait},
		{impl.Lock{Secret: 12345, Until: 20064}, code(0), 20000, impl.Lock{Secret: 12345, Until: 20064}, impl.TryWait},
		{impl.Lock{Secret: 12345, Until: 20001}, "x", 20000, impl.Lock{Secret: 12345, Until: 20001}, impl.TryWait},
		{impl.Lock{Secret: 12345, Until: 20000}, code(0), 20000, impl.Lock{Secret: 12345, Next: 1, Until: 20000}, impl.TryOpen},
		{impl.Lock{Secret: 12345, Until: 20000}, code(0), 20001, impl.Lock{Secret: 12345, Until: 20000}, impl.TryBad},
		{impl.Lock{Secret: 12345}, code(0), 20001, impl.Lock{Secret: 12345}, impl.TryBad},
		{impl.Lock{Secret: 12345}, code(0), -1, impl.Lock{Secret: 12345}, impl.TryBad},
		{impl.Lock{Secret: 12345, Until: 5}, code(0), -1, impl.Lock{Secret: 12345, Until: 5}, impl.TryBad},
		{impl.Lock{Secret: 12345}, code(0), math.MaxInt, impl.Lock{Secret: 12345}, impl.TryBad},
		{impl.Lock{Secret: 12345}, code(0), math.MinInt, impl.Lock{Secret: 12345}, impl.TryBad},
		{impl.Lock{Secret: 12345, Next: 1000000}, code(1000000), 1, impl.Lock{Secret: 12345, Next: 1000001}, impl.TryOpen},
		{impl.Lock{Secret: 12345, Next: 999996}, code(1000000), 1, impl.Lock{Secret: 12345, Next: 1000001}, impl.TryOpen},
		{impl.Lock{Secret: 12345, Next: 999995}, code(1000000), 1, impl.Lock{Secret: 12345, Next: 999995, Tries: 1}, impl.TryWrong},
		{impl.Lock{Secret: 12345, Next: 1000000}, "", 1, impl.Lock{Secret: 12345, Next: 1000000, Tries: 1}, impl.TryWrong},
		{impl.Lock{Secret: 12345, Next: 1000001}, "", 1, impl.Lock{Secret: 12345, Next: 1000001, Tries: 1}, impl.TryWrong},
		{impl.Lock{Secret: 12345, Next: 1000001}, code(1000000), 1, impl.Lock{Secret: 12345, Next: 1000001, Tries: 1}, impl.TryWrong},
		{impl.Lock{Secret: 12345, Tries: 1}, "x", 1, impl.Lock{Secret: 12345, Tries: 2}, impl.TryWrong},
		{impl.Lock{Secret: 12345, Tries: 1, Pauses: 4, Until: 9}, "x", 9, impl.Lock{Secret: 12345, Tries: 2, Pauses: 4, Until: 9}, impl.TryWrong},
		{impl.Lock{Secret: 12345, Tries: 2}, "x", 0, impl.Lock{Secret: 12345, Pauses: 1, Until: 1}, impl.TryPause},
		{impl.Lock{Secret: 12345, Tries: 2, Pauses: 1}, "x", 8, impl.Lock{Secret: 12345, Pauses: 2, Until: 10}, impl.TryPause},
		{impl.Lock{Secret: 12345, Tries: 2, Pauses: 5}, "x", 8, impl.Lock{Secret: 12345, Pauses: 6, Until: 40}, impl.TryPause},
		{impl.Lock{Secret: 12345, Tries: 2, Pauses: 6}, "x", 8, impl.Lock{Secret: 12345, Pauses: 6, Until: 72}, impl.TryPause},
		{impl.Lock{Secret: 12345, Tries: 2, Pauses: 6}, "x", 20000, impl.Lock{Secret: 12345, Pauses: 6, Until: 20064}, impl.TryPause},
	} {
		if got, result := impl.Try(c.lock, c.code, c.now); got != c.want || result != c.result {
			t.Errorf("Try, case %d: %v, %d", i, got, result)
		}
	}
	for _, bad := range badCodes() {
		if got, result := impl.Try(impl.Lock{Secret: 12345, Next: 1000001}, bad, 0); got != (impl.Lock{Secret: 12345, Next: 1000001, Tries: 1}) || result != impl.TryWrong {
			t.Errorf("Try of %q: %v, %d", bad, got, result)
		}
	}
}

// Each pause after three wrong tries is twice as long as the one before it, up to 64 hours.
func TestPausesGrowAndStay(t *testing.T) {
	l, now := impl.Lock{Secret: 12345}, 3
	for i, length := range []int{1, 2, 4, 8, 16, 32, 64, 64, 64, 64} {
		for tries := range 3 {
			var result int
			want := impl.TryWrong
			if tries == 2 {
				want = impl.TryPause
			}
			if l, result = impl.Try(l, "x", now); result != want {
				t.Fatalf("try %d before pause %d: %v, %d", tries, i, l, result)
			}
		}
		if l != (impl.Lock{Secret: 12345, Pauses: min(i+1, 6), Until: now + length}) {
			t.Fatalf("pause %d from %d on: %v", i, now, l)
		}
		for _, text := range []string{"x", code(0)} {
			if got, result := impl.Try(l, text, l.Until-1); got != l || result != impl.TryWait {
				t.Fatalf("Try in pause %d: %v, %d", i, got, result)
			}
		}
		if got, result := impl.Try(l, code(0), l.Until); got != (impl.Lock{Secret: 12345, Next: 1, Until: l.Until}) || result != impl.TryOpen {
			t.Fatalf("Try after pause %d: %v, %d", i, got, result)
		}
		now = l.Until
	}
}

func TestResync(t *testing.T) {
	for i, c := range []struct {
		lock          impl.Lock
		first, second string
		now           int
		want          impl.Lock
		result        int
	}{
		{impl.Lock{Secret: 12345}, code(0), code(1), 0, impl.Lock{Secret: 12345, Next: 2}, impl.TryOpen},
		{impl.Lock{Secret: 12345}, code(38), code(39), 0, impl.Lock{Secret: 12345, Next: 40}, impl.TryOpen},
		{impl.Lock{Secret: 12345}, code(39), code(40), 0, impl.Lock{Secret: 12345, Tries: 1}, impl.TryWrong},
		{impl.Lock{Secret: 12345, Next: 100}, code(120), code(121), 0, impl.Lock{Secret: 12345, Next: 122}, impl.TryOpen},
		{impl.Lock{Secret: 12345, Next: 100}, code(100), code(101), 0, impl.Lock{Secret: 12345, Next: 102}, impl.TryOpen},
		{impl.Lock{Secret: 12345, Next: 100}, code(99), code(100), 0, impl.Lock{Secret: 12345, Next: 100, Tries: 1}, impl.TryWrong},
		{impl.Lock{Secret: 12345, Next: 100}, code(98), code(99), 0, impl.Lock{Secret: 12345, Next: 100, Tries: 1}, impl.TryWrong},
		{impl.Lock{Secret: 12345, Next: 100}, code(121), code(120), 0, impl.Lock{Secret: 12345, Next: 100, Tries: 1}, impl.TryWrong},
		{impl.Lock{Secret: 12345, Next: 100}, code(120), code(122), 0, impl.Lock{Secret: 12345, Next: 100, Tries: 1}, impl.TryWrong},
		{impl.Lock{Secret: 12345, Next: 100}, code(100), code(100), 0, impl.Lock{Secret: 12345, Next: 100, Tries: 1}, impl.TryWrong},
		{impl.Lock{Secret: 12345, Next: 100}, code(100), "x", 0, impl.Lock{Secret: 12345, Next: 100, Tries: 1}, impl.TryWrong},
		{impl.Lock{Secret: 12345, Next: 100}, "x", code(101), 0, impl.Lock{Secret: 12345, Next: 100, Tries: 1}, impl.TryWrong},
		{impl.Lock{Secret: 12345, Next: 100}, code(100) + code(101), "", 0, impl.Lock{Secret: 12345, Next: 100, Tries: 1}, impl.TryWrong},
		{impl.Lock{Secret: 12345, Next: 999999}, code(999999), code(1000000), 0, impl.Lock{Secret: 12345, Next: 1000001}, impl.TryOpen},
		{impl.Lock{Secret: 12345, Next: 999961}, code(999999), code(1000000), 0, impl.Lock{Secret: 12345, Next: 1000001}, impl.TryOpen},
		{impl.Lock{Secret: 12345, Next: 999960}, code(999999), code(1000000), 0, impl.Lock{Secret: 12345, Next: 999960, Tries: 1}, impl.TryWrong},
		{impl.Lock{Secret: 12345, Next: 999960}, code(999998), code(999999), 0, impl.Lock{Secret: 12345, Next: 1000000}, impl.TryOpen},
		{impl.Lock{Secret: 12345, Next: 999999}, code(1000000), "", 0, impl.Lock{Secret: 12345, Next: 999999, Tries: 1}, impl.TryWrong},
		{impl.Lock{Secret: 12345, Next: 1000000}, code(1000000), "", 0, impl.Lock{Secret: 12345, Next: 1000000, Tries: 1}, impl.TryWrong},
		{impl.Lock{Secret: 12345, Next: 1000000}, code(999999), code(1000000), 0, impl.Lock{Secret: 12345, Next: 1000000, Tries: 1}, impl.TryWrong},
		{impl.Lock{Secret: 12345, Next: 1000001}, "", "", 0, impl.Lock{Secret: 12345, Next: 1000001, Tries: 1}, impl.TryWrong},
		{impl.Lock{Secret: 12345, Next: 7, Tries: 1, Until: 8}, "x", "x", 8, impl.Lock{Secret: 12345, Next: 7, Tries: 2, Until: 8}, impl.TryWrong},
		{impl.Lock{Secret: 12345, Next: 7, Tries: 2, Pauses: 3, Until: 8}, "x", "x", 10, impl.Lock{Secret: 12345, Next: 7, Pauses: 4, Until: 18}, impl.TryPause},
		{impl.Lock{Secret: 12345, Next: 7, Tries: 2, Pauses: 6}, "", "", 20000, impl.Lock{Secret: 12345, Next: 7, Pauses: 6, Until: 20064}, impl.TryPause},
		{impl.Lock{Secret: 12345, Next: 7, Tries: 2, Pauses: 3, Until: 8}, code(12), code(13), 8, impl.Lock{Secret: 12345, Next: 14, Until: 8}, impl.TryOpen},
		{impl.Lock{Secret: 12345, Next: 7, Tries: 2, Pauses: 3, Until: 8}, code(12), code(13), 7, impl.Lock{Secret: 12345, Next: 7, Tries: 2, Pauses: 3, Until: 8}, impl.TryWait},
		{impl.Lock{Secret: 12345, Until: 20064}, "x", "x", 20000, impl.Lock{Secret: 12345, Until: 20064}, impl.TryWait},
		{impl.Lock{Secret: 12345, Until: 5}, code(0), code(1), -1, impl.Lock{Secret: 12345, Until: 5}, impl.TryBad},
		{impl.Lock{Secret: 12345}, code(0), code(1), 20001, impl.Lock{Secret: 12345}, impl.TryBad},
		{impl.Lock{Secret: 12345}, code(0), code(1), math.MaxInt, impl.Lock{Secret: 12345}, impl.TryBad},
		{impl.Lock{Secret: 12345}, code(0), code(1), math.MinInt, impl.Lock{Secret: 12345}, impl.TryBad},
	} {
		if got, result := impl.Resync(c.lock, c.first, c.second, c.now); got != c.want || result != c.result {
			t.Errorf("Resync, case %d: %v, %d", i, got, result)
		}
	}
}

func TestBadLocksStay(t *testing.T) {
	for _, l := range badLocks() {
		for _, now := range []int{0, 7, 100, 20000, 20001, -1, math.MinInt, math.MaxInt} {
			for n := range 5 {
				if got, result := impl.Try(l, code(n), now); got != l || result != impl.TryBad {
					t.Fatalf("Try for a bad lock %v: %v, %d", l, got, result)
				}
				if got, result := impl.Resync(l, code(n), code(n+1), now); got != l || result != impl.TryBad {
					t.Fatalf("Resync for a bad lock %v: %v, %d", l, got, result)
				}
			}
		}
	}
}

func TestCanOpen(t *testing.T) {
	for _, c := range []struct {
		pad  impl.Pad
		lock impl.Lock
		want bool
	}{
		{impl.Pad{Secret: 1}, impl.Lock{Secret: 1}, true},
		{impl.Pad{Secret: 1, Count: 4}, impl.Lock{Secret: 1}, true},
		{impl.Pad{Secret: 1, Count: 5}, impl.Lock{Secret: 1}, false},
		{impl.Pad{Secret: 1, Count: 8}, impl.Lock{Secret: 1, Next: 9}, false},
		{impl.Pad{Secret: 1, Count: 9}, impl.Lock{Secret: 1, Next: 9, Tries: 2, Pauses: 6, Until: 20064}, true},
		{impl.Pad{Secret: 1, Count: 13}, impl.Lock{Secret: 1, Next: 9}, true},
		{impl.Pad{Secret: 1, Count: 14}, impl.Lock{Secret: 1, Next: 9}, false},
		{impl.Pad{Secret: 1, Count: 1000000}, impl.Lock{Secret: 1, Next: 1000000}, true},
		{impl.Pad{Secret: 1, Count: 1000000}, impl.Lock{Secret: 1, Next: 999996}, true},
		{impl.Pad{Secret: 1, Count: 1000000}, impl.Lock{Secret: 1, Next: 999995}, false},
		{impl.Pad{Secret: 1, Count: 1000001}, impl.Lock{Secret: 1, Next: 1000000}, false},
		{impl.Pad{Secret: 1, Count: 1000001}, impl.Lock{Secret: 1, Next: 1000001}, false},
		{impl.Pad{Secret: 1, Count: 1000000}, impl.Lock{Secret: 1, Next: 1000001}, false},
		{impl.Pad{Secret: 2147483646, Count: 3}, impl.Lock{Secret: 2147483646, Next: 3}, true},
		{impl.Pad{Secret: 1}, impl.Lock{Secret: 2}, false},
		{impl.Pad{Secret: 2}, impl.Lock{Secret: 1}, false},
	} {
		if got := impl.CanOpen(c.pad, c.lock); got != c.want {
			t.Errorf("CanOpen for %v and %v: %v", c.pad, c.lock, got)
		}
	}
	for _, p := range badPads() {
		if impl.CanOpen(p, impl.Lock{Secret: p.Secret, Next: p.Count}) || impl.CanOpen(p, impl.Lock{Secret: 1}) {
			t.Error("a bad pad can open", p)
		}
	}
	for _, l := range badLocks() {
		if impl.CanOpen(impl.Pad{Secret: l.Secret, Count: l.Next}, l) || impl.CanOpen(impl.Pad{Secret: 12345, Count: 3}, l) {
			t.Error("a bad lock can be opened", l)
		}
	}
}

// tried is what becomes of a valid lock when codes are entered whose counts are among as many next ones as reach tells.
func tried(l impl.Lock, now int, reach int, codes ...string) (impl.Lock, int) {
	if now < l.Until {
		return l, impl.TryWait
	}
	for n := l.Next; n <= 1000001-len(codes) && n+len(codes) <= l.Next+reach; n++ {
		same := true
		for i, c := range codes {
			same = same && codeBy(l.Secret, n+i) == c
		}
		if same {
			return impl.Lock{Secret: l.Secret, Next: n + len(codes), Until: l.Until}, impl.TryOpen
		}
	}
	if l.Tries < 2 {
		l.Tries++
		return l, impl.TryWrong
	}
	pauses := []int{1, 2, 4, 8, 16, 32, 64}
	return impl.Lock{Secret: l.Secret, Next: l.Next, Pauses: []int{1, 2, 3, 4, 5, 6, 6}[l.Pauses], Until: now + pauses[l.Pauses]}, impl.TryPause
}

// someLock returns a valid lock, often near the first or the last count.
func someLock(r *rand.Rand) impl.Lock {
	next := []int{r.Intn(5), impl.MaxCount + 1 - r.Intn(45), r.Intn(impl.MaxCount + 2)}[r.Intn(3)]
	return impl.Lock{Secret: 1 + r.Intn(impl.MaxSecret), Next: next, Tries: r.Intn(3), Pauses: r.Intn(7), Until: r.Intn(100)}
}

func TestTryAndResyncOfSomeLocks(t *testing.T) {
	r := rand.New(rand.NewSource(43))
	seen := map[int]int{}
	for range 10000 {
		l, now := someLock(r), r.Intn(150)
		first := l.Next - 3 + r.Intn(11)
		text := impl.CodeOf(l.Secret, first)
		want, wantResult := tried(l, now, 5, text)
		if got, result := impl.Try(l, text, now); got != want || result != wantResult || !impl.LockOk(got) {
			t.Fatalf("Try for %v, the count %d and %d: %v, %d", l, first, now, got, result)
		}
		seen[wantResult]++
		first, second := l.Next-3+r.Intn(46), 1
		if r.Intn(4) == 0 {
			second = r.Intn(4) - 1
		}
		text, after := impl.CodeOf(l.Secret, first), impl.CodeOf(l.Secret, first+second)
		want, wantResult = tried(l, now, 40, text, after)
		if got, result := impl.Resync(l, text, after, now); got != want || result != wantResult || !impl.LockOk(got) {
			t.Fatalf("Resync for %v, the counts %d and %d and %d: %v, %d", l, first, first+second, now, got, result)
		}
		seen[wantResult]++
	}
	for result := impl.TryOpen; result < impl.TryBad; result++ {
		if seen[result] < 500 {
			t.Error("too few results", impl.TryName(result), seen[result])
		}
	}
}

// The counts with which a lock opens are ascending, whatever is entered.
func TestCountsOfALockAscend(t *testing.T) {
	r := rand.New(rand.NewSource(44))
	opened := 0
	for range 200 {
		l, _ := impl.NewLock(1 + r.Intn(impl.MaxSecret))
		if r.Intn(4) == 0 {
			l.Next = impl.MaxCount - r.Intn(60)
		}
		used, now := l.Next-1, 0
		for range 60 {
			now += r.Intn(20)
			first := max(0, l.Next-6+r.Intn(14))
			var counts []int
			var result int
			before := l
			if r.Intn(4) > 0 {
				counts = []int{first}
				l, result = impl.Try(l, impl.CodeOf(l.Secret, first), now)
			} else {
				counts = []int{first, first + 1}
				l, result = impl.Resync(l, impl.CodeOf(l.Secret, first), impl.CodeOf(l.Secret, first+1), now)
			}
			if result != impl.TryOpen {
				if l.Next != before.Next {
					t.Fatal("a lock that stays shut uses up counts", before, l)
				}
				continue
			}
			opened++
			if counts[0] <= used || counts[len(counts)-1] > impl.MaxCount || l.Next != counts[len(counts)-1]+1 {
				t.Fatalf("%v opens with %v after %d", before, counts, used)
			}
			used = counts[len(counts)-1]
			for _, n := range counts {
				if again, result := impl.Try(l, impl.CodeOf(l.Secret, n), max(now, l.Until)); result == impl.TryOpen {
					t.Fatal("a code opens twice", l, again)
				}
			}
		}
	}
	if opened < 1000 {
		t.Error("too few locks were opened", opened)
	}
}

// A pad opens a lock, once no pause is left, as long as fewer codes than Window were shown and not used.
func TestAPadOpensItsLock(t *testing.T) {
	r := rand.New(rand.NewSource(45))
	for range 200 {
		secret := 1 + r.Intn(impl.MaxSecret)
		p, l, now := impl.Pad{Secret: secret}, impl.Lock{Secret: secret}, 0
		if r.Intn(4) == 0 {
			p.Count = impl.MaxCount - r.Intn(60)
			l.Next = p.Count
		}
		for p.Count <= impl.MaxCount && now < impl.MaxTime {
			unused := r.Intn(7)
			for range unused {
				p, _, _ = impl.Press(p)
			}
			for range r.Intn(5) {
				l, _ = impl.Try(l, "wrong", now)
			}
			can := impl.CanOpen(p, l)
			if can != (unused < impl.Window && p.Count <= impl.MaxCount) {
				t.Fatalf("CanOpen after %d codes that were not used: %v", unused, can)
			}
			q, text, shown := impl.Press(p)
			if !shown {
				break
			}
			if now = max(now, l.Until); now > impl.MaxTime {
				break
			}
			if m, result := impl.Try(l, text, l.Until-1); l.Until > 0 && (m != l || result != impl.TryWait) {
				t.Fatal("a lock opens in a pause", l, m, result)
			}
			m, result := impl.Try(l, text, now)
			if (result == impl.TryOpen) != can || can && m.Next != q.Count {
				t.Fatalf("%v and %v: %v, %d", p, l, m, result)
			}
			p, l, now = q, m, now+r.Intn(30)
			if can {
				continue
			}
			var next string
			p, next, shown = impl.Press(p)
			if !shown {
				break
			}
			now = max(now, l.Until)
			if m, result = impl.Resync(l, text, next, now); now <= impl.MaxTime && (result != impl.TryOpen || m.Next != p.Count) {
				t.Fatalf("Resync of %v for %v: %v, %d", l, p, m, result)
			}
			l = m
		}
	}
}

// bestWrong returns, for each time up to last, the greatest number of wrong tries of a new lock, of all ways to try or to wait.
func bestWrong(last int) []int {
	best := []int{}
	most := map[impl.Lock]int{{Secret: 12345}: 0}
	for now := range last + 1 {
		work := []impl.Lock{}
		for l := range most {
			work = append(work, l)
		}
		for len(work) > 0 {
			l := work[0]
			work = work[1:]
			next, result := impl.Try(l, "wrong", now)
			if most[l]%2 == 1 {
				next, result = impl.Resync(l, code(1), code(0), now)
			}
			// A lock that never pauses must not keep this loop from ending.
			if known, ok := most[next]; result != impl.TryWait && (!ok || known < most[l]+1) && most[l] < 3*last {
				most[next] = most[l] + 1
				work = append(work, next)
			}
		}
		greatest := 0
		for _, n := range most {
			greatest = max(greatest, n)
		}
		best = append(best, greatest)
	}
	return best
}

// Nobody who has only wrong codes gets more of them tried in a new lock than MostWrong tells, and somebody gets as many.
func TestMostWrongIsTheMost(t *testing.T) {
	for now, want := range bestWrong(270) {
		if got := impl.MostWrong(now); got != want {
			t.Fatalf("MostWrong(%d): %d instead of %d", now, got, want)
		}
	}
}

func TestMostWrongOfSomebodyWhoNeverWaitsTooLong(t *testing.T) {
	l, wrong := impl.Lock{Secret: 12345}, 0
	for now := range impl.MaxTime + 1 {
		for range 10 {
			var result int
			if l, result = impl.Try(l, "wrong", now); result == impl.TryWait {
				break
			}
			wrong++
		}
		if got := impl.MostWrong(now); got != wrong {
			t.Fatalf("MostWrong(%d): %d instead of %d", now, got, wrong)
		}
	}
}
