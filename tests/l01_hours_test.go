package tests

import (
	"math"
	"math/rand"
	"slices"
	"testing"

	"loop.example/g03318/impl"
)

// spansFrom returns n spans of one hour, with one hour between two of them.
func spansFrom(first int, n int) []impl.Span {
	list := []impl.Span{}
	for i := range n {
		list = append(list, impl.Span{From: first + 2*i, To: first + 2*i + 1})
	}
	return list
}

func TestSpansOk(t *testing.T) {
	for i, c := range []struct {
		list []impl.Span
		most int
		want bool
	}{
		{nil, 10, true},
		{[]impl.Span{}, 0, true},
		{nil, -1, true},
		{nil, math.MinInt, true},
		{[]impl.Span{{From: 0, To: 10}}, 10, true},
		{[]impl.Span{{From: 0, To: 11}}, 10, false},
		{[]impl.Span{{From: 0, To: 1}}, 1, true},
		{[]impl.Span{{From: 0, To: 1}}, 0, false},
		{[]impl.Span{{From: -1, To: 1}}, 10, false},
		{[]impl.Span{{From: 3, To: 3}}, 10, false},
		{[]impl.Span{{From: 4, To: 3}}, 10, false},
		{[]impl.Span{{From: 9, To: 10}}, 10, true},
		{[]impl.Span{{From: 1, To: 3}, {From: 4, To: 5}}, 10, true},
		{[]impl.Span{{From: 1, To: 3}, {From: 3, To: 4}}, 10, false},
		{[]impl.Span{{From: 1, To: 3}, {From: 2, To: 4}}, 10, false},
		{[]impl.Span{{From: 5, To: 6}, {From: 1, To: 3}}, 10, false},
		{[]impl.Span{{From: 1, To: 3}, {From: 1, To: 3}}, 10, false},
		{[]impl.Span{{From: 1, To: 3}, {From: 5, To: 11}}, 10, false},
		{[]impl.Span{{From: 1, To: 11}, {From: 12, To: 13}}, 10, false},
		{[]impl.Span{{From: 1, To: 2}, {From: 4, To: 4}}, 10, false},
		{[]impl.Span{{From: 1, To: 2}, {From: 4, To: 5}, {From: 5, To: 6}}, 10, false},
		{spansFrom(0, 20), 39, true},
		{spansFrom(0, 20), 38, false},
		{spansFrom(0, 21), 100, false},
		{[]impl.Span{{From: math.MinInt, To: math.MaxInt}}, math.MaxInt, false},
		{[]impl.Span{{From: math.MaxInt, To: math.MinInt}}, math.MaxInt, false},
		{[]impl.Span{{From: 0, To: math.MaxInt}}, math.MaxInt, true},
		{[]impl.Span{{From: math.MinInt, To: 5}}, 10, false},
		{[]impl.Span{{From: 0, To: 5}}, math.MinInt, false},
	} {
		if got := impl.SpansOk(c.list, c.most); got != c.want {
			t.Errorf("SpansOk, case %d: %v", i, got)
		}
	}
}

func TestWeekOk(t *testing.T) {
	for i, c := range []struct {
		open, closed []impl.Span
		want         bool
	}{
		{nil, nil, true},
		{[]impl.Span{{From: 0, To: 168}}, nil, true},
		{[]impl.Span{{From: 0, To: 169}}, nil, false},
		{[]impl.Span{{From: 8, To: 18}}, []impl.Span{{From: 0, To: 20000}}, true},
		{[]impl.Span{{From: 8, To: 18}}, []impl.Span{{From: 0, To: 20001}}, false},
		{nil, []impl.Span{{From: 169, To: 170}}, true},
		{[]impl.Span{{From: 169, To: 170}}, nil, false},
		{spansFrom(0, 20), spansFrom(0, 20), true},
		{spansFrom(0, 21), spansFrom(0, 20), false},
		{spansFrom(0, 20), spansFrom(0, 21), false},
		{[]impl.Span{{From: -1, To: 2}}, nil, false},
		{nil, []impl.Span{{From: 5, To: 5}}, false},
		{nil, []impl.Span{{From: 1, To: 3}, {From: 3, To: 4}}, false},
	} {
		if got := impl.WeekOk(impl.Week{Open: c.open, Closed: c.closed}); got != c.want {
			t.Errorf("WeekOk, case %d: %v", i, got)
		}
	}
}

// openBefore returns, for each time, how many hours before it are open in a valid week.
func openBefore(w impl.Week) []int {
	open := make([]bool, impl.MaxTime)
	for start := 0; start < impl.MaxTime; start += 168 {
		for _, s := range w.Open {
			for h := start + s.From; h < start+s.To && h < impl.MaxTime; h++ {
				open[h] = true
			}
		}
	}
	for _, s := range w.Closed {
		for h := s.From; h < s.To; h++ {
			open[h] = false
		}
	}
	before := []int{0}
	for h := range open {
		n := before[h]
		if open[h] {
			n++
		}
		before = append(before, n)
	}
	return before
}

// someWeeks returns valid weeks: without open spans, all open, all closed, at the limits, and others.
func someWeeks(r *rand.Rand) []impl.Week {
	weeks := []impl.Week{
		{},
		{Open: []impl.Span{{From: 8, To: 18}}},
		{Open: []impl.Span{{From: 0, To: 168}}},
		{Open: []impl.Span{{From: 0, To: 168}}, Closed: []impl.Span{{From: 0, To: 20000}}},
		{Open: []impl.Span{{From: 0, To: 168}}, Closed: []impl.Span{{From: 0, To: 19999}}},
		{Open: []impl.Span{{From: 0, To: 168}}, Closed: []impl.Span{{From: 1, To: 20000}}},
		{Closed: []impl.Span{{From: 5, To: 500}}},
		{Open: []impl.Span{{From: 8, To: 18}}, Closed: []impl.Span{{From: 0, To: 24}}},
		{Open: []impl.Span{{From: 0, To: 1}, {From: 167, To: 168}}, Closed: []impl.Span{{From: 167, To: 169}, {From: 400, To: 19000}}},
		{Open: spansFrom(0, 20), Closed: spansFrom(100, 20)},
	}
	for range 30 {
		weeks = append(weeks, impl.Week{Open: spansUpTo(r, impl.WeekHours, 20), Closed: spansUpTo(r, impl.MaxTime, 3000)})
	}
	return weeks
}

// spansUpTo returns valid spans with lengths and distances of at most so many hours.
func spansUpTo(r *rand.Rand, most int, longest int) []impl.Span {
	list := []impl.Span{}
	for from := r.Intn(longest); len(list) < impl.MaxSpans; {
		to := from + 1 + r.Intn(longest)
		if to > most {
			break
		}
		list = append(list, impl.Span{From: from, To: to})
		from = to + 1 + r.Intn(longest)
	}
	return list
}

// badWeeks returns weeks that are not valid.
func badWeeks() []impl.Week {
	day := []impl.Span{{From: 8, To: 18}}
	return []impl.Week{
		{Open: []impl.Span{{From: 8, To: 169}}},
		{Open: []impl.Span{{From: -1, To: 18}}},
		{Open: []impl.Span{{From: 8, To: 9}, {From: 9, To: 18}}},
		{Open: spansFrom(0, 21)},
		{Open: day, Closed: []impl.Span{{From: 19000, To: 20001}}},
		{Open: day, Closed: []impl.Span{{From: 19000, To: 19000}}},
		{Open: day, Closed: spansFrom(200, 21)},
	}
}

func TestIsOpen(t *testing.T) {
	w := impl.Week{Open: []impl.Span{{From: 0, To: 2}, {From: 8, To: 18}, {From: 167, To: 168}}, Closed: []impl.Span{{From: 168, To: 169}, {From: 180, To: 182}}}
	for hour, want := range map[int]bool{
		0: true, 1: true, 2: false, 7: false, 8: true, 17: true, 18: false, 166: false, 167: true,
		168: false, 169: true, 176: true, 179: true, 180: false, 181: false, 182: true, 185: true, 186: false, 335: true, 336: true,
		-1: false, -168: false, -160: false, 20000: false, 20008: false, math.MinInt: false, math.MaxInt: false,
	} {
		if got := impl.IsOpen(w, hour); got != want {
			t.Errorf("IsOpen for hour %d: %v", hour, got)
		}
	}
	always := impl.Week{Open: []impl.Span{{From: 0, To: 168}}}
	if !impl.IsOpen(always, 0) || !impl.IsOpen(always, 19999) || impl.IsOpen(always, 20000) || impl.IsOpen(always, -1) {
		t.Error("unexpected ends of an always open week")
	}
	for i, bad := range badWeeks() {
		if impl.IsOpen(bad, 8) {
			t.Errorf("bad week %d is open", i)
		}
	}
}

func TestIsOpenForAllHours(t *testing.T) {
	for i, w := range someWeeks(rand.New(rand.NewSource(3))) {
		before := openBefore(w)
		for h := range impl.MaxTime {
			if want := before[h+1] > before[h]; impl.IsOpen(w, h) != want {
				t.Fatalf("week %d, hour %d: not %v", i, h, want)
			}
		}
	}
}

func TestOpenHours(t *testing.T) {
	w := impl.Week{Open: []impl.Span{{From: 8, To: 18}}}
	always := impl.Week{Open: []impl.Span{{From: 0, To: 168}}}
	for i, c := range []struct {
		w              impl.Week
		from, to, want int
	}{
		{w, 0, 168, 10}, {w, 8, 18, 10}, {w, 8, 9, 1}, {w, 7, 8, 0}, {w, 17, 18, 1}, {w, 18, 176, 0}, {w, 18, 177, 1}, {w, 10, 177, 9},
		{w, 10, 10, 0}, {w, 11, 10, 0}, {w, 18, 8, 0}, {w, 0, 20000, 1190}, {w, 19999, 20000, 0},
		{always, 0, 20000, 20000}, {always, 0, 0, 0}, {always, 20000, 20000, 0}, {always, 19999, 20000, 1},
		{always, -1, 20000, 0}, {always, 0, 20001, 0}, {always, -1, -1, 0}, {always, 20001, 20001, 0}, {always, 20000, 0, 0},
		{always, math.MinInt, math.MaxInt, 0}, {always, 0, math.MaxInt, 0}, {always, math.MinInt, 5, 0}, {always, math.MaxInt, math.MinInt, 0},
		{impl.Week{}, 0, 20000, 0}, {impl.Week{Open: always.Open, Closed: []impl.Span{{From: 0, To: 20000}}}, 0, 20000, 0},
		{impl.Week{Open: w.Open, Closed: []impl.Span{{From: 0, To: 24}}}, 0, 336, 10},
	} {
		if got := impl.OpenHours(c.w, c.from, c.to); got != c.want {
			t.Errorf("OpenHours, case %d: %d", i, got)
		}
	}
	for i, bad := range badWeeks() {
		if got := impl.OpenHours(bad, 0, 1000); got != 0 {
			t.Errorf("bad week %d: %d open hours", i, got)
		}
	}
}

func TestOpenHoursAddUp(t *testing.T) {
	r := rand.New(rand.NewSource(4))
	for i, w := range someWeeks(r) {
		before := openBefore(w)
		for range 30 {
			at := []int{r.Intn(20001), r.Intn(20001), r.Intn(20001)}
			slices.Sort(at)
			first, second, all := impl.OpenHours(w, at[0], at[1]), impl.OpenHours(w, at[1], at[2]), impl.OpenHours(w, at[0], at[2])
			if first+second != all || all != before[at[2]]-before[at[0]] {
				t.Fatalf("week %d, times %v: %d, %d, %d", i, at, first, second, all)
			}
		}
	}
}

func TestAfterOpen(t *testing.T) {
	w := impl.Week{Open: []impl.Span{{From: 8, To: 18}}}
	always := impl.Week{Open: []impl.Span{{From: 0, To: 168}}}
	for i, c := range []struct {
		w             impl.Week
		from, n, want int
		ok            bool
	}{
		{w, 10, 9, 177, true}, {w, 10, 8, 18, true}, {w, 10, 0, 10, true}, {w, 0, 1, 9, true}, {w, 18, 0, 18, true}, {w, 0, 1190, 118*168 + 18, true},
		{w, 0, 1191, 0, false}, {w, 10, -1, 0, false}, {w, -1, 0, 0, false}, {w, 20001, 0, 0, false}, {w, 20000, 0, 20000, true}, {w, 20000, 1, 0, false},
		{always, 0, 20000, 20000, true}, {always, 0, 20001, 0, false}, {always, 19999, 1, 20000, true}, {always, 19999, 2, 0, false}, {always, 5, 7, 12, true},
		{always, math.MinInt, 0, 0, false}, {always, math.MaxInt, 0, 0, false}, {always, 0, math.MaxInt, 0, false}, {always, 0, math.MinInt, 0, false},
		{impl.Week{}, 0, 0, 0, true}, {impl.Week{}, 7, 0, 7, true}, {impl.Week{}, 7, 1, 0, false},
		{impl.Week{Open: w.Open, Closed: []impl.Span{{From: 10, To: 200}}}, 9, 2, 345, true},
	} {
		if got, ok := impl.AfterOpen(c.w, c.from, c.n); got != c.want || ok != c.ok {
			t.Errorf("AfterOpen, case %d: %d, %v", i, got, ok)
		}
	}
	for i, bad := range badWeeks() {
		for n := range 2 {
			if got, ok := impl.AfterOpen(bad, 10, n); got != 0 || ok {
				t.Errorf("bad week %d: %d, %v", i, got, ok)
			}
		}
	}
}

func TestBeforeOpen(t *testing.T) {
	w := impl.Week{Open: []impl.Span{{From: 8, To: 18}}}
	always := impl.Week{Open: []impl.Span{{From: 0, To: 168}}}
	for i, c := range []struct {
		w             impl.Week
		from, n, want int
		ok            bool
	}{
		{w, 10, 8, 176, true}, {w, 10, 7, 17, true}, {w, 10, 9, 177, true}, {w, 10, 0, 10, true}, {w, 18, 0, 176, true}, {w, 0, 0, 8, true},
		{w, 0, 1189, 118*168 + 17, true}, {w, 0, 1190, 20000, true}, {w, 0, 1191, 20000, true},
		{w, 10, -1, 0, false}, {w, -1, 0, 0, false}, {w, 20001, 0, 0, false}, {w, 20000, 0, 20000, true}, {w, 20000, 5, 20000, true},
		{always, 0, 19999, 19999, true}, {always, 0, 20000, 20000, true}, {always, 19999, 0, 19999, true}, {always, 19999, 1, 20000, true}, {always, 5, 7, 12, true},
		{always, math.MinInt, 0, 0, false}, {always, math.MaxInt, 0, 0, false}, {always, 0, math.MaxInt, 20000, true}, {always, 0, math.MinInt, 0, false},
		{impl.Week{}, 0, 0, 20000, true}, {impl.Week{}, 7, 3, 20000, true}, {impl.Week{}, 7, -1, 0, false},
		{impl.Week{Open: w.Open, Closed: []impl.Span{{From: 10, To: 200}}}, 9, 1, 344, true},
	} {
		if got, ok := impl.BeforeOpen(c.w, c.from, c.n); got != c.want || ok != c.ok {
			t.Errorf("BeforeOpen, case %d: %d, %v", i, got, ok)
		}
	}
	for i, bad := range badWeeks() {
		for n := range 2 {
			if got, ok := impl.BeforeOpen(bad, 10, n); got != 0 || ok {
				t.Errorf("bad week %d: %d, %v", i, got, ok)
			}
		}
	}
}

func TestAfterAndBeforeOpenAreFirstAndLast(t *testing.T) {
	r := rand.New(rand.NewSource(5))
	for i, w := range someWeeks(r) {
		before := openBefore(w)
		for k := range 40 {
			from, n := r.Intn(20001), r.Intn(1+r.Intn(1+before[20000]))
			if k%4 == 0 { // just as many as there are, and one more
				n = before[20000] - before[from] + k/4%2
			}
			first, last, found := 0, from, false
			for at := 20000; at >= from; at-- {
				if before[at]-before[from] == n {
					first, found = at, true
				}
				if before[at]-before[from] <= n && last == from {
					last = at
				}
			}
			if got, ok := impl.AfterOpen(w, from, n); got != first || ok != found {
				t.Fatalf("week %d: AfterOpen(%d, %d): %d, %v instead of %d", i, from, n, got, ok, first)
			}
			if got, ok := impl.BeforeOpen(w, from, n); got != last || !ok {
				t.Fatalf("week %d: BeforeOpen(%d, %d): %d, %v instead of %d", i, from, n, got, ok, last)
			}
		}
	}
}

func TestHoursLeaveTheirArguments(t *testing.T) {
	open := append(make([]impl.Span, 0, 4), impl.Span{From: 8, To: 18}, impl.Span{From: 20, To: 22})
	closed := append(make([]impl.Span, 0, 4), impl.Span{From: 30, To: 40}, impl.Span{From: 500, To: 900})
	w := impl.Week{Open: open, Closed: closed}
	impl.SpansOk(open, 168)
	impl.WeekOk(w)
	impl.IsOpen(w, 9)
	impl.OpenHours(w, 0, 20000)
	impl.AfterOpen(w, 3, 99)
	impl.BeforeOpen(w, 3, 99)
	if !slices.Equal(open[:4], []impl.Span{{From: 8, To: 18}, {From: 20, To: 22}, {}, {}}) || !slices.Equal(closed[:4], []impl.Span{{From: 30, To: 40}, {From: 500, To: 900}, {}, {}}) {
		t.Error("the week was changed", open[:4], closed[:4])
	}
}
