package tests

import (
	"fmt"
	"math"
	"testing"

	"loop.example/g03318/impl"
)

// usual are the terms of most cases: 10 open hours and 6 more for each of two extensions.
const usual = "keep 10 free 4 step 3 rate 5 cap 100 longer 6 price 2 most 2"

// termsOf reads terms from their fields.
func termsOf(text string) impl.Terms {
	t := impl.Terms{}
	_, err := fmt.Sscanf(text, "keep %d free %d step %d rate %d cap %d longer %d price %d most %d", &t.Keep, &t.Free, &t.Step, &t.Rate, &t.Cap, &t.Longer, &t.Price, &t.Most)
	if err != nil {
		panic("no terms: " + text)
	}
	return t
}

// weekOf returns the week that a word stands for: one that is always open, never open, open from 8 to 18 on its first day,
// this one with a closed span from the hour 11 to the first open hour of the third week, and one that is always closed nevertheless.
func weekOf(name string) impl.Week {
	always, day := []impl.Span{{From: 0, To: 168}}, []impl.Span{{From: 8, To: 18}}
	switch name {
	case "always":
		return impl.Week{Open: always}
	case "never":
		return impl.Week{}
	case "day":
		return impl.Week{Open: day}
	case "holiday":
		return impl.Week{Open: day, Closed: []impl.Span{{From: 11, To: 344}}}
	case "shut":
		return impl.Week{Open: always, Closed: []impl.Span{{From: 0, To: 20000}}}
	}
	panic("no week: " + name)
}

// goodTerms returns valid terms, some of them at the ends of the ranges.
func goodTerms() []impl.Terms {
	list := []impl.Terms{
		termsOf(usual),
		termsOf("keep 1 free 0 step 1 rate 0 cap 0 longer 1 price 0 most 0"),
		termsOf("keep 2000 free 2000 step 2000 rate 10000 cap 1000000 longer 2000 price 100000 most 20"),
	}
	add := func(set func(t *impl.Terms, n int), values ...int) {
		for _, n := range values {
			t := termsOf(usual)
			set(&t, n)
			list = append(list, t)
		}
	}
	add(func(t *impl.Terms, n int) { t.Keep = n }, 1, 2, 1999, 2000)
	add(func(t *impl.Terms, n int) { t.Free = n }, 0, 1, 1999, 2000)
	add(func(t *impl.Terms, n int) { t.Step = n }, 1, 2, 1999, 2000)
	add(func(t *impl.Terms, n int) { t.Rate = n }, 0, 1, 9999, 10000)
	add(func(t *impl.Terms, n int) { t.Cap = n }, 0, 1, 999999, 1000000)
	add(func(t *impl.Terms, n int) { t.Longer = n }, 1, 2, 1999, 2000)
	add(func(t *impl.Terms, n int) { t.Price = n }, 0, 1, 99999, 100000)
	add(func(t *impl.Terms, n int) { t.Most = n }, 0, 1, 19, 20)
	return list
}

// badTerms returns terms of which one field is out of its range, or all are.
func badTerms() []impl.Terms {
	list := []impl.Terms{{}}
	add := func(set func(t *impl.Terms, n int), values ...int) {
		for _, n := range append(values, -1, -2, math.MinInt, math.MinInt+1, math.MaxInt, math.MaxInt-1, 1<<32, 1<<32+1) {
			t := termsOf(usual)
			set(&t, n)
			list = append(list, t)
		}
	}
	add(func(t *impl.Terms, n int) { t.Keep = n }, 0, 2001)
	add(func(t *impl.Terms, n int) { t.Free = n }, 2001)
	add(func(t *impl.Terms, n int) { t.Step = n }, 0, 2001)
	add(func(t *impl.Terms, n int) { t.Rate = n }, 10001)
	add(func(t *impl.Terms, n int) { t.Cap = n }, 1000001)
	add(func(t *impl.Terms, n int) { t.Longer = n }, 0, 2001)
	add(func(t *impl.Terms, n int) { t.Price = n }, 100001)
	add(func(t *impl.Terms, n int) { t.Most = n }, 21)
	add(func(t *impl.Terms, n int) {
		*t = impl.Terms{Keep: n, Free: n, Step: n, Rate: n, Cap: n, Longer: n, Price: n, Most: n}
	})
	return list
}

// farSizes are numbers just outside the range of sizes and far from it.
func farSizes() []int {
	return []int{0, 25, -1, 26, 1<<32 + 1, math.MinInt, math.MaxInt, math.MinInt + 1, math.MaxInt - 1}
}

// farExtensions are numbers that are no number of extensions for terms with this Most.
func farExtensions(most int) []int {
	return []int{-1, most + 1, -2, most + 2, 1 << 32, 1<<32 + 1, math.MinInt, math.MaxInt, math.MinInt + 1, math.MaxInt - 1}
}

func TestConstantsOfChapter6(t *testing.T) {
	if impl.MaxStays != 20 {
		t.Error("unexpected constant", impl.MaxStays)
	}
}

func TestTermsOk(t *testing.T) {
	for _, m := range goodTerms() {
		if !impl.TermsOk(m) {
			t.Errorf("valid terms are rejected: %+v", m)
		}
	}
	for _, m := range badTerms() {
		if impl.TermsOk(m) {
			t.Errorf("bad terms are accepted: %+v", m)
		}
	}
}

func TestDeadlineOf(t *testing.T) {
	long := "keep 2000 free 0 step 1 rate 0 cap 0 longer 2000 price 0 most 20"
	for _, c := range []struct {
		week, terms     string
		start, extended int
		want            int
		ok              bool
	}{
		{"always", usual, 5, 0, 15, true}, {"always", usual, 5, 1, 21, true}, {"always", usual, 5, 2, 27, true},
		{"always", usual, 5, 3, 0, false}, {"always", usual, 5, -1, 0, false}, {"always", usual, 0, 0, 10, true},
		{"day", usual, 10, 0, 178, true}, {"day", usual, 10, 1, 184, true}, {"day", usual, 10, 2, 348, true},
		{"day", usual, 0, 0, 18, true}, {"day", usual, 8, 0, 18, true}, {"day", usual, 9, 0, 177, true}, {"day", usual, 18, 0, 186, true},
		{"holiday", usual, 10, 0, 353, true}, {"holiday", usual, 10, 1, 517, true}, {"holiday", usual, 11, 0, 354, true}, {"holiday", usual, 344, 0, 354, true},

		// Too few hours are open.
		{"always", usual, 19990, 0, 20000, true}, {"always", usual, 19991, 0, 0, false}, {"always", usual, 20000, 0, 0, false},
		{"always", usual, 19984, 1, 20000, true}, {"always", usual, 19985, 1, 0, false}, {"always", usual, 19985, 0, 19995, true},
		{"day", usual, 19840, 0, 0, false}, {"day", usual, 19832, 0, 19842, true}, {"day", usual, 19833, 0, 0, false},
		{"never", usual, 5, 0, 0, false}, {"shut", usual, 0, 0, 0, false}, {"never", usual, 0, 2, 0, false},
		{"always", long, 0, 9, 20000, true}, {"always", long, 1, 9, 0, false}, {"always", long, 0, 10, 0, false}, {"always", long, 0, 20, 0, false}, {"always", long, 0, 21, 0, false},
		{"always", "keep 1 free 0 step 1 rate 0 cap 0 longer 1 price 0 most 0", 19999, 0, 20000, true},
		{"always", "keep 1 free 0 step 1 rate 0 cap 0 longer 1 price 0 most 0", 19990, 1, 0, false},
		{"always", "keep 1 free 0 step 1 rate 0 cap 0 longer 1 price 0 most 20", 7, 20, 28, true},
	} {
		if got, ok := impl.DeadlineOf(weekOf(c.week), termsOf(c.terms), c.start, c.extended); got != c.want || ok != c.ok {
			t.Errorf("DeadlineOf %s, %s from %d with %d: %d, %v", c.week, c.terms, c.start, c.extended, got, ok)
		}
	}
}

func TestFeeOf(t *testing.T) {
	between := "keep 10 free 4 step 3 rate 5 cap 95 longer 6 price 2 most 2"
	single := "keep 10 free 0 step 1 rate 1 cap 1000000 longer 6 price 0 most 2"
	most := "keep 2000 free 0 step 1 rate 10000 cap 1000000 longer 2000 price 100000 most 20"
	for _, c := range []struct {
		week, terms                      string
		size, start, end, extended, want int
	}{
		// Within the free hours, and behind them.
		{"always", usual, 2, 5, 5, 0, 0}, {"always", usual, 2, 5, 8, 0, 0}, {"always", usual, 2, 5, 9, 0, 0}, {"always", usual, 2, 5, 10, 0, 10},
		// Steps that have just begun and are just full.
		{"always", usual, 2, 5, 11, 0, 10}, {"always", usual, 2, 5, 12, 0, 10}, {"always", usual, 2, 5, 13, 0, 20}, {"always", usual, 2, 5, 15, 0, 20}, {"always", usual, 2, 5, 16, 0, 30},
		{"always", usual, 1, 5, 10, 0, 5}, {"always", usual, 3, 5, 13, 0, 30}, {"always", usual, 20, 5, 10, 0, 100}, {"always", usual, 19, 5, 12, 0, 95},
		// Below, at and above the cap.
		{"always", usual, 2, 5, 36, 0, 90}, {"always", usual, 2, 5, 37, 0, 100}, {"always", usual, 2, 5, 39, 0, 100}, {"always", usual, 2, 5, 40, 0, 100}, {"always", usual, 2, 0, 20000, 0, 100},
		{"always", between, 2, 5, 36, 0, 90}, {"always", between, 2, 5, 37, 0, 95}, {"always", between, 2, 5, 40, 0, 95}, {"always", usual, 24, 5, 10, 0, 100},
		// Extensions cost beside the storage and beyond the cap.
		{"always", usual, 2, 5, 9, 1, 2}, {"always", usual, 2, 5, 9, 2, 4}, {"always", usual, 2, 5, 5, 2, 4}, {"always", usual, 2, 5, 13, 1, 22}, {"always", usual, 2, 5, 13, 2, 24}, {"always", usual, 2, 5, 37, 2, 104}, {"always", usual, 2, 5, 50, 1, 102},
		{"always", usual, 2, 5, 13, 3, -1}, {"always", usual, 2, 5, 13, -1, -1},
		{"always", "keep 10 free 4 step 3 rate 5 cap 0 longer 6 price 2 most 2", 2, 5, 100, 2, 4},
		{"always", "keep 10 free 4 step 3 rate 0 cap 100 longer 6 price 2 most 2", 24, 0, 20000, 1, 2},
		{"always", "keep 10 free 4 step 3 rate 5 cap 100 longer 6 price 0 most 2", 2, 5, 13, 2, 20},
		// The deadline has nothing to do with the fee.
		{"always", usual, 2, 19999, 20000, 2, 4}, {"always", usual, 2, 19995, 20000, 0, 10},
		// Only open hours count.
		{"day", usual, 1, 10, 14, 0, 0}, {"day", usual, 1, 10, 15, 0, 5}, {"day", usual, 1, 10, 17, 0, 5}, {"day", usual, 1, 10, 18, 0, 10}, {"day", usual, 1, 10, 176, 0, 10}, {"day", usual, 1, 10, 178, 0, 10}, {"day", usual, 1, 10, 179, 0, 15},
		{"day", usual, 1, 18, 176, 0, 0}, {"day", usual, 1, 18, 180, 0, 0}, {"day", usual, 1, 18, 181, 0, 5}, {"day", usual, 1, 0, 20000, 0, 100},
		{"holiday", usual, 1, 10, 344, 0, 0}, {"holiday", usual, 1, 10, 347, 0, 0}, {"holiday", usual, 1, 10, 348, 0, 5}, {"holiday", usual, 1, 8, 344, 1, 2}, {"holiday", usual, 1, 8, 346, 1, 7},
		{"never", usual, 24, 0, 20000, 0, 0}, {"never", usual, 24, 0, 20000, 2, 4}, {"shut", usual, 24, 0, 20000, 1, 2},
		// Without free hours, the first one costs something; an end that is the start costs nothing.
		{"always", single, 1, 7, 7, 0, 0}, {"always", single, 1, 7, 8, 0, 1}, {"always", single, 24, 7, 9, 0, 48}, {"always", single, 24, 0, 20000, 0, 480000}, {"always", single, 1, 20000, 20000, 0, 0},
		{"always", "keep 10 free 2000 step 2000 rate 7 cap 1000000 longer 6 price 0 most 2", 1, 0, 2000, 0, 0},
		{"always", "keep 10 free 2000 step 2000 rate 7 cap 1000000 longer 6 price 0 most 2", 1, 0, 2001, 0, 7},
		{"always", "keep 10 free 2000 step 2000 rate 7 cap 1000000 longer 6 price 0 most 2", 1, 0, 4000, 0, 7},
		{"always", "keep 10 free 2000 step 2000 rate 7 cap 1000000 longer 6 price 0 most 2", 1, 0, 4001, 0, 14},
		{"always", "keep 10 free 2000 step 2000 rate 7 cap 1000000 longer 6 price 0 most 2", 1, 0, 20000, 0, 63},
		// The greatest numbers; 17896 steps cost so much that a number of 32 bits would begin anew.
		{"always", most, 1, 0, 99, 0, 990000}, {"always", most, 1, 0, 100, 0, 1000000}, {"always", most, 1, 0, 101, 0, 1000000},
		{"always", most, 24, 0, 20000, 20, 3000000}, {"always", most, 24, 0, 17896, 0, 1000000}, {"always", most, 24, 0, 0, 20, 2000000},
	} {
		if got := impl.FeeOf(weekOf(c.week), termsOf(c.terms), c.size, c.start, c.end, c.extended); got != c.want {
			t.Errorf("FeeOf %s, %s for %d from %d to %d with %d: %d instead of %d", c.week, c.terms, c.size, c.start, c.end, c.extended, got, c.want)
		}
	}
}

func TestFreeUntil(t *testing.T) {
	none := "keep 10 free 0 step 3 rate 5 cap 100 longer 6 price 2 most 2"
	much := "keep 10 free 2000 step 3 rate 5 cap 100 longer 6 price 2 most 2"
	for _, c := range []struct {
		week, terms string
		start, want int
		ok          bool
	}{
		{"always", usual, 5, 9, true}, {"always", usual, 0, 4, true}, {"always", none, 5, 5, true}, {"always", none, 0, 0, true},
		{"always", usual, 19995, 19999, true}, {"always", usual, 19996, 20000, true}, {"always", usual, 19997, 20000, true}, {"always", usual, 20000, 20000, true}, {"always", none, 20000, 20000, true},
		{"always", much, 0, 2000, true}, {"always", much, 18000, 20000, true}, {"always", much, 18001, 20000, true},
		{"day", usual, 10, 14, true}, {"day", usual, 14, 176, true}, {"day", usual, 15, 177, true}, {"day", usual, 0, 12, true}, {"day", usual, 18, 180, true}, {"day", none, 0, 8, true}, {"day", none, 18, 176, true}, {"day", none, 17, 17, true},
		{"holiday", usual, 10, 347, true}, {"holiday", usual, 8, 345, true}, {"holiday", usual, 0, 345, true}, {"holiday", none, 11, 344, true}, {"holiday", none, 10, 10, true},
		{"day", much, 0, 20000, true}, {"never", usual, 5, 20000, true}, {"never", none, 0, 20000, true}, {"shut", none, 7, 20000, true},
		{"always", usual, -1, 0, false}, {"always", usual, 20001, 0, false}, {"never", usual, -1, 0, false},
	} {
		if got, ok := impl.FreeUntil(weekOf(c.week), termsOf(c.terms), c.start); got != c.want || ok != c.ok {
			t.Errorf("FreeUntil %s, %s from %d: %d, %v", c.week, c.terms, c.start, got, ok)
		}
	}
}

func TestNextRise(t *testing.T) {
	between := "keep 10 free 4 step 3 rate 5 cap 95 longer 6 price 2 most 2"
	single := "keep 10 free 0 step 1 rate 1 cap 1000000 longer 6 price 0 most 2"
	for _, c := range []struct {
		week, terms                      string
		size, start, end, extended, want int
		ok                               bool
	}{
		// The next rise is at a step's beginning: behind its first hour.
		{"always", usual, 2, 5, 5, 0, 10, true}, {"always", usual, 2, 5, 8, 0, 10, true}, {"always", usual, 2, 5, 9, 0, 10, true}, {"always", usual, 2, 5, 10, 0, 13, true}, {"always", usual, 2, 5, 11, 0, 13, true}, {"always", usual, 2, 5, 12, 0, 13, true}, {"always", usual, 2, 5, 13, 0, 16, true},
		{"always", usual, 2, 5, 10, 1, 13, true}, {"always", usual, 2, 5, 10, 2, 13, true}, {"always", usual, 2, 5, 10, 3, 0, false}, {"always", usual, 2, 5, 10, -1, 0, false},
		{"always", single, 1, 7, 7, 0, 8, true}, {"always", single, 1, 7, 8, 0, 9, true}, {"always", single, 1, 0, 19999, 0, 20000, true}, {"always", single, 1, 0, 20000, 0, 0, false}, {"always", single, 1, 20000, 20000, 0, 0, false},
		// There is a rise up to the cap, also to a fee that is not a whole number of steps, and none at it.
		{"always", usual, 2, 5, 36, 0, 37, true}, {"always", usual, 2, 5, 34, 0, 37, true}, {"always", usual, 2, 5, 37, 0, 0, false}, {"always", usual, 2, 5, 39, 0, 0, false}, {"always", usual, 2, 5, 40, 0, 0, false}, {"always", usual, 2, 5, 37, 2, 0, false},
		{"always", between, 2, 5, 36, 0, 37, true}, {"always", between, 2, 5, 37, 0, 0, false}, {"always", usual, 24, 5, 9, 0, 10, true}, {"always", usual, 24, 5, 10, 0, 0, false},
		{"always", "keep 10 free 4 step 3 rate 0 cap 100 longer 6 price 2 most 2", 2, 5, 9, 0, 0, false},
		{"always", "keep 10 free 4 step 3 rate 0 cap 100 longer 6 price 2 most 2", 24, 0, 1000, 2, 0, false},
		{"always", "keep 10 free 4 step 3 rate 5 cap 0 longer 6 price 2 most 2", 2, 5, 9, 0, 0, false},
		{"always", "keep 10 free 4 step 3 rate 5 cap 1 longer 6 price 2 most 2", 2, 5, 9, 0, 10, true},
		// Too few hours are open for the next step.
		{"always", usual, 2, 19989, 19997, 0, 20000, true}, {"always", usual, 2, 19989, 20000, 0, 0, false}, {"always", usual, 2, 19990, 19998, 0, 0, false}, {"always", usual, 2, 19995, 19999, 0, 20000, true}, {"always", usual, 2, 19996, 19999, 0, 0, false},
		{"never", usual, 2, 5, 10, 0, 0, false}, {"shut", usual, 2, 0, 0, 1, 0, false}, {"day", usual, 2, 19836, 19841, 0, 0, false}, {"day", usual, 2, 19834, 19840, 0, 19842, true},
		// Only open hours count.
		{"day", usual, 1, 10, 14, 0, 15, true}, {"day", usual, 1, 10, 15, 0, 18, true}, {"day", usual, 1, 10, 17, 0, 18, true}, {"day", usual, 1, 10, 18, 0, 179, true}, {"day", usual, 1, 10, 50, 0, 179, true}, {"day", usual, 1, 10, 178, 0, 179, true}, {"day", usual, 1, 0, 0, 0, 13, true}, {"day", usual, 1, 18, 18, 0, 181, true},
		{"holiday", usual, 1, 10, 10, 0, 348, true}, {"holiday", usual, 1, 10, 347, 2, 348, true}, {"holiday", usual, 1, 8, 20, 0, 346, true},
	} {
		if got, ok := impl.NextRise(weekOf(c.week), termsOf(c.terms), c.size, c.start, c.end, c.extended); got != c.want || ok != c.ok {
			t.Errorf("NextRise %s, %s for %d from %d at %d with %d: %d, %v instead of %d", c.week, c.terms, c.size, c.start, c.end, c.extended, got, ok, c.want)
		}
	}
}

func TestOverdue(t *testing.T) {
	for _, c := range []struct {
		week                 string
		start, now, extended int
		want                 bool
	}{
		// The deadline itself is not overdue.
		{"always", 5, 14, 0, false}, {"always", 5, 15, 0, false}, {"always", 5, 16, 0, true}, {"always", 5, 20000, 0, true}, {"always", 5, 20001, 0, false}, {"always", 5, 5, 0, false}, {"always", 5, 0, 0, false}, {"always", 5, -1, 0, false},
		{"always", 5, 21, 1, false}, {"always", 5, 22, 1, true}, {"always", 5, 27, 2, false}, {"always", 5, 28, 2, true}, {"always", 5, 100, 3, false}, {"always", 5, 100, -1, false},
		{"day", 10, 178, 0, false}, {"day", 10, 179, 0, true}, {"day", 10, 184, 1, false}, {"day", 10, 185, 1, true}, {"day", 0, 18, 0, false}, {"day", 0, 19, 0, true},
		{"holiday", 10, 353, 0, false}, {"holiday", 10, 354, 0, true}, {"holiday", 10, 354, 1, false},
		// There is no time behind the last one, and nothing is overdue without a deadline.
		{"always", 19990, 20000, 0, false}, {"always", 19990, 20001, 0, false}, {"always", 19989, 20000, 0, true}, {"always", 19991, 20000, 0, false}, {"always", 19985, 20000, 1, false}, {"never", 0, 20000, 0, false}, {"shut", 0, 20000, 2, false},
		{"always", -1, 20000, 0, false}, {"always", 20001, 20001, 0, false}, {"always", 5, math.MaxInt, 0, false}, {"always", 5, math.MinInt, 0, false},
	} {
		if got := impl.Overdue(weekOf(c.week), termsOf(usual), c.start, c.now, c.extended); got != c.want {
			t.Errorf("Overdue %s from %d at %d with %d: %v", c.week, c.start, c.now, c.extended, got)
		}
	}
}

func TestCanExtend(t *testing.T) {
	never := "keep 10 free 4 step 3 rate 5 cap 100 longer 6 price 2 most 0"
	often := "keep 10 free 4 step 3 rate 5 cap 100 longer 6 price 2 most 20"
	for _, c := range []struct {
		week, terms          string
		start, now, extended int
		want                 bool
	}{
		// From the start to the deadline.
		{"always", usual, 5, 4, 0, false}, {"always", usual, 5, 5, 0, true}, {"always", usual, 5, 10, 0, true}, {"always", usual, 5, 15, 0, true}, {"always", usual, 5, 16, 0, false}, {"always", usual, 5, 0, 0, false}, {"always", usual, 5, -1, 0, false}, {"always", usual, 5, 20001, 0, false},
		{"always", usual, 5, 5, 1, true}, {"always", usual, 5, 16, 1, true}, {"always", usual, 5, 21, 1, true}, {"always", usual, 5, 22, 1, false}, {"always", usual, 0, 0, 0, true}, {"always", usual, 0, -1, 0, false},
		// Most extensions, and one more.
		{"always", usual, 5, 15, 2, false}, {"always", usual, 5, 5, 2, false}, {"always", usual, 5, 15, 3, false}, {"always", usual, 5, 15, -1, false}, {"always", never, 5, 5, 0, false}, {"always", often, 5, 15, 19, true}, {"always", often, 5, 15, 20, false}, {"always", often, 5, 15, 21, false},
		// There is no deadline for one more extension, or none at all.
		{"always", usual, 19984, 19990, 0, true}, {"always", usual, 19985, 19990, 0, false}, {"always", usual, 19978, 19990, 1, true}, {"always", usual, 19979, 19990, 1, false}, {"always", usual, 19991, 19995, 0, false}, {"never", usual, 5, 5, 0, false}, {"shut", usual, 5, 5, 1, false}, {"always", usual, 20000, 20000, 0, false},
		{"day", usual, 10, 9, 0, false}, {"day", usual, 10, 10, 0, true}, {"day", usual, 10, 100, 0, true}, {"day", usual, 10, 178, 0, true}, {"day", usual, 10, 179, 0, false}, {"day", usual, 10, 184, 1, true}, {"day", usual, 10, 185, 1, false},
		{"holiday", usual, 10, 353, 0, true}, {"holiday", usual, 10, 354, 0, false},
		{"always", usual, -1, 5, 0, false}, {"always", usual, 20001, 20001, 0, false}, {"always", usual, 5, math.MaxInt, 0, false}, {"always", usual, 5, math.MinInt, 0, false}, {"always", usual, 5, 5, math.MaxInt, false}, {"always", usual, 5, 5, math.MinInt, false},
	} {
		if got := impl.CanExtend(weekOf(c.week), termsOf(c.terms), c.start, c.now, c.extended); got != c.want {
			t.Errorf("CanExtend %s, %s from %d at %d with %d: %v", c.week, c.terms, c.start, c.now, c.extended, got)
		}
	}
}

func TestLeastExtensions(t *testing.T) {
	never := "keep 10 free 4 step 3 rate 5 cap 100 longer 6 price 2 most 0"
	often := "keep 10 free 4 step 3 rate 5 cap 100 longer 6 price 2 most 20"
	for _, c := range []struct {
		week, terms        string
		start, until, want int
		ok                 bool
	}{
		// None is needed.
		{"always", usual, 5, 5, 0, true}, {"always", usual, 5, 14, 0, true}, {"always", usual, 5, 15, 0, true}, {"always", usual, 5, 0, 0, true}, {"always", usual, 5, -1, 0, true}, {"always", usual, 5, math.MinInt, 0, true}, {"always", never, 5, 15, 0, true},
		{"always", usual, 5, 16, 1, true}, {"always", usual, 5, 20, 1, true}, {"always", usual, 5, 21, 1, true}, {"always", usual, 5, 22, 2, true}, {"always", usual, 5, 27, 2, true},
		{"always", often, 5, 28, 3, true}, {"always", often, 5, 134, 20, true}, {"always", often, 5, 135, 20, true},
		// None is enough.
		{"always", usual, 5, 28, 0, false}, {"always", often, 5, 136, 0, false}, {"always", never, 5, 16, 0, false}, {"always", usual, 5, 20000, 0, false}, {"always", usual, 5, 20001, 0, false}, {"always", usual, 5, math.MaxInt, 0, false},
		// The hours end before the extensions do.
		{"always", usual, 19990, 20000, 0, true}, {"always", usual, 19990, 20001, 0, false}, {"always", usual, 19980, 19996, 1, true}, {"always", usual, 19980, 19997, 0, false}, {"always", often, 19900, 20000, 15, true}, {"always", often, 19902, 19996, 14, true}, {"always", often, 19902, 19997, 0, false},
		{"always", usual, 19991, 19991, 0, false}, {"always", usual, 19991, 0, 0, false}, {"never", usual, 0, 0, 0, false}, {"shut", often, 0, -1, 0, false}, {"never", usual, 0, math.MinInt, 0, false},
		{"day", usual, 10, 178, 0, true}, {"day", usual, 10, 179, 1, true}, {"day", usual, 10, 184, 1, true}, {"day", usual, 10, 185, 2, true}, {"day", usual, 10, 348, 2, true}, {"day", usual, 10, 349, 0, false},
		{"holiday", usual, 10, 353, 0, true}, {"holiday", usual, 10, 354, 1, true}, {"holiday", usual, 10, 517, 1, true}, {"holiday", usual, 10, 518, 2, true},
		{"always", usual, -1, 0, 0, false}, {"always", usual, 20001, 0, 0, false},
	} {
		if got, ok := impl.LeastExtensions(weekOf(c.week), termsOf(c.terms), c.start, c.until); got != c.want || ok != c.ok {
			t.Errorf("LeastExtensions %s, %s from %d until %d: %d, %v instead of %d", c.week, c.terms, c.start, c.until, got, ok, c.want)
		}
	}
}

// checkNoDeadline checks that all functions of deadlines return what they do if there is none.
func checkNoDeadline(t *testing.T, w impl.Week, m impl.Terms, start int, extended int) {
	t.Helper()
	if got, ok := impl.DeadlineOf(w, m, start, extended); ok || got != 0 {
		t.Errorf("DeadlineOf %+v, %+v from %d with %d: %d, %v", w, m, start, extended, got, ok)
	}
	for _, now := range []int{0, 5, start, 30, 20000} {
		if impl.Overdue(w, m, start, now, extended) {
			t.Errorf("Overdue %+v, %+v from %d at %d with %d", w, m, start, now, extended)
		}
		if impl.CanExtend(w, m, start, now, extended) {
			t.Errorf("CanExtend %+v, %+v from %d at %d with %d", w, m, start, now, extended)
		}
	}
}

// checkNoStay checks that all functions of fees return what they do if a stay or what is agreed on it is not valid.
func checkNoStay(t *testing.T, w impl.Week, m impl.Terms, s impl.Stay) {
	t.Helper()
	if got := impl.FeeOf(w, m, s.Size, s.Start, s.End, s.Extended); got != -1 {
		t.Errorf("FeeOf %+v, %+v, %+v: %d", w, m, s, got)
	}
	if got, ok := impl.NextRise(w, m, s.Size, s.Start, s.End, s.Extended); ok || got != 0 {
		t.Errorf("NextRise %+v, %+v, %+v: %d, %v", w, m, s, got, ok)
	}
	if got, ok := impl.BillOf(w, m, []impl.Stay{s}); ok || got != 0 {
		t.Errorf("BillOf %+v, %+v, %+v: %d, %v", w, m, s, got, ok)
	}
	if got := impl.CheapestTerms(w, []impl.Terms{m}, []impl.Stay{s}); got != -1 {
		t.Errorf("CheapestTerms %+v, %+v, %+v: %d", w, m, s, got)
	}
}

// checkNoTerms checks that all functions return what they do if a week or terms are not valid.
func checkNoTerms(t *testing.T, w impl.Week, m impl.Terms) {
	t.Helper()
	for _, extended := range []int{0, 1, m.Most} {
		checkNoDeadline(t, w, m, 5, extended)
		for _, end := range []int{5, 9, 13} {
			checkNoStay(t, w, m, impl.Stay{Size: 2, Start: 5, End: end, Extended: extended})
		}
	}
	if got, ok := impl.FreeUntil(w, m, 5); ok || got != 0 {
		t.Errorf("FreeUntil %+v, %+v: %d, %v", w, m, got, ok)
	}
	for _, until := range []int{0, 5, 17, math.MinInt, math.MaxInt} {
		if got, ok := impl.LeastExtensions(w, m, 5, until); ok || got != 0 {
			t.Errorf("LeastExtensions %+v, %+v until %d: %d, %v", w, m, until, got, ok)
		}
	}
	if got, ok := impl.BillOf(w, m, nil); ok || got != 0 {
		t.Errorf("BillOf no stays, %+v, %+v: %d, %v", w, m, got, ok)
	}
	if got := impl.CheapestTerms(w, []impl.Terms{m, m}, nil); got != -1 {
		t.Errorf("CheapestTerms for no stays, %+v, %+v: %d", w, m, got)
	}
}

func TestFeesOfBadTerms(t *testing.T) {
	for _, m := range badTerms() {
		checkNoTerms(t, weekOf("always"), m)
		checkNoTerms(t, weekOf("never"), m)
	}
}

func TestFeesOfBadWeeks(t *testing.T) {
	for _, w := range badWeeks() {
		checkNoTerms(t, w, termsOf(usual))
		checkNoTerms(t, w, impl.Terms{})
	}
}

func TestFeesOfBadStays(t *testing.T) {
	for _, name := range []string{"always", "day", "never"} {
		w, m := weekOf(name), termsOf(usual)
		for _, size := range farSizes() {
			checkNoStay(t, w, m, impl.Stay{Size: size, Start: 5, End: 13})
		}
		for _, time := range farTimes() {
			checkNoDeadline(t, w, m, time, 0)
			checkNoStay(t, w, m, impl.Stay{Size: 2, Start: time, End: 13})
			checkNoStay(t, w, m, impl.Stay{Size: 2, Start: 5, End: time})
			checkNoStay(t, w, m, impl.Stay{Size: 2, Start: time, End: time})
			if got, ok := impl.FreeUntil(w, m, time); ok || got != 0 {
				t.Errorf("FreeUntil from %d: %d, %v", time, got, ok)
			}
			for _, until := range []int{0, time, 20000} {
				if got, ok := impl.LeastExtensions(w, m, time, until); ok || got != 0 {
					t.Errorf("LeastExtensions from %d until %d: %d, %v", time, until, got, ok)
				}
			}
		}
		// The end is before the start.
		for _, times := range [][2]int{{5, 4}, {1, 0}, {20000, 19999}, {20000, 0}, {13, 5}} {
			checkNoStay(t, w, m, impl.Stay{Size: 2, Start: times[0], End: times[1]})
		}
		for _, most := range []int{0, 2, 20} {
			m.Most = most
			for _, extended := range farExtensions(most) {
				checkNoDeadline(t, w, m, 5, extended)
				checkNoStay(t, w, m, impl.Stay{Size: 2, Start: 5, End: 13, Extended: extended})
			}
		}
		checkNoStay(t, w, m, impl.Stay{})
		checkNoStay(t, w, m, impl.Stay{Size: -1, Start: -1, End: -1, Extended: -1})
	}
}

// A time that there is not is no time at which something is overdue or can be extended.
func TestDeadlinesAtBadTimes(t *testing.T) {
	for _, now := range farTimes() {
		for _, start := range []int{0, 5, 19980} {
			if impl.Overdue(weekOf("always"), termsOf(usual), start, now, 0) || impl.CanExtend(weekOf("always"), termsOf(usual), start, now, 0) {
				t.Error("unexpected deadline from", start, "at", now)
			}
		}
	}
}
