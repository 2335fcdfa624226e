package tests

import (
	"math/rand"
	"slices"
	"testing"

	"loop.example/g03318/impl"
)

// someStays returns the stays of most bills: with the usual terms, they cost 20, 2, 100 and 7.
func someStays() []impl.Stay {
	return []impl.Stay{{Size: 2, Start: 5, End: 13}, {Size: 24, Start: 0, End: 4, Extended: 1}, {Size: 1, Start: 7, End: 20000}, {Size: 1, Start: 100, End: 105, Extended: 1}}
}

func TestBillOf(t *testing.T) {
	always, m := weekOf("always"), termsOf(usual)
	for i, c := range []struct {
		list []impl.Stay
		want int
	}{
		{nil, 0}, {[]impl.Stay{}, 0}, {someStays()[:1], 20}, {someStays()[:2], 22}, {someStays()[:3], 122}, {someStays(), 129},
		{[]impl.Stay{someStays()[1], someStays()[3]}, 9}, {[]impl.Stay{someStays()[0], someStays()[0]}, 40}, {[]impl.Stay{{Size: 1}}, 0},
		// The cap is that of each stay, not of all together.
		{[]impl.Stay{{Size: 24, End: 1000}, {Size: 24, End: 1000}, {Size: 24, End: 1000}}, 300},
	} {
		if got, ok := impl.BillOf(always, m, c.list); !ok || got != c.want {
			t.Errorf("bill %d: %d, %v", i, got, ok)
		}
	}
	if got, ok := impl.BillOf(weekOf("day"), m, someStays()); !ok || got != 114 {
		t.Error("a bill in open hours", got, ok)
	}
	if got, ok := impl.BillOf(weekOf("never"), m, someStays()); !ok || got != 4 {
		t.Error("a bill of a week that is never open", got, ok)
	}
}

func TestBillOfManyStays(t *testing.T) {
	always := weekOf("always")
	dear := termsOf("keep 2000 free 0 step 1 rate 10000 cap 1000000 longer 2000 price 100000 most 20")
	for n := range 25 {
		list := slices.Repeat([]impl.Stay{{Size: 24, Start: 0, End: 20000, Extended: 20}}, n)
		want := n * 3000000
		if n > 20 {
			want = 0
		}
		if got, ok := impl.BillOf(always, dear, list); got != want || ok != (n <= 20) {
			t.Errorf("BillOf %d stays: %d, %v", n, got, ok)
		}
	}
	if got, ok := impl.BillOf(always, dear, make([]impl.Stay, 1000)); ok || got != 0 {
		t.Error("BillOf 1000 stays", got, ok)
	}
}

// A stay without a fee is found wherever it stands, and nothing of the others is left.
func TestBillOfABadStay(t *testing.T) {
	bad := []impl.Stay{{}, {Size: 25, Start: 5, End: 13}, {Size: 2, Start: 13, End: 5}, {Size: 2, Start: -1, End: 5}, {Size: 2, Start: 5, End: 20001}, {Size: 2, Start: 5, End: 13, Extended: 3}, {Size: 2, Start: 5, End: 13, Extended: -1}}
	for _, s := range bad {
		for at := range 20 {
			list := slices.Repeat(someStays(), 5)
			list[at] = s
			if got, ok := impl.BillOf(weekOf("always"), termsOf(usual), list); ok || got != 0 {
				t.Errorf("BillOf with %+v at %d: %d, %v", s, at, got, ok)
			}
			if got := impl.CheapestTerms(weekOf("always"), goodTerms()[:20], list); s.Extended != 3 && got != -1 {
				t.Errorf("CheapestTerms with %+v at %d: %d", s, at, got)
			}
		}
	}
}

// termsWithCap returns terms with which each stay costs just this much, as the first hour reaches the cap.
func termsWithCap(limit int) impl.Terms {
	return impl.Terms{Keep: 1, Step: 1, Rate: 10000, Cap: limit, Longer: 1, Most: 3}
}

func TestCheapestTerms(t *testing.T) {
	none, once := termsWithCap(5), termsWithCap(7)
	none.Most, once.Most = 0, 1
	free := termsWithCap(1)
	free.Rate = 0
	bad := termsWithCap(0)
	bad.Keep = 0
	stay := []impl.Stay{{Size: 1, Start: 5, End: 6}}
	extended := []impl.Stay{{Size: 1, Start: 5, End: 6, Extended: 1}}
	twice := []impl.Stay{{Size: 1, Start: 5, End: 6}, {Size: 3, Start: 5, End: 9, Extended: 2}}
	for i, c := range []struct {
		terms []impl.Terms
		list  []impl.Stay
		want  int
	}{
		{[]impl.Terms{termsWithCap(9)}, stay, 0}, {[]impl.Terms{termsWithCap(9), termsWithCap(8)}, stay, 1}, {[]impl.Terms{termsWithCap(8), termsWithCap(9)}, stay, 0},
		{[]impl.Terms{termsWithCap(9), termsWithCap(7), termsWithCap(8)}, stay, 1}, {[]impl.Terms{termsWithCap(9), termsWithCap(8), termsWithCap(7)}, stay, 2}, {[]impl.Terms{termsWithCap(9), free}, stay, 1},
		// Of several terms with the least bill, the first ones count.
		{[]impl.Terms{termsWithCap(8), termsWithCap(8)}, stay, 0}, {[]impl.Terms{termsWithCap(9), termsWithCap(8), termsWithCap(8), termsWithCap(9), termsWithCap(8)}, stay, 1}, {[]impl.Terms{termsWithCap(0), free, termsWithCap(0)}, stay, 0},
		// Without stays, all bills are 0.
		{[]impl.Terms{termsWithCap(9), termsWithCap(8)}, nil, 0}, {[]impl.Terms{bad, termsWithCap(9), termsWithCap(8)}, nil, 1},
		// Only terms for which there is a bill count.
		{[]impl.Terms{bad, termsWithCap(9), bad, termsWithCap(8), bad}, stay, 3}, {[]impl.Terms{bad, bad}, stay, -1}, {[]impl.Terms{bad}, nil, -1}, {[]impl.Terms{{}, termsWithCap(9)}, stay, 1},
		{[]impl.Terms{none, once, termsWithCap(9)}, stay, 0}, {[]impl.Terms{none, once, termsWithCap(9)}, extended, 1}, {[]impl.Terms{none, once, termsWithCap(9)}, twice, 2}, {[]impl.Terms{none, once}, twice, -1}, {[]impl.Terms{none}, extended, -1},
		// No terms are there.
		{nil, stay, -1}, {nil, nil, -1}, {[]impl.Terms{}, stay, -1},
	} {
		if got := impl.CheapestTerms(weekOf("always"), c.terms, c.list); got != c.want {
			t.Errorf("cheapest terms, case %d: %d", i, got)
		}
	}
}

// With more storage, other terms are the cheapest: the cap of the first, the rate of the second and the price of the third decide.
func TestCheapestTermsForLongerStays(t *testing.T) {
	terms := []impl.Terms{
		termsOf("keep 10 free 0 step 1 rate 9 cap 30 longer 6 price 50 most 2"),
		termsOf("keep 10 free 2 step 4 rate 6 cap 1000 longer 6 price 9 most 2"),
		termsOf("keep 10 free 9 step 9 rate 50 cap 9000 longer 6 price 0 most 2"),
	}
	for _, c := range []struct{ end, extended, want int }{
		{0, 0, 0}, {1, 0, 1}, {2, 0, 1}, {3, 0, 2}, {9, 0, 2}, {10, 0, 1}, {18, 0, 1}, {22, 0, 0}, {23, 0, 0}, {20000, 0, 0},
		{0, 1, 2}, {9, 2, 2}, {10, 1, 1}, {10, 2, 1}, {19, 2, 1}, {23, 1, 1}, {51, 1, 0},
	} {
		if got := impl.CheapestTerms(weekOf("always"), terms, []impl.Stay{{Size: 1, End: c.end, Extended: c.extended}}); got != c.want {
			t.Errorf("cheapest terms for %+v: %d", c, got)
		}
	}
	// Of two stays, the sum of the fees decides.
	if got := impl.CheapestTerms(weekOf("always"), terms, []impl.Stay{{Size: 1, End: 9}, {Size: 1, End: 18}}); got != 1 {
		t.Error("cheapest terms for two stays", got)
	}
}

func TestCheapestOfManyTerms(t *testing.T) {
	stay := []impl.Stay{{Size: 1, Start: 5, End: 6}}
	for n := range 25 {
		terms := []impl.Terms{}
		for i := range n {
			terms = append(terms, termsWithCap(100-i))
		}
		want := n - 1
		if n > 20 {
			want = -1
		}
		if got := impl.CheapestTerms(weekOf("always"), terms, stay); got != want {
			t.Errorf("the cheapest of %d terms: %d", n, got)
		}
		// So many stays as there are terms.
		stays := slices.Repeat(stay, n)
		want = 1
		if n > 20 {
			want = -1
		}
		if n == 0 {
			want = 0
		}
		if got := impl.CheapestTerms(weekOf("always"), []impl.Terms{termsWithCap(9), termsWithCap(8)}, stays); got != want {
			t.Errorf("the cheapest terms for %d stays: %d", n, got)
		}
	}
	// Too many terms are too many also if only one of them has a bill.
	if got := impl.CheapestTerms(weekOf("always"), append(make([]impl.Terms, 20), termsWithCap(8)), stay); got != -1 {
		t.Error("one beside 20 bad terms", got)
	}
	if got := impl.CheapestTerms(weekOf("always"), append(make([]impl.Terms, 19), termsWithCap(8)), stay); got != 19 {
		t.Error("one beside 19 bad terms", got)
	}
	if got := impl.CheapestTerms(badWeeks()[0], []impl.Terms{termsWithCap(9)}, stay); got != -1 {
		t.Error("cheapest terms in a bad week", got)
	}
}

// feesBy returns, for each number of open hours, what they cost, found by letting one hour pass after the other.
func feesBy(m impl.Terms, size int, most int) []int {
	fees := []int{}
	cost, left := 0, m.Free
	for range most + 1 {
		fees = append(fees, min(cost, m.Cap))
		if left == 0 {
			left = m.Step
			cost += m.Rate * size
		}
		left--
	}
	return fees
}

// pick returns one of the numbers, or one up to the last of them.
func pick(r *rand.Rand, numbers ...int) int {
	if r.Intn(2) == 0 {
		return numbers[r.Intn(len(numbers))]
	}
	return numbers[0] + r.Intn(numbers[len(numbers)-1]-numbers[0]+1)
}

// someTerms returns valid terms with small numbers, great ones, and those at the ends of the ranges.
func someTerms(r *rand.Rand) impl.Terms {
	return impl.Terms{
		Keep: pick(r, 1, 2, 10, 50, 2000), Free: pick(r, 0, 1, 5, 30, 2000), Step: pick(r, 1, 2, 3, 24, 2000), Rate: pick(r, 0, 1, 5, 100, 10000),
		Cap: pick(r, 0, 1, 100, 5000, 1000000), Longer: pick(r, 1, 2, 7, 100, 2000), Price: pick(r, 0, 1, 3, 500, 100000), Most: pick(r, 0, 1, 2, 20),
	}
}

// Promise 6: a fee never falls with time, and has never more for storage than the cap.
func TestFeesOfManyStays(t *testing.T) {
	r := rand.New(rand.NewSource(61))
	for i, w := range someWeeks(r) {
		before := openBefore(w)
		for range 6 {
			m, size, start := someTerms(r), 1+r.Intn(24), r.Intn(1+r.Intn(20001))
			extended := r.Intn(m.Most + 1)
			fees := feesBy(m, size, 20000)
			last := 0
			for end := start; end <= 20000; end += 1 + r.Intn(1+(20000-start)/20) {
				got := impl.FeeOf(w, m, size, start, end, extended)
				if got != fees[before[end]-before[start]]+m.Price*extended {
					t.Fatalf("week %d, %+v: the fee for %d from %d to %d with %d is %d", i, m, size, start, end, extended, got)
				}
				if got < last || got-m.Price*extended > m.Cap || got < m.Price*extended {
					t.Fatalf("week %d, %+v: the fee for %d from %d to %d with %d is %d after %d", i, m, size, start, end, extended, got, last)
				}
				last = got
			}
		}
	}
}

// Just until FreeUntil, nothing is to be paid for storage, if the first step costs something; and the fee rises just at the next rise.
func TestRisesOfManyStays(t *testing.T) {
	r := rand.New(rand.NewSource(62))
	for i, w := range someWeeks(r) {
		before := openBefore(w)
		for range 12 {
			m, size, start := someTerms(r), 1+r.Intn(24), r.Intn(1+r.Intn(20001))
			fees := feesBy(m, size, 20000)
			until := start
			for until < 20000 && before[until+1]-before[start] <= m.Free {
				until++
			}
			if got, ok := impl.FreeUntil(w, m, start); !ok || got != until {
				t.Fatalf("week %d, %+v: free from %d until %d, %v instead of %d", i, m, start, got, ok, until)
			}
			if until < 20000 && (impl.FeeOf(w, m, size, start, until+1, 0) > 0) != (m.Rate > 0 && m.Cap > 0) {
				t.Fatalf("week %d, %+v: no fee from %d behind %d", i, m, start, until)
			}
			end := start + r.Intn(1+r.Intn(20001-start))
			rise := slices.IndexFunc(before, func(n int) bool {
				return n > before[end] && fees[n-before[start]] > fees[before[end]-before[start]]
			})
			if got, ok := impl.NextRise(w, m, size, start, end, m.Most); ok != (rise >= 0) || got != max(rise, 0) {
				t.Fatalf("week %d, %+v: the next rise for %d from %d after %d is %d, %v instead of %d", i, m, size, start, end, got, ok, rise)
			}
		}
	}
}

// deadlineBy returns the first time with so many open hours from the start on, or -1.
func deadlineBy(before []int, m impl.Terms, start int, extended int) int {
	if extended < 0 || extended > m.Most {
		return -1
	}
	hours := m.Keep + m.Longer*extended
	return slices.Index(before, before[start]+hours)
}

// Promise 6: each extension that has a deadline makes it later.
func TestDeadlinesOfManyStays(t *testing.T) {
	r := rand.New(rand.NewSource(63))
	for i, w := range someWeeks(r) {
		before := openBefore(w)
		for range 8 {
			m, start := someTerms(r), r.Intn(1+r.Intn(20001))
			last := start
			for extended := -1; extended <= m.Most+1; extended++ {
				want := deadlineBy(before, m, start, extended)
				got, ok := impl.DeadlineOf(w, m, start, extended)
				if ok != (want >= 0) || got != max(want, 0) {
					t.Fatalf("week %d, %+v: the deadline from %d with %d is %d, %v instead of %d", i, m, start, extended, got, ok, want)
				}
				if ok && got <= last {
					t.Fatalf("week %d, %+v: the deadline from %d with %d is %d after %d", i, m, start, extended, got, last)
				}
				if ok {
					last = got
				}
				next := deadlineBy(before, m, start, extended+1)
				for _, now := range []int{-1, start - 1, start, (start + want) / 2, want, want + 1, 20000, 20001} {
					isTime := now >= 0 && now <= 20000
					if got := impl.Overdue(w, m, start, now, extended); got != (want >= 0 && isTime && now > want) {
						t.Fatalf("week %d, %+v: overdue from %d at %d with %d: %v", i, m, start, now, extended, got)
					}
					if got := impl.CanExtend(w, m, start, now, extended); got != (want >= 0 && next >= 0 && isTime && now >= start && now <= want) {
						t.Fatalf("week %d, %+v: extension from %d at %d with %d: %v", i, m, start, now, extended, got)
					}
				}
			}
		}
	}
}

func TestLeastExtensionsOfManyStays(t *testing.T) {
	r := rand.New(rand.NewSource(64))
	for i, w := range someWeeks(r) {
		before := openBefore(w)
		for range 12 {
			m, start := someTerms(r), r.Intn(1+r.Intn(20001))
			deadlines := []int{}
			for extended := range m.Most + 1 {
				deadlines = append(deadlines, deadlineBy(before, m, start, extended))
			}
			one := deadlines[r.Intn(len(deadlines))]
			for _, until := range []int{one, one + 1, r.Intn(20001), slices.Max(deadlines), slices.Max(deadlines) + 1} {
				want := slices.IndexFunc(deadlines, func(d int) bool { return d >= 0 && d >= until })
				if got, ok := impl.LeastExtensions(w, m, start, until); ok != (want >= 0) || got != max(want, 0) {
					t.Fatalf("week %d, %+v: extensions from %d until %d: %d, %v instead of %d", i, m, start, until, got, ok, want)
				}
			}
		}
	}
}

func TestBillsOfManyStays(t *testing.T) {
	r := rand.New(rand.NewSource(65))
	for i, w := range someWeeks(r) {
		before := openBefore(w)
		list := []impl.Stay{}
		for range r.Intn(6) {
			start := r.Intn(20001)
			list = append(list, impl.Stay{Size: 1 + r.Intn(24), Start: start, End: start + r.Intn(1+r.Intn(20001-start)), Extended: r.Intn(1 + r.Intn(4))})
		}
		terms := []impl.Terms{}
		bills := []int{}
		for range r.Intn(8) {
			m := someTerms(r)
			want, possible := 0, true
			for _, s := range list {
				want += feesBy(m, s.Size, 20000)[before[s.End]-before[s.Start]] + m.Price*s.Extended
				possible = possible && s.Extended <= m.Most
			}
			if !possible {
				want = 0
			}
			if got, ok := impl.BillOf(w, m, list); ok != possible || got != want {
				t.Fatalf("week %d, %+v: the bill of %+v is %d, %v instead of %d", i, m, list, got, ok, want)
			}
			if !possible {
				want = -1
			}
			terms, bills = append(terms, m), append(bills, want)
		}
		cheapest := -1
		for k, bill := range bills {
			if bill >= 0 && (cheapest < 0 || bill < bills[cheapest]) {
				cheapest = k
			}
		}
		if got := impl.CheapestTerms(w, terms, list); got != cheapest {
			t.Fatalf("week %d: the cheapest terms of %+v for %+v are %d instead of %d", i, terms, list, got, cheapest)
		}
	}
}

func TestFeesLeaveTheirArguments(t *testing.T) {
	open := append(make([]impl.Span, 0, 4), impl.Span{From: 8, To: 18}, impl.Span{From: 20, To: 22})
	closed := append(make([]impl.Span, 0, 4), impl.Span{From: 30, To: 40}, impl.Span{From: 500, To: 900})
	w := impl.Week{Open: open, Closed: closed}
	terms := append(make([]impl.Terms, 0, 5), goodTerms()[:3]...)
	list := append(make([]impl.Stay, 0, 6), someStays()...)
	impl.DeadlineOf(w, terms[0], 10, 2)
	impl.FeeOf(w, terms[0], 1, 10, 3000, 2)
	impl.FreeUntil(w, terms[0], 10)
	impl.NextRise(w, terms[0], 1, 10, 300, 2)
	impl.Overdue(w, terms[0], 10, 300, 2)
	impl.CanExtend(w, terms[0], 10, 20, 1)
	impl.LeastExtensions(w, terms[0], 10, 300)
	impl.BillOf(w, terms[0], list)
	impl.CheapestTerms(w, terms, list)
	if !slices.Equal(open[:4], []impl.Span{{From: 8, To: 18}, {From: 20, To: 22}, {}, {}}) || !slices.Equal(closed[:4], []impl.Span{{From: 30, To: 40}, {From: 500, To: 900}, {}, {}}) {
		t.Error("the week was changed", open[:4], closed[:4])
	}
	if !slices.Equal(terms[:5], append(goodTerms()[:3:3], impl.Terms{}, impl.Terms{})) {
		t.Error("the terms were changed", terms[:5])
	}
	if !slices.Equal(list[:6], append(someStays(), impl.Stay{}, impl.Stay{})) {
		t.Error("the stays were changed", list[:6])
	}
}
