package tests

import (
	"fmt"
	"math"
	"slices"
	"strings"
	"testing"

	"loop.example/g03318/impl"
)

// stopOf reads a stop from its window, its work, and what is brought and fetched.
func stopOf(text string) impl.Stop {
	s := impl.Stop{}
	if _, err := fmt.Sscanf(text, "%d-%d w%d b%d f%d", &s.Start, &s.End, &s.Work, &s.Bring, &s.Fetch); err != nil {
		panic("no stop: " + text)
	}
	return s
}

// legsOf reads lists of legs with strokes between them.
func legsOf(text string) [][]int {
	legs := [][]int{}
	for _, row := range strings.Split(text, "/") {
		list := []int{}
		for _, field := range strings.Fields(row) {
			leg, ok := impl.ParseUint(field)
			if !ok {
				panic("no leg: " + field)
			}
			list = append(list, leg)
		}
		legs = append(legs, list)
	}
	return legs
}

// sameLegs returns the legs between so many places, all of the same length.
func sameLegs(places int, leg int) [][]int {
	legs := [][]int{}
	for range places {
		legs = append(legs, slices.Repeat([]int{leg}, places))
	}
	return legs
}

func roundOf(begin int, room int, legs string, stops ...string) impl.Round {
	r := impl.Round{Begin: begin, Room: room, Legs: legsOf(legs)}
	for _, text := range stops {
		r.Stops = append(r.Stops, stopOf(text))
	}
	return r
}

// between returns the round with two stops that most cases use.
func between() impl.Round {
	return roundOf(0, 10, "0 2 4 / 2 0 1 / 4 1 0", "5-10 w1 b3 f2", "0-4 w2 b4 f5")
}

// manyStops returns a round with so many stops at which all is possible.
func manyStops(n int) impl.Round {
	return impl.Round{Begin: 3, Room: 10, Legs: sameLegs(n+1, 1), Stops: slices.Repeat([]impl.Stop{stopOf("0-100 w1 b1 f1")}, n)}
}

// copyRound returns a round that shares no memory with r.
func copyRound(r impl.Round) impl.Round {
	legs := [][]int{}
	for _, list := range r.Legs {
		legs = append(legs, slices.Clone(list))
	}
	r.Legs, r.Stops = legs, slices.Clone(r.Stops)
	return r
}

// goodRounds returns valid rounds, with each number at the ends of its range in one of them.
func goodRounds() []impl.Round {
	list := []impl.Round{between(), {Legs: [][]int{{0}}}, {Legs: [][]int{{200}}, Begin: 20000, Room: 1000}}
	for n := range 7 {
		list = append(list, manyStops(n))
	}
	add := func(set func(r *impl.Round, n int), values ...int) {
		for _, n := range values {
			r := between()
			set(&r, n)
			list = append(list, r)
		}
	}
	add(func(r *impl.Round, n int) { r.Begin = n }, 0, 1, 19999, 20000)
	add(func(r *impl.Round, n int) { r.Room = n }, 0, 1, 999, 1000)
	for i := range 3 {
		for k := range 3 {
			add(func(r *impl.Round, n int) { r.Legs[i][k] = n }, 0, 1, 199, 200)
		}
	}
	for i := range 2 {
		add(func(r *impl.Round, n int) { r.Stops[i].Start, r.Stops[i].End = n, n }, 0, 1, 19999, 20000)
		add(func(r *impl.Round, n int) { r.Stops[i].Start, r.Stops[i].End = n, 20000 }, 0, 19999)
		add(func(r *impl.Round, n int) { r.Stops[i].Work = n }, 0, 1, 199, 200)
		add(func(r *impl.Round, n int) { r.Stops[i].Bring = n }, 0, 1, 999, 1000)
		add(func(r *impl.Round, n int) { r.Stops[i].Fetch = n }, 0, 1, 999, 1000)
	}
	return list
}

// badRounds returns rounds of which one part is not valid.
func badRounds() []impl.Round {
	list := []impl.Round{{}, {Begin: 5, Room: 10}, {Stops: between().Stops}, {Legs: [][]int{nil}}, {Legs: [][]int{{}}}}
	change := func(set func(r *impl.Round)) {
		r := between()
		set(&r)
		list = append(list, r)
	}
	add := func(set func(r *impl.Round, n int), values ...int) {
		for _, n := range append(values, -1, -2, math.MinInt, math.MinInt+1, math.MaxInt, math.MaxInt-1, 1<<32, -1<<32) {
			change(func(r *impl.Round) { set(r, n) })
		}
	}
	add(func(r *impl.Round, n int) { r.Begin = n }, 20001)
	add(func(r *impl.Round, n int) { r.Room = n }, 1001)
	for i := range 3 {
		for k := range 3 {
			add(func(r *impl.Round, n int) { r.Legs[i][k] = n }, 201)
		}
		change(func(r *impl.Round) { r.Legs[i] = nil })
		change(func(r *impl.Round) { r.Legs[i] = r.Legs[i][:2] })
		change(func(r *impl.Round) { r.Legs[i] = append(r.Legs[i], 0) })
	}
	for i := range 2 {
		add(func(r *impl.Round, n int) { r.Stops[i].Start, r.Stops[i].End = n, max(n, 20000) }, 20001)
		add(func(r *impl.Round, n int) { r.Stops[i].Start, r.Stops[i].End = 0, n }, 20001)
		add(func(r *impl.Round, n int) { r.Stops[i].Work = n }, 201)
		add(func(r *impl.Round, n int) { r.Stops[i].Bring = n }, 1001)
		add(func(r *impl.Round, n int) { r.Stops[i].Fetch = n }, 1001)
		for _, window := range [][2]int{{1, 0}, {11, 10}, {20000, 0}, {20000, 19999}} {
			change(func(r *impl.Round) { r.Stops[i].Start, r.Stops[i].End = window[0], window[1] })
		}
	}
	// Too few lists, too many, and such as are right for one place less or more.
	change(func(r *impl.Round) { r.Legs = nil })
	change(func(r *impl.Round) { r.Legs = [][]int{} })
	change(func(r *impl.Round) { r.Legs = r.Legs[:2] })
	change(func(r *impl.Round) { r.Legs = append(r.Legs, []int{0, 0, 0}) })
	for _, places := range []int{1, 2, 4, 7, 8} {
		change(func(r *impl.Round) { r.Legs = sameLegs(places, 1) })
	}
	change(func(r *impl.Round) { r.Stops = nil })
	change(func(r *impl.Round) { r.Stops = r.Stops[:1] })
	change(func(r *impl.Round) { r.Stops = append(r.Stops, impl.Stop{}) })
	last := manyStops(6)
	last.Stops[5].End = -1
	return append(list, manyStops(7), manyStops(8), manyStops(40), last)
}

// farStops are numbers of which none is the index of one of so many stops.
func farStops(n int) []int {
	return []int{-1, n, -2, n + 1, 6, 7, 1 << 32, 1<<32 + 1, -1 << 32, math.MinInt, math.MaxInt, math.MinInt + 1, math.MaxInt - 1}
}

// rideCase is a ride, with latest as the latest time at which it can begin, or -1 if there is none.
type rideCase struct {
	round                   impl.Round
	order, begins           []int
	end, peak, wait, latest int
}

// possible returns rides that are possible.
func possible() []rideCase {
	both := "0 2 4 / 2 0 1 / 4 1 0"
	uneven := "0 2 9 / 5 0 3 / 1 7 0"
	loads := roundOf(0, 12, "0 0 0 0 / 0 0 0 0 / 0 0 0 0 / 0 0 0 0", "0-9 w0 b2 f1", "0-9 w0 b3 f7", "0-9 w0 b4 f0")
	return []rideCase{
		{between(), []int{1, 0}, []int{4, 7}, 10, 8, 0, 0},
		{between(), []int{0}, []int{5}, 8, 3, 3, 8},
		{between(), []int{1}, []int{4}, 10, 5, 0, 0},
		// For the empty order, no way back is driven, although there is a leg.
		{between(), nil, nil, 0, 0, 0, 20000},
		{roundOf(7, 0, "0"), nil, nil, 7, 0, 0, 20000},
		{roundOf(7, 5, "200"), []int{}, nil, 7, 0, 0, 20000},
		{roundOf(20000, 0, "9 9 / 9 9", "0-5 w3 b1 f1"), nil, nil, 20000, 0, 0, 20000},
		// A leg from a place to itself is never driven.
		{roundOf(7, 5, "50 3 / 4 60", "0-20 w2 b1 f2"), []int{0}, []int{10}, 16, 2, 0, 17},
		// The arrival is before Start, at Start, behind it, and just at End.
		{roundOf(5, 5, "0 3 / 4 0", "9-12 w2 b1 f2"), []int{0}, []int{9}, 15, 2, 1, 9},
		{roundOf(6, 5, "0 3 / 4 0", "9-12 w2 b1 f2"), []int{0}, []int{9}, 15, 2, 0, 9},
		{roundOf(7, 5, "0 3 / 4 0", "9-12 w2 b1 f2"), []int{0}, []int{10}, 16, 2, 0, 9},
		{roundOf(9, 5, "0 3 / 4 0", "9-12 w2 b1 f2"), []int{0}, []int{12}, 18, 2, 0, 9},
		{roundOf(0, 5, "0 3 / 4 0", "12-12 w0 b0 f0"), []int{0}, []int{12}, 16, 0, 9, 9},
		{roundOf(0, 5, "0 0 / 0 0", "0-0 w0 b0 f0"), []int{0}, []int{0}, 0, 0, 0, 0},
		// The work may end behind End, as it is the arrival that counts.
		{roundOf(9, 5, "0 3 / 4 0", "9-12 w200 b1 f2"), []int{0}, []int{12}, 216, 2, 0, 9},
		// Two waits add up; a later begin makes both shorter.
		{roundOf(0, 9, both, "10-20 w1 b1 f0", "30-40 w1 b1 f0"), []int{0, 1}, []int{10, 30}, 35, 2, 26, 18},
		{roundOf(4, 9, both, "10-20 w1 b1 f0", "30-40 w1 b1 f0"), []int{0, 1}, []int{10, 30}, 35, 2, 22, 18},
		{roundOf(18, 9, both, "10-20 w1 b1 f0", "30-40 w1 b1 f0"), []int{0, 1}, []int{20, 30}, 35, 2, 8, 18},
		// The window of the second stop decides how late the ride can begin, also if work at the first one cannot be earlier.
		{roundOf(0, 9, both, "10-20 w1 b1 f0", "0-15 w1 b1 f0"), []int{0, 1}, []int{10, 12}, 17, 2, 8, 11},
		{roundOf(0, 9, both, "10-20 w1 b1 f0", "0-12 w1 b1 f0"), []int{0, 1}, []int{10, 12}, 17, 2, 8, 8},
		// Legs that differ in the two directions.
		{roundOf(0, 9, uneven, "0-100 w1 b1 f1", "0-100 w1 b1 f1"), []int{0, 1}, []int{2, 6}, 8, 2, 0, 94},
		{roundOf(0, 9, uneven, "0-100 w1 b1 f1", "0-100 w1 b1 f1"), []int{1, 0}, []int{9, 17}, 23, 2, 0, 83},
		{roundOf(0, 9, uneven, "0-100 w1 b1 f1", "0-100 w1 b1 f1"), []int{0}, []int{2}, 8, 1, 0, 98},
		{roundOf(0, 9, uneven, "0-100 w1 b1 f1", "0-100 w1 b1 f1"), []int{1}, []int{9}, 11, 1, 0, 91},
		// Loads that rise and fall; at a stop, room is made before it is needed.
		{roundOf(0, 5, "0 0 / 0 0", "0-9 w0 b5 f5"), []int{0}, []int{0}, 0, 5, 0, 9},
		{roundOf(0, 5, "0 0 / 0 0", "0-9 w0 b5 f0"), []int{0}, []int{0}, 0, 5, 0, 9},
		{roundOf(0, 5, "0 0 / 0 0", "0-9 w0 b0 f5"), []int{0}, []int{0}, 0, 5, 0, 9},
		{roundOf(0, 0, "0 0 / 0 0", "0-9 w0 b0 f0"), []int{0}, []int{0}, 0, 0, 0, 9},
		{roundOf(0, 1000, "0 0 / 0 0", "0-9 w0 b1000 f1000"), []int{0}, []int{0}, 0, 1000, 0, 9},
		{loads, []int{0, 1, 2}, []int{0, 0, 0}, 0, 12, 0, 9},
		{loads, []int{0, 2, 1}, []int{0, 0, 0}, 0, 9, 0, 9},
		{loads, []int{1, 0}, []int{0, 0}, 0, 9, 0, 9},
		// Of stops that are not driven to, nothing counts.
		{roundOf(0, 5, both, "3-20 w1 b2 f4", "0-0 w200 b1000 f1000"), []int{0}, []int{3}, 6, 4, 1, 18},
		// The time at the end is no time any more.
		{roundOf(20000, 5, "0 0 / 200 0", "0-20000 w200 b1 f1"), []int{0}, []int{20000}, 20400, 1, 0, 20000},
		{roundOf(19800, 5, "0 200 / 200 0", "0-20000 w200 b1 f1"), []int{0}, []int{20000}, 20400, 1, 0, 19800},
		{roundOf(0, 5, "0 0 / 1 0", "20000-20000 w0 b1 f1"), []int{0}, []int{20000}, 20001, 1, 20000, 20000},
		{roundOf(0, 5, "0 1 / 0 0", "20000-20000 w0 b1 f1"), []int{0}, []int{20000}, 20000, 1, 19999, 19999},
		// MaxStops stops, and some of them.
		{manyStops(6), []int{5, 3, 1, 0, 2, 4}, []int{4, 6, 8, 10, 12, 14}, 16, 6, 0, 89},
		{manyStops(6), []int{5, 0, 2}, []int{4, 6, 8}, 10, 3, 0, 95},
	}
}

func TestConstantsOfChapter7(t *testing.T) {
	if impl.MaxStops != 6 || impl.MaxLeg != 200 || impl.MaxRoom != 1000 {
		t.Error("unexpected constants", impl.MaxStops, impl.MaxLeg, impl.MaxRoom)
	}
}

func TestRoundOk(t *testing.T) {
	for _, r := range goodRounds() {
		if !impl.RoundOk(r) {
			t.Errorf("a valid round is rejected: %+v", r)
		}
	}
	for _, r := range badRounds() {
		if impl.RoundOk(r) {
			t.Errorf("a bad round is accepted: %+v", r)
		}
	}
}

func TestOrderOk(t *testing.T) {
	for n := range 7 {
		r := manyStops(n)
		down := []int{}
		for i := range n {
			down = append([]int{i}, down...)
			for _, order := range [][]int{{i}, down} {
				if !impl.OrderOk(r, order) {
					t.Errorf("a valid order of %d stops is rejected: %v", n, order)
				}
			}
		}
		if !impl.OrderOk(r, nil) || !impl.OrderOk(r, []int{}) {
			t.Errorf("the empty order of %d stops is rejected", n)
		}
	}
	for _, c := range possible() {
		// A room that is too small makes no order bad.
		c.round.Room = 0
		if !impl.OrderOk(c.round, c.order) {
			t.Errorf("a valid order of %+v is rejected: %v", c.round, c.order)
		}
	}
	for _, order := range [][]int{{0, 1}, {1, 0}} {
		if !impl.OrderOk(between(), order) {
			t.Errorf("a valid order is rejected: %v", order)
		}
	}
}

func TestRide(t *testing.T) {
	for i, c := range possible() {
		begins, end, ok := impl.Ride(c.round, c.order)
		if !ok || end != c.end || !slices.Equal(begins, c.begins) {
			t.Errorf("ride %d: %v, %d, %v", i, begins, end, ok)
		}
		if got := impl.PeakOf(c.round, c.order); got != c.peak {
			t.Errorf("the peak of ride %d: %d", i, got)
		}
		if got := impl.WaitOf(c.round, c.order); got != c.wait {
			t.Errorf("the wait of ride %d: %d", i, got)
		}
	}
}

// checkNoRide checks that all functions return what they do if a ride is not possible.
func checkNoRide(t *testing.T, r impl.Round, order []int) {
	t.Helper()
	if begins, end, ok := impl.Ride(r, order); ok || end != 0 || len(begins) != 0 {
		t.Errorf("the ride %v in %+v: %v, %d, %v", order, r, begins, end, ok)
	}
	if got := impl.PeakOf(r, order); got != -1 {
		t.Errorf("the peak of %v in %+v: %d", order, r, got)
	}
	if got := impl.WaitOf(r, order); got != -1 {
		t.Errorf("the wait of %v in %+v: %d", order, r, got)
	}
}

// checkLatest checks the latest begin, or that there is none if it is -1.
func checkLatest(t *testing.T, r impl.Round, order []int, latest int) {
	t.Helper()
	if got, ok := impl.LatestBegin(r, order); ok != (latest >= 0) || got != max(latest, 0) {
		t.Errorf("the latest begin of %v in %+v: %d, %v instead of %d", order, r, got, ok, latest)
	}
}

// With as much room as the peak, a ride is possible, and with less it is not, whenever it begins.
func TestRideWithLittleRoom(t *testing.T) {
	for i, c := range possible() {
		c.round.Room = c.peak
		if begins, end, ok := impl.Ride(c.round, c.order); !ok || end != c.end || !slices.Equal(begins, c.begins) {
			t.Errorf("ride %d with just enough room: %v, %d, %v", i, begins, end, ok)
		}
		checkLatest(t, c.round, c.order, c.latest)
		for room := range c.peak {
			c.round.Room = room
			checkNoRide(t, c.round, c.order)
			checkLatest(t, c.round, c.order, -1)
		}
	}
	// The peak is at the hub, after the first stop, and after the last one.
	hub := roundOf(0, 8, "0 0 0 / 0 0 0 / 0 0 0", "0-9 w0 b3 f2", "0-9 w0 b5 f5")
	first := roundOf(0, 8, "0 0 0 / 0 0 0 / 0 0 0", "0-9 w0 b1 f5", "0-9 w0 b3 f2")
	last := roundOf(0, 8, "0 0 0 / 0 0 0 / 0 0 0", "0-9 w0 b2 f1", "0-9 w0 b3 f7")
	for i, r := range []impl.Round{hub, first, last} {
		if got := impl.PeakOf(r, []int{0, 1}); got != 8 {
			t.Errorf("peak %d: %d", i, got)
		}
		r.Room--
		checkNoRide(t, r, []int{0, 1})
		checkLatest(t, r, []int{0, 1}, -1)
	}
}

// At the latest begin, a ride is possible; one hour later, it is not; and Begin as it was does not matter.
func TestLatestBegin(t *testing.T) {
	for i, c := range possible() {
		for _, begin := range []int{c.round.Begin, 0, 1, c.latest, min(c.latest+1, 20000), 20000} {
			c.round.Begin = begin
			checkLatest(t, c.round, c.order, c.latest)
		}
		for begin := 0; begin <= 20000; begin += 1 + max(0, begin-c.latest)*3 {
			c.round.Begin = begin
			if begin > c.latest {
				checkNoRide(t, c.round, c.order)
			} else if _, _, ok := impl.Ride(c.round, c.order); !ok {
				t.Errorf("ride %d is not possible at %d", i, begin)
			}
		}
	}
}

// None of these rides is possible, even at the time 0.
func TestNoLatestBegin(t *testing.T) {
	both := "0 2 4 / 2 0 1 / 4 1 0"
	for _, c := range []struct {
		round impl.Round
		order []int
	}{
		{between(), []int{0, 1}},
		{roundOf(0, 5, "0 3 / 4 0", "0-2 w2 b1 f2"), []int{0}},
		{roundOf(0, 5, "0 1 / 4 0", "0-0 w2 b1 f2"), []int{0}},
		// At the first stop, work cannot begin early enough for the second one.
		{roundOf(0, 9, both, "10-20 w1 b1 f0", "0-11 w1 b1 f0"), []int{0, 1}},
		{roundOf(0, 9, both, "0-20 w8 b1 f0", "0-10 w1 b1 f0"), []int{0, 1}},
	} {
		for _, begin := range []int{0, 1, 100, 20000} {
			c.round.Begin = begin
			checkNoRide(t, c.round, c.order)
			checkLatest(t, c.round, c.order, -1)
		}
	}
	// If the second stop has one hour more than in the last of them, the time 0 is possible, and no later one.
	for _, r := range []impl.Round{roundOf(0, 9, both, "0-20 w8 b1 f0", "0-11 w1 b1 f0"), roundOf(9, 9, both, "2-20 w8 b1 f0", "11-11 w1 b1 f0")} {
		checkLatest(t, r, []int{0, 1}, 0)
	}
}

func TestRideTooLate(t *testing.T) {
	for _, c := range []struct {
		round impl.Round
		order []int
	}{
		{between(), []int{0, 1}},
		{roundOf(10, 5, "0 3 / 4 0", "9-12 w2 b1 f2"), []int{0}},
		{roundOf(9, 5, "0 4 / 4 0", "9-12 w2 b1 f2"), []int{0}},
		{roundOf(1, 5, "0 0 / 0 0", "0-0 w0 b0 f0"), []int{0}},
		{roundOf(20000, 5, "0 1 / 0 0", "0-20000 w0 b0 f0"), []int{0}},
		{roundOf(0, 9, "0 2 4 / 2 0 1 / 4 1 0", "10-20 w2 b1 f0", "0-12 w1 b1 f0"), []int{0, 1}},
		{roundOf(19999, 9, "0 0 0 / 0 0 0 / 0 0 0", "0-20000 w2 b1 f0", "0-20000 w1 b1 f0"), []int{0, 1}},
	} {
		checkNoRide(t, c.round, c.order)
	}
}

// checkNoOrder checks that all functions return what they do if an order is not valid.
func checkNoOrder(t *testing.T, r impl.Round, order []int) {
	t.Helper()
	if impl.OrderOk(r, order) {
		t.Errorf("the order %v in %+v is accepted", order, r)
	}
	checkNoRide(t, r, order)
	checkLatest(t, r, order, -1)
}

func TestToursInBadOrders(t *testing.T) {
	for n := range 7 {
		r := manyStops(n)
		all := []int{}
		for i := range n {
			all = append(all, i)
			checkNoOrder(t, r, []int{i, i})
			checkNoOrder(t, r, slices.Repeat([]int{i}, 1000))
		}
		for i := range n {
			checkNoOrder(t, r, append(slices.Clone(all), i))
			checkNoOrder(t, r, append([]int{i}, all...))
			twice := slices.Clone(all)
			twice[i] = all[n-1-i]
			if i != n-1-i {
				checkNoOrder(t, r, twice)
			}
		}
		for _, bad := range farStops(n) {
			if bad >= 0 && bad < n {
				continue
			}
			checkNoOrder(t, r, []int{bad})
			checkNoOrder(t, r, append(slices.Clone(all), bad))
			checkNoOrder(t, r, append([]int{bad}, all...))
			for i := range n {
				changed := slices.Clone(all)
				changed[i] = bad
				checkNoOrder(t, r, changed)
			}
		}
		checkNoOrder(t, r, make([]int, n+1))
		checkNoOrder(t, r, slices.Repeat([]int{-1}, 1000))
	}
}

func TestToursOfBadRounds(t *testing.T) {
	for _, r := range badRounds() {
		for _, order := range [][]int{nil, {}, {0}, {1}, {0, 1}, {1, 0}, {2}, {0, 0}, {-1}, {0, 1, 2, 3, 4, 5}, {0, 1, 2, 3, 4, 5, 6}} {
			checkNoOrder(t, r, order)
		}
		if order, end, ok := impl.BestRide(r); ok || end != 0 || len(order) != 0 {
			t.Errorf("the best ride of %+v: %v, %d, %v", r, order, end, ok)
		}
		if order, end, ok := impl.MostRide(r); ok || end != 0 || len(order) != 0 {
			t.Errorf("the ride with the most stops of %+v: %v, %d, %v", r, order, end, ok)
		}
		if impl.TriangleOk(r) {
			t.Errorf("TriangleOk of %+v", r)
		}
	}
}

func TestTriangleOk(t *testing.T) {
	for _, c := range []struct {
		legs string
		want bool
	}{
		{"0", true}, {"200", true}, {"0 0 / 0 0", true}, {"0 200 / 200 0", true},
		// From a place to itself, the way over another one counts too.
		{"0 2 / 3 5", true}, {"0 2 / 3 6", false}, {"5 2 / 3 0", true}, {"6 2 / 3 0", false},
		// From the first stop to the hub, the way over the second one is shorter than the leg, just as long, and longer.
		{"0 2 3 / 6 0 1 / 4 5 0", false}, {"0 2 3 / 6 0 1 / 5 5 0", true}, {"0 2 3 / 6 0 1 / 6 5 0", true},
		// So is the way from the hub over the first stop to the second one, and from the second one over the hub to the first one.
		{"0 2 4 / 6 0 1 / 6 5 0", false}, {"0 2 3 / 6 0 1 / 6 5 0", true}, {"0 2 2 / 6 0 1 / 6 5 0", true},
		{"0 2 3 / 5 0 1 / 4 7 0", false}, {"0 2 3 / 5 0 1 / 4 6 0", true}, {"0 2 3 / 5 0 1 / 4 5 0", true},
		// Only one of the two directions has a shorter way.
		{"0 2 2 / 2 0 4 / 2 4 0", true}, {"0 2 2 / 2 0 5 / 2 4 0", false}, {"0 2 2 / 2 0 4 / 2 5 0", false},
		// Over one place, the way is longer, and over two places shorter.
		{"0 1 9 3 / 9 0 1 9 / 9 9 0 1 / 9 9 9 0", false}, {"0 1 2 3 / 9 0 1 2 / 9 9 0 1 / 9 9 9 0", true}, {"0 1 2 4 / 9 0 1 2 / 9 9 0 1 / 9 9 9 0", false},
		{"0 100 200 / 100 0 100 / 200 100 0", true}, {"0 100 200 / 100 0 99 / 200 100 0", false}, {"0 100 200 / 100 0 100 / 200 99 0", false},
	} {
		r := impl.Round{Legs: legsOf(c.legs)}
		r.Stops = make([]impl.Stop, len(r.Legs)-1)
		if got := impl.TriangleOk(r); got != c.want {
			t.Errorf("TriangleOk of %s: %v", c.legs, got)
		}
	}
}

// A single leg between MaxStops stops that is too long is found wherever it is.
func TestTriangleOkOfManyStops(t *testing.T) {
	for i := range 7 {
		for k := range 7 {
			r := manyStops(6)
			r.Legs = sameLegs(7, 5)
			for _, leg := range []int{4, 5, 10, 11, 200} {
				r.Legs[i][k] = leg
				if got := impl.TriangleOk(r); got != (leg <= 10) {
					t.Errorf("TriangleOk with %d from %d to %d: %v", leg, i, k, got)
				}
			}
			r.Legs[i][k] = 2
			if got := impl.TriangleOk(r); got != true {
				t.Errorf("TriangleOk with 2 from %d to %d: %v", i, k, got)
			}
		}
	}
}
