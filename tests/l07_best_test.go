package tests

import (
	"math/rand"
	"slices"
	"testing"

	"loop.example/g03318/impl"
)

// bests has rounds, and their best rides and rides with the most stops; best is nil if there is no order of all stops.
var bests = []struct {
	round    impl.Round
	best     []int
	end      int
	most     []int
	mostEnds int
}{
	// Without stops, the empty order is the best one, and no way back is driven.
	{roundOf(0, 0, "0"), []int{}, 0, []int{}, 0},
	{roundOf(20000, 0, "9"), []int{}, 20000, []int{}, 20000},
	// A single stop: reached in time, too late, and with a load that is too great at the hub and behind the stop.
	{roundOf(7, 5, "50 3 / 4 60", "0-10 w2 b5 f5"), []int{0}, 16, []int{0}, 16},
	{roundOf(8, 5, "50 3 / 4 60", "0-10 w2 b5 f5"), nil, 0, []int{}, 8},
	{roundOf(7, 4, "50 3 / 4 60", "0-10 w2 b5 f1"), nil, 0, []int{}, 7},
	{roundOf(7, 4, "50 3 / 4 60", "0-10 w2 b1 f5"), nil, 0, []int{}, 7},
	// Only one order of two is possible, by the windows and by the loads.
	{between(), []int{1, 0}, 10, []int{1, 0}, 10},
	{roundOf(0, 5, "0 1 1 / 1 0 1 / 1 1 0", "0-9 w0 b1 f4", "0-9 w0 b4 f1"), []int{1, 0}, 3, []int{1, 0}, 3},
	{roundOf(0, 5, "0 1 1 / 1 0 1 / 1 1 0", "0-9 w0 b4 f1", "0-9 w0 b1 f4"), []int{0, 1}, 3, []int{0, 1}, 3},
	// Both are possible, and one of them is shorter, or has fewer hours of waiting.
	{roundOf(0, 5, "0 1 7 / 4 0 2 / 1 5 0", "0-99 w0 b0 f0", "0-99 w0 b0 f0"), []int{0, 1}, 4, []int{0, 1}, 4},
	{roundOf(0, 5, "0 7 1 / 1 0 5 / 4 2 0", "0-99 w0 b0 f0", "0-99 w0 b0 f0"), []int{1, 0}, 4, []int{1, 0}, 4},
	{roundOf(0, 5, "0 1 1 / 1 0 1 / 1 1 0", "20-99 w1 b0 f0", "0-99 w9 b0 f0"), []int{1, 0}, 22, []int{1, 0}, 22},
	{roundOf(0, 5, "0 9 1 / 9 0 9 / 1 9 0", "30-99 w1 b0 f0", "0-99 w1 b0 f0"), []int{1, 0}, 40, []int{1, 0}, 40},
	{roundOf(0, 5, "0 1 9 / 9 0 1 / 1 9 0", "0-99 w1 b0 f0", "30-99 w1 b0 f0"), []int{0, 1}, 32, []int{0, 1}, 32},
	// Without the way back, the other order would end earlier.
	{roundOf(0, 5, "0 1 2 / 1 0 1 / 9 1 0", "0-99 w0 b0 f0", "0-99 w0 b0 f0"), []int{1, 0}, 4, []int{1, 0}, 4},
	// All orders end at the same time, and the lexicographically least one counts.
	{manyStops(2), []int{0, 1}, 8, []int{0, 1}, 8},
	{manyStops(3), []int{0, 1, 2}, 10, []int{0, 1, 2}, 10},
	{manyStops(6), []int{0, 1, 2, 3, 4, 5}, 16, []int{0, 1, 2, 3, 4, 5}, 16},
	{roundOf(0, 5, "0 2 3 5 / 2 0 4 6 / 3 4 0 2 / 5 6 2 0", "50-99 w0 b0 f0", "50-99 w0 b0 f0", "0-99 w0 b0 f0"), []int{2, 1, 0}, 56, []int{2, 1, 0}, 56},
	{roundOf(0, 5, "0 1 1 1 / 1 0 1 1 / 1 1 0 1 / 1 1 1 0", "0-99 w0 b0 f0", "0-99 w0 b0 f0", "0-1 w0 b0 f0"), []int{2, 0, 1}, 4, []int{2, 0, 1}, 4},
	{roundOf(0, 5, "0 1 1 1 / 1 0 1 1 / 1 1 0 1 / 1 1 1 0", "0-99 w0 b0 f0", "0-1 w0 b0 f0", "0-99 w0 b0 f0"), []int{1, 0, 2}, 4, []int{1, 0, 2}, 4},
	// No order of all stops is possible: of two, one alone is, or either, or none.
	{roundOf(0, 5, "0 1 1 / 1 0 1 / 1 1 0", "0-0 w0 b0 f0", "0-1 w0 b0 f0"), nil, 0, []int{1}, 2},
	{roundOf(0, 5, "0 1 1 / 1 0 1 / 1 1 0", "0-1 w0 b0 f0", "0-0 w0 b0 f0"), nil, 0, []int{0}, 2},
	{roundOf(0, 5, "0 1 1 / 1 0 1 / 1 1 0", "0-1 w0 b0 f0", "0-1 w0 b0 f0"), nil, 0, []int{0}, 2},
	{roundOf(0, 5, "0 1 1 / 2 0 1 / 1 1 0", "0-1 w0 b0 f0", "0-1 w0 b0 f0"), nil, 0, []int{1}, 2},
	{roundOf(0, 5, "0 1 1 / 1 0 1 / 1 1 0", "0-0 w0 b0 f0", "0-0 w0 b0 f0"), nil, 0, []int{}, 0},
	{roundOf(9, 5, "0 1 1 / 1 0 1 / 1 1 0", "0-9 w0 b0 f0", "0-9 w0 b0 f0"), nil, 0, []int{}, 9},
	// Loads that are too great together.
	{roundOf(0, 5, "0 1 1 / 1 0 1 / 1 1 0", "0-99 w1 b3 f0", "0-99 w0 b3 f0"), nil, 0, []int{1}, 2},
	{roundOf(0, 5, "0 1 1 / 1 0 1 / 1 1 0", "0-99 w0 b0 f3", "0-99 w1 b0 f3"), nil, 0, []int{0}, 2},
	{roundOf(0, 5, "0 1 1 / 1 0 1 / 1 1 0", "0-99 w0 b3 f3", "0-99 w0 b3 f3"), nil, 0, []int{0}, 2},
	{roundOf(0, 6, "0 1 1 / 1 0 1 / 1 1 0", "0-99 w0 b3 f3", "0-99 w0 b3 f3"), []int{0, 1}, 3, []int{0, 1}, 3},
	// More stops count more than an earlier end.
	{roundOf(0, 5, "0 1 1 1 / 1 0 1 1 / 1 1 0 1 / 1 1 1 0", "90-99 w9 b0 f0", "0-0 w0 b0 f0", "80-99 w9 b0 f0"), nil, 0, []int{2, 0}, 100},
	// As many stops: the least end counts, and then the lexicographically least order.
	{roundOf(0, 5, "0 1 1 1 / 1 0 1 1 / 1 1 0 1 / 1 1 1 0", "0-2 w1 b0 f0", "0-2 w0 b0 f0", "0-2 w0 b0 f0"), nil, 0, []int{1, 2}, 3},
	{roundOf(0, 5, "0 1 1 1 / 1 0 1 1 / 1 1 0 1 / 1 1 1 0", "0-2 w0 b0 f0", "0-2 w1 b0 f0", "0-2 w0 b0 f0"), nil, 0, []int{0, 2}, 3},
	{roundOf(0, 5, "0 1 1 1 / 1 0 1 1 / 1 1 0 1 / 1 1 1 0", "0-2 w0 b0 f0", "0-2 w0 b0 f0", "0-2 w0 b0 f0"), nil, 0, []int{0, 1}, 3},
	{roundOf(0, 5, "0 1 1 1 / 9 0 1 9 / 1 1 0 1 / 1 1 1 0", "0-2 w0 b0 f0", "0-2 w0 b0 f0", "0-2 w0 b0 f0"), nil, 0, []int{0, 1}, 3},
	{roundOf(0, 5, "0 1 1 1 / 9 0 9 9 / 9 1 0 1 / 1 1 1 0", "0-2 w0 b0 f0", "0-2 w0 b0 f0", "0-2 w0 b0 f0"), nil, 0, []int{1, 2}, 3},
	// All but one of MaxStops stops.
	{impl.Round{Room: 5, Legs: sameLegs(7, 1), Stops: slices.Repeat([]impl.Stop{stopOf("0-5 w0 b0 f0")}, 6)}, nil, 0, []int{0, 1, 2, 3, 4}, 6},
	{impl.Round{Room: 5, Legs: sameLegs(7, 1), Stops: slices.Repeat([]impl.Stop{stopOf("0-99 w0 b1 f0")}, 6)}, nil, 0, []int{0, 1, 2, 3, 4}, 6},
	{impl.Round{Room: 6, Legs: sameLegs(7, 1), Stops: slices.Repeat([]impl.Stop{stopOf("0-6 w0 b1 f1")}, 6)}, []int{0, 1, 2, 3, 4, 5}, 7, []int{0, 1, 2, 3, 4, 5}, 7},
	// The time at the end is no time any more.
	{roundOf(20000, 0, "0 0 0 / 200 0 0 / 199 0 0", "0-20000 w200 b0 f0", "0-20000 w0 b0 f0"), []int{1, 0}, 20400, []int{1, 0}, 20400},
	{roundOf(20000, 0, "0 0 0 / 200 0 0 / 199 0 0", "0-20000 w200 b0 f0", "0-20000 w200 b0 f0"), nil, 0, []int{1}, 20399},
}

func TestBestRides(t *testing.T) {
	for i, c := range bests {
		best, end, ok := impl.BestRide(c.round)
		if ok != (c.best != nil) || end != c.end || !slices.Equal(best, c.best) {
			t.Errorf("the best ride %d: %v, %d, %v", i, best, end, ok)
		}
		most, end, ok := impl.MostRide(c.round)
		if !ok || end != c.mostEnds || !slices.Equal(most, c.most) {
			t.Errorf("the ride with the most stops %d: %v, %d, %v", i, most, end, ok)
		}
	}
}

// driveBy returns the times at which work begins, the time at the end, the greatest load and the hours of waiting, as the document tells them,
// step by step, and whether the ride is possible.
func driveBy(r impl.Round, order []int) ([]int, int, int, int, bool) {
	time, place, wait := r.Begin, 0, 0
	loads, begins := []int{0}, []int{}
	for _, stop := range order {
		loads[0] += r.Stops[stop].Bring
	}
	possible := true
	for i, stop := range order {
		s := r.Stops[stop]
		time += r.Legs[place][stop+1]
		possible = possible && time <= s.End
		for time < s.Start {
			time++
			wait++
		}
		begins = append(begins, time)
		time += s.Work
		loads = append(loads, loads[i]-s.Bring+s.Fetch)
		place = stop + 1
	}
	if place != 0 {
		time += r.Legs[place][0]
	}
	peak := slices.Max(loads)
	return begins, time, peak, wait, possible && peak <= r.Room
}

// latestBy returns the latest begin of a ride, counted back from its last stop, or -1.
func latestBy(r impl.Round, order []int) int {
	latest := 20000
	for i := len(order) - 1; i >= 0; i-- {
		s := r.Stops[order[i]]
		if i < len(order)-1 {
			latest -= r.Legs[order[i]+1][order[i+1]+1] + s.Work
			if latest < s.Start {
				return -1
			}
		}
		latest = min(latest, s.End)
	}
	if len(order) > 0 {
		latest -= r.Legs[0][order[0]+1]
	}
	if _, _, peak, _, _ := driveBy(r, order); peak > r.Room || latest < 0 {
		return -1
	}
	return latest
}

// ordersBy returns all lists of different numbers below n, found by counting with n digits.
func ordersBy(n int) [][]int {
	list := [][]int{{}}
	for length := 1; length <= n; length++ {
		codes := 1
		for range length {
			codes *= n
		}
		for code := range codes {
			order, used, rest := []int{}, make([]bool, n), code
			for len(order) < length && !used[rest%n] {
				used[rest%n] = true
				order = append(order, rest%n)
				rest /= n
			}
			if len(order) == length {
				list = append(list, order)
			}
		}
	}
	return list
}

// someRound returns a valid round with so many stops, of which often not all are possible, or not in each order.
func someRound(r *rand.Rand, n int) impl.Round {
	begin, horizon, room := r.Intn(20), 5+r.Intn(20*n+1), r.Intn(8*n+1)
	longest := []int{1, 3, 10, 10, 200}[r.Intn(5)]
	if r.Intn(4) == 0 {
		begin = 20000 - r.Intn(horizon)
	}
	round := impl.Round{Begin: begin, Room: room, Legs: sameLegs(n+1, 0)}
	for i := range n + 1 {
		for k := range n + 1 {
			round.Legs[i][k] = r.Intn(longest + 1)
			if r.Intn(3) == 0 {
				round.Legs[i][k] = round.Legs[k][i]
			}
		}
	}
	for range n {
		start := max(0, min(20000, begin-10+r.Intn(horizon)))
		end := min(20000, start+r.Intn(3*horizon))
		round.Stops = append(round.Stops, impl.Stop{Start: start, End: end, Work: r.Intn(4), Bring: r.Intn(6), Fetch: r.Intn(6)})
	}
	return round
}

// Promise 7: no order of all stops ends before the best ride, and none has more stops than the ride with the most.
func TestToursOfManyRounds(t *testing.T) {
	r := rand.New(rand.NewSource(71))
	all, some, none := 0, 0, 0
	for i := range 240 {
		n := i % 7
		round := someRound(r, n)
		var best, most []int
		bestEnd, mostEnd := 0, 0
		for _, order := range ordersBy(n) {
			begins, end, peak, wait, possible := driveBy(round, order)
			checkDrive(t, round, order, begins, end, peak, wait, possible)
			if !possible {
				continue
			}
			if len(order) == n && (best == nil || end < bestEnd || end == bestEnd && slices.Compare(order, best) < 0) {
				best, bestEnd = order, end
			}
			if most == nil || len(order) > len(most) || len(order) == len(most) && (end < mostEnd || end == mostEnd && slices.Compare(order, most) < 0) {
				most, mostEnd = order, end
			}
		}
		if got, end, ok := impl.BestRide(round); ok != (best != nil) || end != bestEnd || !slices.Equal(got, best) {
			t.Fatalf("the best ride of %+v: %v, %d, %v instead of %v, %d", round, got, end, ok, best, bestEnd)
		}
		if got, end, ok := impl.MostRide(round); !ok || end != mostEnd || !slices.Equal(got, most) {
			t.Fatalf("the ride with the most stops of %+v: %v, %d, %v instead of %v, %d", round, got, end, ok, most, mostEnd)
		}
		switch {
		case best != nil:
			all++
		case len(most) > 0:
			some++
		default:
			none++
		}
	}
	if all < 20 || some < 20 || none < 5 {
		t.Error("the rounds are too much alike", all, some, none)
	}
}

// checkDrive checks what the functions tell of a ride.
func checkDrive(t *testing.T, round impl.Round, order []int, begins []int, end int, peak int, wait int, possible bool) {
	t.Helper()
	if !possible {
		begins, end, peak, wait = nil, 0, -1, -1
	}
	if got, x, ok := impl.Ride(round, order); ok != possible || x != end || !slices.Equal(got, begins) {
		t.Fatalf("the ride %v in %+v: %v, %d, %v instead of %v, %d", order, round, got, x, ok, begins, end)
	}
	if p, w := impl.PeakOf(round, order), impl.WaitOf(round, order); p != peak || w != wait {
		t.Fatalf("the peak %d instead of %d, the wait %d instead of %d of %v in %+v", p, peak, w, wait, order, round)
	}
}

// The latest begin is the one that is counted back from the last stop; the ride is possible up to it, and not behind it.
func TestLatestBeginsOfManyRounds(t *testing.T) {
	r := rand.New(rand.NewSource(72))
	found, missing := 0, 0
	for i := range 240 {
		n := i % 7
		round := someRound(r, n)
		for range 20 {
			order := r.Perm(n)[:r.Intn(n+1)]
			latest := latestBy(round, order)
			checkLatest(t, round, order, latest)
			for _, begin := range []int{0, 1, latest / 2, latest - 1, latest, latest + 1, latest + 2, 20000} {
				moved := round
				moved.Begin = max(0, min(begin, 20000))
				if _, _, ok := impl.Ride(moved, order); ok != (moved.Begin <= latest) {
					t.Fatalf("the ride %v in %+v: %v, but the latest begin is %d", order, moved, ok, latest)
				}
			}
			if latest < 0 {
				missing++
			} else {
				found++
			}
		}
	}
	if found < 200 || missing < 200 {
		t.Error("the rounds are too much alike", found, missing)
	}
}

// TriangleOk is true just if a way over another place is never shorter.
func TestTrianglesOfManyRounds(t *testing.T) {
	r := rand.New(rand.NewSource(73))
	count := map[bool]int{}
	for i := range 300 {
		places := 1 + i%7
		round := impl.Round{Legs: sameLegs(places, 0), Stops: make([]impl.Stop, places-1)}
		short := 8 + r.Intn(20)
		for k := range places * places {
			round.Legs[k/places][k%places] = short + r.Intn(24)
		}
		want := true
		for i, from := range round.Legs {
			for m := range places {
				for k := range places {
					want = want && round.Legs[i][k] <= from[m]+round.Legs[m][k]
				}
			}
		}
		if got := impl.TriangleOk(round); got != want {
			t.Fatalf("TriangleOk of %v: %v", round.Legs, got)
		}
		count[want]++
	}
	if count[true] < 50 || count[false] < 50 {
		t.Error("the legs are too much alike", count)
	}
}

// spareRound returns the round with room behind all its slices.
func spareRound(r impl.Round) impl.Round {
	legs := make([][]int, 0, len(r.Legs)+2)
	for _, list := range r.Legs {
		legs = append(legs, append(make([]int, 0, len(list)+2), list...))
	}
	r.Legs, r.Stops = legs, append(make([]impl.Stop, 0, len(r.Stops)+2), r.Stops...)
	return r
}

// isSpare tells whether a round made by spareRound is the same still, with nothing behind its slices.
func isSpare(r impl.Round, as impl.Round) bool {
	same := r.Begin == as.Begin && r.Room == as.Room && len(r.Legs) == len(as.Legs)
	same = same && slices.Equal(r.Stops[:cap(r.Stops)], append(slices.Clone(as.Stops), impl.Stop{}, impl.Stop{}))
	for i, list := range r.Legs {
		same = same && slices.Equal(list[:cap(list)], append(slices.Clone(as.Legs[i]), 0, 0))
	}
	for _, list := range r.Legs[len(r.Legs):cap(r.Legs)] {
		same = same && list == nil
	}
	return same
}

func TestToursLeaveTheirArguments(t *testing.T) {
	for _, keep := range append(goodRounds(), badRounds()...) {
		r := spareRound(keep)
		for _, stops := range [][]int{{}, {0}, {1, 0}, {0, 1}, {5, 0, 1}, {9}} {
			order := append(make([]int, 0, len(stops)+2), stops...)
			impl.RoundOk(r)
			impl.OrderOk(r, order)
			impl.Ride(r, order)
			impl.PeakOf(r, order)
			impl.WaitOf(r, order)
			impl.BestRide(r)
			impl.MostRide(r)
			impl.LatestBegin(r, order)
			impl.TriangleOk(r)
			if !isSpare(r, keep) || !slices.Equal(order[:len(stops)+2], append(slices.Clone(stops), 0, 0)) {
				t.Errorf("an argument was changed: %+v, %v", r, order[:len(stops)+2])
			}
		}
	}
}

// What is done to a result changes neither an argument nor another result.
func TestToursOwnTheirMemory(t *testing.T) {
	for i, c := range bests {
		r := spareRound(c.round)
		for range 2 {
			best, _, _ := impl.BestRide(r)
			most, _, _ := impl.MostRide(r)
			order := slices.Clone(most)
			begins, end, ok := impl.Ride(r, order)
			if !slices.Equal(best, c.best) || !slices.Equal(most, c.most) || !ok || end != c.mostEnds || len(begins) != len(most) {
				t.Errorf("round %d: %v, %v, %v, %d, %v", i, best, most, begins, end, ok)
			}
			for _, list := range [][]int{best, most, begins} {
				for k := range list[:cap(list)] {
					list[:cap(list)][k] = -7
				}
			}
			if !isSpare(r, c.round) || !slices.Equal(order, c.most) {
				t.Errorf("a result shares memory with an argument: %+v, %v", r, order)
			}
		}
	}
}
