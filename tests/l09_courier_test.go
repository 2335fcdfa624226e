package tests

import (
	"fmt"
	"math"
	"math/rand"
	"slices"
	"testing"

	"loop.example/g03318/impl"
)

// distances are the legs of the network town; each is another number.
const distances = "0 12 23 34 / 11 1 45 56 / 22 44 2 67 / 33 55 66 3"

// rounds has commands to the network town, and the round of the courier then: its begin, legs, stops and sites.
var rounds = []struct {
	commands string
	begin    int
	legs     string
	stops    []string
	sites    []int
	tour     []int
}{
	// Nothing to do: parcels at the hub, in boxes that are not overdue, at doors, taken and back.
	{"", 0, "0", nil, nil, nil},
	{"announce 1 2 0; announce 1 2 1; tick 5", 5, "0", nil, nil, nil},
	{"announce 1 2 0; load 1; place 1", 0, "0", nil, nil, nil},
	{"announce 1 2 0; load 1; place 1; step 0 *6; tick 5", 5, "0", nil, nil, nil},
	{"announce 1 2 0; load 1; place 1; step 0 *6; extend 1 1; tick 11", 11, "0", nil, nil, nil},
	{"announce 1 2 0; load 1; place 1; step 0 *6; take 1 1 +0; step 0 *6; tick 50", 50, "0", nil, nil, nil},
	{"announce 1 2 0; load 1; place 1; step 0 *6; tick 6; fetch 1", 6, "0", nil, nil, nil},
	{"announce 1 2 0; load 1; place 1; step 0 *6; tick 6; fetch 1; step 0 *6", 6, "0", nil, nil, nil},
	{"tick 20000", 20000, "0", nil, nil, nil},
	// Something to bring, to one site or to several.
	{"announce 1 2 0; load 1", 0, "0 12 / 11 1", []string{"0-19999 w5 b2 f0"}, []int{0}, []int{0}},
	{"announce 1 2 2; load 1; tick 100", 100, "0 34 / 33 3", []string{"100-19999 w5 b2 f0"}, []int{2}, []int{2}},
	{"announce 1 2 2; announce 1 3 2; announce 1 1 2; announce 1 1 0; load 1; load 2; load 3", 0, "0 34 / 33 3", []string{"0-19999 w5 b6 f0"}, []int{2}, []int{2}},
	{"announce 1 2 2; announce 1 3 0; load 1; load 2", 0, "0 12 34 / 11 1 56 / 33 55 3", []string{"0-19999 w5 b3 f0", "0-19999 w5 b2 f0"}, []int{0, 2}, []int{2, 0}},
	// A site that opens later, is open, is open for the last hour, is shut until the next week, and opens just now.
	{"announce 1 2 1; load 1", 0, "0 23 / 22 2", []string{"8-17 w5 b2 f0"}, []int{1}, nil},
	{"announce 1 2 1; load 1; tick 8", 8, "0 23 / 22 2", []string{"8-17 w5 b2 f0"}, []int{1}, nil},
	{"announce 1 2 1; load 1; tick 10", 10, "0 23 / 22 2", []string{"10-17 w5 b2 f0"}, []int{1}, nil},
	{"announce 1 2 1; load 1; tick 17", 17, "0 23 / 22 2", []string{"17-17 w5 b2 f0"}, []int{1}, nil},
	{"announce 1 2 1; load 1; tick 18", 18, "0 23 / 22 2", []string{"176-185 w5 b2 f0"}, []int{1}, []int{1}},
	{"announce 1 2 1; load 1; tick 176", 176, "0 23 / 22 2", []string{"176-185 w5 b2 f0"}, []int{1}, nil},
	{"announce 1 2 1; load 1; tick 162", 162, "0 23 / 22 2", []string{"176-185 w5 b2 f0"}, []int{1}, []int{1}},
	// The last hour that there is.
	{"announce 1 2 0; load 1; tick 19999", 19999, "0 12 / 11 1", []string{"19999-19999 w5 b2 f0"}, []int{0}, nil},
	{"announce 1 2 1; load 1; tick 19833", 19833, "0 23 / 22 2", []string{"19833-19841 w5 b2 f0"}, []int{1}, nil},
	// Something to fetch, also from a box that is jammed, and something to bring and to fetch.
	{"announce 1 2 0; load 1; place 1; step 0 *6; tick 6", 6, "0 12 / 11 1", []string{"6-19999 w5 b0 f2"}, []int{0}, []int{0}},
	{"announce 1 2 0; load 1; place 1; step 0 *6; extend 1 1; tick 12", 12, "0 12 / 11 1", []string{"12-19999 w5 b0 f2"}, []int{0}, []int{0}},
	{"announce 1 2 0; load 1; place 1; step 0 *6; tick 6; jam 0 1 0", 6, "0 12 / 11 1", []string{"6-19999 w5 b0 f2"}, []int{0}, []int{0}},
	{"announce 1 2 0; announce 1 3 0; announce 1 4 0; load 1; load 2; load 3; place 1; step 0 *6; place 3; step 0 *6; tick 6", 6, "0 12 / 11 1", []string{"6-19999 w5 b3 f6"}, []int{0}, []int{0}},
	{"announce 1 2 0; announce 1 2 2; announce 1 3 2; load 1; load 2; place 1; step 0 *6; place 2; step 2 *6; load 3; tick 3; extend 1 1; tick 3", 6, "0 34 / 33 3", []string{"6-19999 w5 b3 f2"}, []int{2}, []int{2}},
	// A site that is busy with another parcel.
	{"announce 1 2 0; announce 1 3 0; announce 1 1 0; load 1; place 1; step 0 *6; load 2; load 3; tick 6; place 2", 6, "0 12 / 11 1", []string{"6-19999 w5 b1 f2"}, []int{0}, []int{0}},
	// All three sites.
	{"announce 1 2 0; announce 1 2 1; announce 1 2 2; load 1; load 2; load 3; tick 20; place 3; step 2 *6; tick 145", 165, distances, []string{"165-19999 w5 b2 f0", "176-185 w5 b2 f0", "165-19999 w5 b0 f2"}, []int{0, 1, 2}, []int{2, 0}},
}

func TestRoundFor(t *testing.T) {
	for _, c := range rounds {
		n := do(t, town(), c.commands)
		want := roundOf(c.begin, 12, c.legs, c.stops...)
		r, sites, ok := impl.RoundFor(n, legsOf(distances), 5)
		if !ok || fmt.Sprintf("%+v", r) != fmt.Sprintf("%+v", want) || !slices.Equal(sites, c.sites) {
			t.Errorf("the round after %s: %+v, %v, %v", c.commands, r, sites, ok)
		}
		if order, _, _ := impl.MostRide(want); len(order) != len(c.tour) {
			t.Errorf("the tour after %s has %d stops and not %d", c.commands, len(c.tour), len(order))
		}
		if tour, ok := impl.TourOf(n, legsOf(distances), 5); !ok || !slices.Equal(tour, c.tour) {
			t.Errorf("the tour after %s: %v, %v", c.commands, tour, ok)
		}
	}
}

func TestRoundForASiteThatIsNeverOpen(t *testing.T) {
	weeks := []impl.Week{weekOf("always"), weekOf("shut"), weekOf("never")}
	bank := splitBank(5)
	n, _ := impl.NewNetwork(termsOf(brief), 12, 1000, weeks, [][]impl.Column{bank, bank, bank})
	legs := sameLegs(4, 2)
	n = do(t, n, "announce 1 1 0; announce 1 1 1; announce 1 1 2; load 1")
	if _, sites, ok := impl.RoundFor(n, legs, 1); !ok || !slices.Equal(sites, []int{0}) {
		t.Error("the round for one site:", sites, ok)
	}
	checkNoTour(t, do(t, n, "load 2"), legs, 1)
	checkNoTour(t, do(t, n, "load 3"), legs, 1)
	// There is no hour after the last one, but nothing to do is possible then.
	checkNoTour(t, do(t, n, "tick 20000"), legs, 1)
	n = do(t, town(), "announce 1 2 1; load 1; tick 19841")
	if r, _, ok := impl.RoundFor(n, legs, 1); !ok || len(r.Stops) != 1 || r.Stops[0] != stopOf("19841-19841 w1 b2 f0") {
		t.Errorf("the round for the last open hour: %+v, %v", r, ok)
	}
	checkNoTour(t, do(t, n, "tick 1"), legs, 1)
}

// Holidays end the last hour up to which a site is open, and a site that is open all week is open across the weeks.
func TestWindowsOfRounds(t *testing.T) {
	for _, c := range []struct {
		week   impl.Week
		now    int
		window string
	}{
		{impl.Week{Open: []impl.Span{{From: 0, To: 168}}, Closed: []impl.Span{{From: 400, To: 410}}}, 0, "0-399"},
		{impl.Week{Open: []impl.Span{{From: 0, To: 168}}, Closed: []impl.Span{{From: 400, To: 410}}}, 399, "399-399"},
		{impl.Week{Open: []impl.Span{{From: 0, To: 168}}, Closed: []impl.Span{{From: 400, To: 410}}}, 400, "410-19999"},
		{impl.Week{Open: []impl.Span{{From: 0, To: 168}}, Closed: []impl.Span{{From: 19999, To: 20000}}}, 3, "3-19998"},
		{impl.Week{Open: []impl.Span{{From: 0, To: 8}, {From: 160, To: 168}}}, 5, "5-7"},
		{impl.Week{Open: []impl.Span{{From: 0, To: 8}, {From: 160, To: 168}}}, 8, "160-175"},
		{impl.Week{Open: []impl.Span{{From: 0, To: 8}, {From: 160, To: 168}}}, 170, "170-175"},
		{weekOf("holiday"), 0, "8-10"},
		{weekOf("holiday"), 11, "344-353"},
		{weekOf("holiday"), 343, "344-353"},
	} {
		n, _ := impl.NewNetwork(termsOf(brief), 12, 1000, []impl.Week{c.week}, [][]impl.Column{splitBank(5)})
		n = do(t, n, "announce 1 2 0; load 1")
		n.Now = c.now
		r, _, ok := impl.RoundFor(n, sameLegs(2, 0), 0)
		if !ok || len(r.Stops) != 1 || r.Stops[0] != stopOf(c.window+" w0 b2 f0") {
			t.Errorf("the round at %d for %+v: %+v, %v", c.now, c.week, r, ok)
		}
	}
}

func TestLegsOfRounds(t *testing.T) {
	idle := town()
	n := do(t, idle, "announce 1 2 0; announce 1 2 2; load 1; load 2")
	for _, one := range []impl.Network{idle, n} {
		for places := range 7 {
			if legs := sameLegs(places, 1); places != 4 {
				checkNoTour(t, one, legs, 1)
			} else if _, _, ok := impl.RoundFor(one, legs, 1); !ok {
				t.Errorf("no round for %d places", places)
			}
		}
		checkNoTour(t, one, nil, 1)
		checkNoTour(t, one, make([][]int, 4), 1)
		checkNoTour(t, one, make([][]int, 1000), 1)
		for place := range 4 {
			for _, list := range [][]int{nil, {1}, {1, 1, 1}, {1, 1, 1, 1, 1}} {
				legs := sameLegs(4, 1)
				legs[place] = list
				checkNoTour(t, one, legs, 1)
			}
		}
	}
	// A leg that is out of the range matters only between the hub and sites that have a stop.
	for _, leg := range []int{-1, 201, 202, 1 << 32, math.MinInt, math.MaxInt} {
		for from := range 4 {
			for to := range 4 {
				legs := sameLegs(4, 1)
				legs[from][to] = leg
				if from == 2 || to == 2 {
					r, sites, ok := impl.RoundFor(n, legs, 1)
					if !ok || !slices.Equal(sites, []int{0, 2}) || fmt.Sprint(r.Legs) != "[[1 1 1] [1 1 1] [1 1 1]]" {
						t.Errorf("the round for the leg %d from %d to %d: %+v, %v, %v", leg, from, to, r, sites, ok)
					}
				} else {
					checkNoTour(t, n, legs, 1)
				}
				if _, _, ok := impl.RoundFor(idle, legs, 1); ok != (from > 0 || to > 0) {
					t.Errorf("no stops with the leg %d from %d to %d: %v", leg, from, to, ok)
				}
			}
		}
	}
	// Work that is out of the range matters only if there are stops.
	for _, work := range []int{-1, 201, 202, 1 << 32, math.MinInt, math.MaxInt} {
		checkNoTour(t, n, sameLegs(4, 1), work)
		if tour, ok := impl.TourOf(idle, sameLegs(4, 1), work); len(tour) != 0 || !ok {
			t.Errorf("no stops with the work %d: %v, %v", work, tour, ok)
		}
	}
	for _, work := range []int{0, 1, 199, 200} {
		r, _, ok := impl.RoundFor(n, sameLegs(4, 200), work)
		if !ok || r.Stops[0].Work != work || r.Stops[1].Work != work || r.Legs[2][1] != 200 {
			t.Errorf("the round with the work %d: %+v, %v", work, r, ok)
		}
	}
}

// A tour to as many sites as possible, and the shortest of them.
func TestTourOf(t *testing.T) {
	n := do(t, town(), "announce 1 2 0; announce 1 2 1; announce 1 2 2; load 1; load 2; load 3")
	for _, c := range []struct {
		legs string
		work int
		tour []int
	}{
		{"0 1 1 1 / 1 0 1 1 / 1 1 0 1 / 1 1 1 0", 0, []int{0, 2, 1}},
		{"0 9 1 9 / 9 0 9 1 / 1 9 0 1 / 9 1 1 0", 1, []int{0, 2, 1}},
		{"0 9 1 9 / 1 0 9 1 / 1 9 0 1 / 9 1 1 0", 1, []int{1, 2, 0}},
		{"0 2 18 2 / 2 0 2 2 / 18 2 0 2 / 2 2 2 0", 2, []int{0, 1, 2}},
		{"0 2 18 2 / 2 0 2 2 / 18 2 0 2 / 2 2 2 0", 6, []int{0, 1, 2}},
		{"0 2 18 2 / 2 0 2 2 / 18 2 0 2 / 2 2 2 0", 16, []int{0, 2}},
		{"0 2 2 2 / 2 0 2 2 / 2 2 0 2 / 2 2 2 0", 2, []int{0, 2, 1}},
		{"0 200 18 200 / 200 0 2 200 / 18 2 0 2 / 200 200 2 0", 2, []int{0, 2}},
		{"0 200 17 2 / 200 0 2 200 / 18 2 0 2 / 2 200 2 0", 2, []int{2, 1, 0}},
	} {
		r, sites, ok := impl.RoundFor(n, legsOf(c.legs), c.work)
		order, _, _ := impl.MostRide(r)
		want := []int{}
		for _, stop := range order {
			want = append(want, sites[stop])
		}
		tour, possible := impl.TourOf(n, legsOf(c.legs), c.work)
		if !ok || !possible || !slices.Equal(tour, want) || !slices.Equal(tour, c.tour) {
			t.Errorf("the tour for %s and %d: %v, %v", c.legs, c.work, tour, possible)
		}
	}
	// The van is full when it has fetched, so that one site cannot be visited.
	n = do(t, town(), "announce 1 4 0; announce 1 12 2; announce 1 4 0; announce 1 4 0; load 1; place 1; step 0 *6; load 2; place 2; step 2 *6; load 3; load 4; tick 6")
	legs := sameLegs(4, 1)
	if tour, ok := impl.TourOf(n, legs, 1); !ok || !slices.Equal(tour, []int{0}) {
		t.Errorf("the tour with a van that is full: %v, %v", tour, ok)
	}
	// A tour leaves out sites that have no stop, and counts those that have one by their own numbers.
	n = do(t, town(), "announce 1 2 2; load 1")
	if tour, ok := impl.TourOf(n, legs, 1); !ok || !slices.Equal(tour, []int{2}) {
		t.Errorf("the tour to the last site: %v, %v", tour, ok)
	}
}

// roundBy returns the round of the courier by the rules of the document.
func roundBy(n impl.Network, legs [][]int, work int) (impl.Round, []int, bool) {
	r := impl.Round{Begin: n.Now, Room: n.Room}
	sites, places := []int{}, []int{0}
	if !soundBy(n) || len(legs) != len(n.Sites)+1 {
		return impl.Round{}, nil, false
	}
	for _, list := range legs {
		if len(list) != len(legs) {
			return impl.Round{}, nil, false
		}
	}
	for i, s := range n.Sites {
		stop := impl.Stop{Start: n.Now, Work: work}
		for _, p := range n.Parcels {
			deadline, ok := impl.DeadlineOf(s.Week, n.Terms, p.Since, p.Extended)
			if p.Site == i && p.Stage == impl.StVan {
				stop.Bring += p.Size
			}
			if p.Site == i && p.Stage == impl.StBox && ok && n.Now > deadline {
				stop.Fetch += p.Size
			}
		}
		if stop.Bring+stop.Fetch == 0 {
			continue
		}
		for stop.Start < 20000 && !impl.IsOpen(s.Week, stop.Start) {
			stop.Start++
		}
		if stop.Start == 20000 {
			return impl.Round{}, nil, false
		}
		for stop.End = stop.Start; impl.IsOpen(s.Week, stop.End+1); {
			stop.End++
		}
		r.Stops, sites, places = append(r.Stops, stop), append(sites, i), append(places, i+1)
	}
	for _, from := range places {
		list := []int{}
		for _, to := range places {
			list = append(list, legs[from][to])
		}
		r.Legs = append(r.Legs, list)
	}
	if !impl.RoundOk(r) {
		return impl.Round{}, nil, false
	}
	return r, sites, true
}

func TestRoundsOfManyNetworks(t *testing.T) {
	r := rand.New(rand.NewSource(96))
	seen := map[string]int{}
	for range 60 {
		n := someTown(r)
		for range 60 {
			for range 8 {
				n, _ = impl.Apply(n, someCommand(r, n))
			}
			one := n
			if r.Intn(3) == 0 {
				one = oddNetwork(r, n)
			}
			legs, work := [][]int{}, pick(r, 0, 1, 5, 200)
			places := len(one.Sites) + 1 + r.Intn(30)/29
			for range places {
				list := []int{}
				for range places {
					list = append(list, pick(r, 0, 1, 10, 200)+r.Intn(60)/59*1000)
				}
				legs = append(legs, list)
			}
			want, wantSites, possible := roundBy(one, legs, work)
			got, sites, ok := impl.RoundFor(one, legs, work)
			if ok != possible || fmt.Sprintf("%+v", got) != fmt.Sprintf("%+v", want) || !slices.Equal(sites, wantSites) {
				t.Fatalf("the round for %v and %d is %+v, %v, %v and not %+v, %v, %v\n%+v", legs, work, got, sites, ok, want, wantSites, possible, one)
			}
			order, _, _ := impl.MostRide(want)
			tour, ok := impl.TourOf(one, legs, work)
			if ok != possible || len(tour) != len(order) {
				t.Fatalf("the tour for %v and %d is %v, %v\n%+v", legs, work, tour, ok, one)
			}
			for i, stop := range order {
				if tour[i] != wantSites[stop] {
					t.Fatalf("the tour for %v and %d is %v, %v\n%+v", legs, work, tour, ok, one)
				}
			}
			seen[fmt.Sprint(possible, len(sites))]++
		}
	}
	for _, kind := range []string{"false 0", "true 0", "true 1", "true 2", "true 3"} {
		if seen[kind] < 20 {
			t.Error("too few rounds of a kind:", seen)
		}
	}
}
