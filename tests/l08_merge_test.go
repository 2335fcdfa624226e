package tests

import (
	"math"
	"math/rand"
	"slices"
	"testing"

	"loop.example/g03318/impl"
)

// merges has pairs of lists, and what they are merged to; want is "no" if they cannot be merged.
var merges = []struct {
	a, b, want string
}{
	// Empty lists, the same list, and a part of one.
	{"", "", ""},
	{"1.1@1 placed 7 0 5", "", "1.1@1 placed 7 0 5"},
	{"0.1@1 placed 7 0 5, 1.1@1 placed 8 0 5", "0.1@1 placed 7 0 5, 1.1@1 placed 8 0 5", "0.1@1 placed 7 0 5, 1.1@1 placed 8 0 5"},
	{"0.1@1 placed 7 0 5, 0.2@2 taken 7 9 8, 3.1@4 placed 8 0 5", "0.2@2 taken 7 9 8", "0.1@1 placed 7 0 5, 0.2@2 taken 7 9 8, 3.1@4 placed 8 0 5"},
	{"0.1@1 placed 7 0 5, 0.2@2 taken 7 9 8, 3.1@4 placed 8 0 5", "0.1@1 placed 7 0 5, 3.1@4 placed 8 0 5", "0.1@1 placed 7 0 5, 0.2@2 taken 7 9 8, 3.1@4 placed 8 0 5"},
	// Events of different nodes, of which one is before, between or behind the other's.
	{"1.1@1 placed 7 0 5", "0.1@1 placed 7 0 5", "0.1@1 placed 7 0 5, 1.1@1 placed 7 0 5"},
	{"0.1@9 placed 7 0 5, 5.1@2 placed 8 0 5", "2.1@4 placed 9 0 5, 3.7@1 placed 9 0 5", "0.1@9 placed 7 0 5, 2.1@4 placed 9 0 5, 3.7@1 placed 9 0 5, 5.1@2 placed 8 0 5"},
	{"0.1@9 placed 7 0 5, 3.1@2 placed 8 0 5", "2.1@4 placed 9 0 5, 5.7@1 placed 9 0 5", "0.1@9 placed 7 0 5, 2.1@4 placed 9 0 5, 3.1@2 placed 8 0 5, 5.7@1 placed 9 0 5"},
	// What both have, and what one has: the same events of one node, and more of them.
	{"2.1@1 placed 7 0 5, 2.2@2 extended 7", "2.1@1 placed 7 0 5, 3.1@2 taken 7 9 8", "2.1@1 placed 7 0 5, 2.2@2 extended 7, 3.1@2 taken 7 9 8"},
	{"2.1@1 placed 7 0 5, 2.2@2 extended 7, 2.3@5 extended 7", "2.1@1 placed 7 0 5, 2.2@2 extended 7, 4.1@3 extended 7", "2.1@1 placed 7 0 5, 2.2@2 extended 7, 2.3@5 extended 7, 4.1@3 extended 7"},
	// Numbers of one node that both have in turn.
	{"2.1@1 placed 7 0 5, 2.3@5 extended 7", "2.2@3 placed 8 0 5, 2.4@7 extended 7", "2.1@1 placed 7 0 5, 2.2@3 placed 8 0 5, 2.3@5 extended 7, 2.4@7 extended 7"},
	{"2.3@5 extended 7", "2.2@3 placed 8 0 5", "2.2@3 placed 8 0 5, 2.3@5 extended 7"},
	{"2.9@9 extended 7", "2.10@10 placed 8 0 5", "2.9@9 extended 7, 2.10@10 placed 8 0 5"},
	// Equal Stamps at different nodes, and equal numbers there.
	{"0.1@2 placed 7 0 5, 5.1@2 placed 8 0 5", "1.1@2 placed 7 0 5, 4.1@2 placed 7 0 5", "0.1@2 placed 7 0 5, 1.1@2 placed 7 0 5, 4.1@2 placed 7 0 5, 5.1@2 placed 8 0 5"},
	// The merged list does not ascend in Stamp.
	{"2.1@5 placed 7 0 5", "2.2@4 placed 8 0 5", "no"},
	{"2.1@5 placed 7 0 5", "2.2@5 placed 8 0 5", "no"},
	{"2.1@5 placed 7 0 5", "2.2@6 placed 8 0 5", "2.1@5 placed 7 0 5, 2.2@6 placed 8 0 5"},
	{"2.1@1 placed 7 0 5, 2.3@9 extended 7", "2.2@1 placed 8 0 5", "no"},
	{"2.1@1 placed 7 0 5, 2.3@9 extended 7", "2.2@9 placed 8 0 5", "no"},
	{"2.1@1 placed 7 0 5, 2.3@9 extended 7", "2.2@10 placed 8 0 5", "no"},
	{"2.1@1 placed 7 0 5, 2.3@9 extended 7", "2.2@2 placed 8 0 5", "2.1@1 placed 7 0 5, 2.2@2 placed 8 0 5, 2.3@9 extended 7"},
	{"2.1@1 placed 7 0 5, 2.3@9 extended 7", "2.2@8 placed 8 0 5", "2.1@1 placed 7 0 5, 2.2@8 placed 8 0 5, 2.3@9 extended 7"},
	{"0.1@1 placed 7 0 5, 5.1@6 placed 8 0 5", "0.1@1 placed 7 0 5, 5.2@6 placed 8 0 5", "no"},
	// The same number with something else in one field.
	{"2.1@5 placed 7 3 5", "2.1@5 placed 7 3 5", "2.1@5 placed 7 3 5"},
	{"2.1@5 placed 7 3 5", "2.1@6 placed 7 3 5", "no"},
	{"2.1@5 placed 7 3 5", "2.1@5 taken 7 3 5", "no"},
	{"2.1@5 placed 7 3 5", "2.1@5 placed 8 3 5", "no"},
	{"2.1@5 placed 7 3 5", "2.1@5 placed 7 4 5", "no"},
	{"2.1@5 placed 7 3 5", "2.1@5 placed 7 3 6", "no"},
	{"2.1@5 extended 7", "2.1@5 extended 7 1", "no"},
	{"2.1@5 extended 7", "2.1@5 extended 7 0 1", "no"},
	// Such a number at the front, inside and at the end, and beside others.
	{"0.1@1 placed 7 0 5, 2.1@5 placed 7 3 5, 5.1@4 taken 7 9 8", "0.1@1 placed 7 0 6, 2.1@5 placed 7 3 5, 5.1@4 taken 7 9 8", "no"},
	{"0.1@1 placed 7 0 5, 2.1@5 placed 7 3 5, 5.1@4 taken 7 9 8", "0.1@1 placed 7 0 5, 2.1@5 placed 7 4 5, 5.1@4 taken 7 9 8", "no"},
	{"0.1@1 placed 7 0 5, 2.1@5 placed 7 3 5, 5.1@4 taken 7 9 8", "0.1@1 placed 7 0 5, 2.1@5 placed 7 3 5, 5.1@4 taken 7 9 9", "no"},
	{"0.1@1 placed 7 0 5, 2.1@5 placed 7 3 5, 5.1@4 taken 7 9 8", "1.1@1 placed 7 0 5, 2.1@6 placed 7 3 5, 3.1@4 taken 7 9 8", "no"},
	// The same event at another node, or with another number, is another event.
	{"2.1@5 placed 7 3 5", "3.1@5 placed 7 3 5", "2.1@5 placed 7 3 5, 3.1@5 placed 7 3 5"},
	{"2.1@5 placed 7 3 5", "2.2@5 placed 7 3 5", "no"},
	// Events that clash can be merged.
	{"0.1@1 placed 7 0 5, 1.1@2 taken 7 9 8", "0.1@1 placed 7 0 5, 2.1@2 taken 7 4 6", "0.1@1 placed 7 0 5, 1.1@2 taken 7 9 8, 2.1@2 taken 7 4 6"},
	// The last Seqs and Stamps.
	{"5.998@99999 placed 999 0 5", "5.999@100000 placed 999 20000 20000", "5.998@99999 placed 999 0 5, 5.999@100000 placed 999 20000 20000"},
}

// checkMerge checks what two lists are merged to, in both orders.
func checkMerge(t *testing.T, a []impl.Event, b []impl.Event, want []impl.Event, possible bool) {
	t.Helper()
	for range 2 {
		if got, ok := impl.MergeJournals(a, b); ok != possible || !slices.Equal(got, want) {
			t.Errorf("%v merged with %v: %v, %v", a, b, got, ok)
		}
		a, b = b, a
	}
}

func TestMergeJournals(t *testing.T) {
	for _, c := range merges {
		if c.want == "no" {
			checkMerge(t, journal(c.a), journal(c.b), nil, false)
		} else {
			checkMerge(t, journal(c.a), journal(c.b), journal(c.want), true)
		}
	}
	checkMerge(t, nil, nil, nil, true)
}

func TestMergeWithItselfAndWithParts(t *testing.T) {
	for _, list := range goodJournals() {
		checkMerge(t, list, list, list, true)
		checkMerge(t, list, nil, list, true)
		checkMerge(t, list, []impl.Event{}, list, true)
		for i := range list {
			checkMerge(t, list, list[i:], list, true)
			checkMerge(t, list, list[:i], list, true)
			checkMerge(t, list[:i], list[i:], list, true)
			checkMerge(t, slices.Concat(list[:i], list[i+1:]), list[i:i+1], list, true)
			checkMerge(t, slices.Concat(list[:i], list[i+1:]), list[i:], list, true)
		}
	}
}

// Whatever differs in an event that both have, the lists cannot be merged.
func TestMergeOfEventsThatDiffer(t *testing.T) {
	list := slices.Concat(run(0, 10, 3), run(2, 10, 3), run(5, 10, 3))
	for i := range list {
		for _, change := range []func(e *impl.Event){
			func(e *impl.Event) { e.Stamp++ },
			func(e *impl.Event) { e.Stamp-- },
			func(e *impl.Event) { e.Kind = impl.EvFetched },
			func(e *impl.Event) { e.Kind = impl.EvExtended },
			func(e *impl.Event) { e.Parcel++ },
			func(e *impl.Event) { e.A++ },
			func(e *impl.Event) { e.B-- },
		} {
			other := list[i]
			change(&other)
			checkMerge(t, list, []impl.Event{other}, nil, false)
			checkMerge(t, list[:i+1], []impl.Event{other}, nil, false)
			checkMerge(t, list[i:i+1], []impl.Event{other}, nil, false)
			// Events that the first list does not have stand before and behind it.
			among := slices.Concat(run(1, 1, 3), run(3, 1, 3), []impl.Event{other})
			slices.SortStableFunc(among, func(a impl.Event, b impl.Event) int { return a.Node - b.Node })
			checkMerge(t, list, among, nil, false)
		}
	}
}

func TestMergeOfManyEvents(t *testing.T) {
	for n := range 61 {
		for _, m := range []int{0, 1, 59 - n, 60 - n, 61 - n, 60} {
			if m < 0 || m > 60 {
				continue
			}
			a, b := run(1, 1, n), run(4, 940, m)
			if n+m <= 60 {
				checkMerge(t, a, b, slices.Concat(a, b), true)
			} else {
				checkMerge(t, a, b, nil, false)
			}
			// What both have counts once.
			checkMerge(t, run(3, 1, n), run(3, 1, m), run(3, 1, max(n, m)), true)
		}
	}
	// 60 events with 60 others, and with 60 of which one is another one.
	checkMerge(t, run(1, 1, 60), run(2, 1, 60), nil, false)
	checkMerge(t, run(1, 1, 60), run(1, 61, 60), nil, false)
	checkMerge(t, run(1, 1, 60), run(1, 2, 60), nil, false)
	checkMerge(t, run(1, 1, 59), run(1, 2, 59), run(1, 1, 60), true)
	checkMerge(t, run(1, 1, 59), run(1, 3, 59), nil, false)
	// Lists that differ cannot be merged, however many events there are.
	other := run(1, 1, 60)
	other[59].A++
	checkMerge(t, run(1, 1, 60), other, nil, false)
}

func TestKnownOf(t *testing.T) {
	for _, c := range []struct {
		list string
		want []int
	}{
		{"", []int{0, 0, 0, 0, 0, 0}},
		{"2.1@9 placed 7 0 5", []int{0, 0, 1, 0, 0, 0}},
		{"2.2@9 placed 7 0 5", []int{0, 0, 0, 0, 0, 0}},
		{"2.999@9 placed 7 0 5", []int{0, 0, 0, 0, 0, 0}},
		{"0.1@9 placed 7 0 5, 0.2@10 placed 7 0 5, 5.1@1 placed 7 0 5", []int{2, 0, 0, 0, 0, 1}},
		// A gap ends what is known of a node, and of this node alone.
		{"0.1@9 placed 7 0 5, 0.3@10 placed 7 0 5, 1.1@1 placed 7 0 5, 1.2@2 placed 7 0 5, 1.4@4 placed 7 0 5, 3.1@1 placed 7 0 5, 3.2@5 placed 7 0 5", []int{1, 2, 0, 2, 0, 0}},
		{"1.2@1 placed 7 0 5, 1.3@2 placed 7 0 5, 4.1@4 placed 7 0 5, 5.2@1 placed 7 0 5", []int{0, 0, 0, 0, 1, 0}},
		{"0.1@1 placed 7 0 5, 1.2@2 placed 7 0 5, 2.3@3 placed 7 0 5", []int{1, 0, 0, 0, 0, 0}},
	} {
		if got := impl.KnownOf(journal(c.list)); !slices.Equal(got, c.want) {
			t.Errorf("what is known in %s: %v", c.list, got)
		}
	}
	for n := range 61 {
		if got := impl.KnownOf(run(5, 1, n)); !slices.Equal(got, []int{0, 0, 0, 0, 0, n}) {
			t.Error("what is known in a list of so many events:", n, got)
		}
		if got := impl.KnownOf(slices.Concat(run(3, 1, n)[:n/2], run(4, 2, n/2))); !slices.Equal(got, []int{0, 0, 0, n / 2, 0, 0}) {
			t.Error("what is known in a list of half as many events:", n, got)
		}
	}
}

func TestDeltaFor(t *testing.T) {
	list := slices.Concat(run(0, 1, 3), run(1, 5, 2), run(4, 1, 2), run(5, 998, 2))
	for _, c := range []struct {
		known []int
		want  []impl.Event
	}{
		{[]int{0, 0, 0, 0, 0, 0}, list},
		{[]int{-1, -1, -1, -1, -1, -1}, list},
		{[]int{math.MinInt, math.MinInt, math.MinInt, math.MinInt, math.MinInt, math.MinInt}, list},
		{[]int{1, 0, 0, 0, 0, 0}, list[1:]},
		{[]int{3, 0, 0, 0, 0, 0}, list[3:]},
		{[]int{3, 4, 0, 0, 0, 0}, list[3:]},
		{[]int{3, 5, 0, 0, 0, 0}, list[4:]},
		{[]int{3, 6, 9, 9, 0, 0}, list[5:]},
		{[]int{3, 6, 0, 0, 2, 997}, list[7:]},
		{[]int{3, 6, 0, 0, 2, 998}, list[8:]},
		{[]int{3, 6, 0, 0, 2, 999}, nil},
		{[]int{0, 0, 0, 0, 0, 999}, list[:7]},
		{[]int{2, 5, 0, 0, 1, 998}, []impl.Event{list[2], list[4], list[6], list[8]}},
		{[]int{0, 0, 999, 999, 0, 0}, list},
		{[]int{1000, 1000, 1000, 1000, 1000, 1000}, nil},
		{[]int{math.MaxInt, math.MinInt, 0, 0, math.MaxInt, math.MinInt}, []impl.Event{list[3], list[4], list[7], list[8]}},
		// Too few or too many numbers.
		{nil, nil},
		{[]int{}, nil},
		{[]int{0}, nil},
		{[]int{0, 0, 0, 0, 0}, nil},
		{[]int{0, 0, 0, 0, 0, 0, 0}, nil},
		{make([]int, 60), nil},
	} {
		if got := impl.DeltaFor(list, c.known); !slices.Equal(got, c.want) {
			t.Errorf("the events for %v: %v", c.known, got)
		}
		if got := impl.DeltaFor(nil, c.known); len(got) != 0 {
			t.Errorf("the events of none for %v: %v", c.known, got)
		}
	}
	for _, list := range goodJournals() {
		if got := impl.DeltaFor(list, make([]int, 6)); !slices.Equal(got, list) {
			t.Error("the events for somebody who knows none", got)
		}
	}
}

// checkNoJournal checks that all functions return what they do for a list that is not valid.
func checkNoJournal(t *testing.T, list []impl.Event) {
	t.Helper()
	before := slices.Clone(list)
	for node := -1; node <= 6; node++ {
		if got, ok := impl.AddEvent(list, node, impl.EvPlaced, 7, 0, 5); ok || !slices.Equal(got, list) {
			t.Errorf("an event added to a bad list %v: %v, %v", list, got, ok)
		}
	}
	for _, other := range [][]impl.Event{nil, {}, journal("2.3@40 taken 7 5 30"), journal("5.1@1 placed 8 0 5"), run(1, 1, 60), list} {
		checkMerge(t, list, other, nil, false)
	}
	if got := impl.KnownOf(list); len(got) != 0 {
		t.Errorf("what is known in a bad list %v: %v", list, got)
	}
	for _, known := range [][]int{nil, make([]int, 6), {-1, -1, -1, -1, -1, -1}, make([]int, 7)} {
		if got := impl.DeltaFor(list, known); len(got) != 0 {
			t.Errorf("the events of a bad list %v for %v: %v", list, known, got)
		}
	}
	if got := impl.OrderOf(list); len(got) != 0 {
		t.Errorf("the order of a bad list %v: %v", list, got)
	}
	for _, parcel := range []int{7, 8, 1, 0, 999, 1000, math.MaxInt} {
		if got := impl.FateOf(list, parcel); got != (impl.Fate{}) {
			t.Errorf("the fate of %d by a bad list %v: %+v", parcel, list, got)
		}
	}
	if got := impl.ParcelsIn(list); len(got) != 0 {
		t.Errorf("the parcels in a bad list %v: %v", list, got)
	}
	if got := impl.ClashesIn(list); got != 0 {
		t.Errorf("the clashes in a bad list %v: %d", list, got)
	}
	if !slices.Equal(list, before) {
		t.Errorf("a bad list is changed: %v", before)
	}
}

func TestBadJournals(t *testing.T) {
	for _, list := range badJournals() {
		checkNoJournal(t, list)
	}
	// A bad event is found wherever it stands, though nothing else may be wrong.
	for i := range 60 {
		list := run(3, 1, 60)
		list[i].A = 20001
		checkNoJournal(t, list)
		list = run(3, 1, 60)
		list[i].Kind = 0
		checkNoJournal(t, list)
	}
	// A list that begins like a valid one with an event of the same number.
	checkMerge(t, journal("0.1@1 placed 7 0 5"), journal("0.1@1 placed 7 0 5, 0.1@1 placed 7 0 5"), nil, false)
	checkMerge(t, journal("0.1@1 placed 7 0 5"), journal("1.1@1 placed 7 0 5, 0.1@1 placed 7 0 5"), nil, false)
}

// validBy reports whether a list is valid, by comparing each event with all others.
func validBy(list []impl.Event) bool {
	within := func(n int, low int, high int) bool { return low <= n && n <= high }
	for i, e := range list {
		if !within(e.Node, 0, 5) || !within(e.Seq, 1, 999) || !within(e.Stamp, 1, 100000) || !within(e.Kind, 1, 4) ||
			!within(e.Parcel, 1, 999) || !within(e.A, 0, 20000) || !within(e.B, 0, 20000) {
			return false
		}
		for _, later := range list[i+1:] {
			if later.Node < e.Node || later.Node == e.Node && (later.Seq <= e.Seq || later.Stamp <= e.Stamp) {
				return false
			}
		}
	}
	return len(list) <= 60
}

// mergedBy merges two valid lists by asking for each node and number whether they have it.
func mergedBy(a []impl.Event, b []impl.Event) ([]impl.Event, bool) {
	merged := []impl.Event{}
	for node := range 6 {
		for seq := 1; seq <= 999; seq++ {
			is := func(e impl.Event) bool { return e.Node == node && e.Seq == seq }
			i, k := slices.IndexFunc(a, is), slices.IndexFunc(b, is)
			switch {
			case i >= 0 && k >= 0 && a[i] != b[k]:
				return nil, false
			case i >= 0:
				merged = append(merged, a[i])
			case k >= 0:
				merged = append(merged, b[k])
			}
		}
	}
	if !validBy(merged) {
		return nil, false
	}
	return merged, true
}

// orderBy returns the indices of the events, each at the place that tells how many events are before it.
func orderBy(list []impl.Event) []int {
	order := make([]int, len(list))
	for i, e := range list {
		place := 0
		for _, other := range list {
			if other.Stamp < e.Stamp || other.Stamp == e.Stamp && other.Node < e.Node {
				place++
			}
		}
		order[place] = i
	}
	return order
}

// fateBy returns the fate of a parcel: all before it was first placed are clashes, and so are all behind its end.
func fateBy(list []impl.Event, parcel int) impl.Fate {
	events := []impl.Event{}
	for _, i := range orderBy(list) {
		if list[i].Parcel == parcel {
			events = append(events, list[i])
		}
	}
	first := slices.IndexFunc(events, func(e impl.Event) bool { return e.Kind == impl.EvPlaced })
	if first < 0 {
		return impl.Fate{Clashes: len(events)}
	}
	fate := impl.Fate{Stage: impl.FtBox, Site: events[first].A, Since: events[first].B, Clashes: first}
	rest := events[first+1:]
	end := slices.IndexFunc(rest, func(e impl.Event) bool { return e.Kind == impl.EvTaken || e.Kind == impl.EvFetched })
	if end >= 0 {
		fate.Stage, fate.End = rest[end].Kind-1, rest[end].B
		if rest[end].Kind == impl.EvTaken {
			fate.Who = rest[end].A
		}
		fate.Clashes += len(rest) - end - 1
		rest = rest[:end]
	}
	for _, e := range rest {
		if e.Kind == impl.EvExtended {
			fate.Extended++
		} else {
			fate.Clashes++
		}
	}
	return fate
}

// someHistory returns what the journals of six nodes may be after so many steps, in which they write events and hear of each other.
// No number is missing in them.
func someHistory(r *rand.Rand, steps int) [][]impl.Event {
	journals := make([][]impl.Event, 6)
	for range steps {
		node := r.Intn(6)
		if r.Intn(3) == 0 {
			if merged, ok := impl.MergeJournals(journals[node], journals[r.Intn(6)]); ok {
				journals[node] = merged
			}
		} else if longer, ok := impl.AddEvent(journals[node], node, 1+r.Intn(4), 1+r.Intn(4), r.Intn(41), r.Intn(100)); ok {
			journals[node] = longer
		}
	}
	return journals
}

// someLists returns lists of events of which some agree with each other: the parts of a history, with gaps, and with changes in some of them.
func someLists(r *rand.Rand) [][]impl.Event {
	lists := someHistory(r, r.Intn(50))
	for i, list := range lists {
		if r.Intn(2) == 0 {
			lists[i] = slices.DeleteFunc(slices.Clone(list), func(impl.Event) bool { return r.Intn(4) == 0 })
		}
		if len(lists[i]) > 0 && r.Intn(4) == 0 {
			changed := slices.Clone(lists[i])
			e := &changed[r.Intn(len(changed))]
			field := pick(r, 0, 1, 2, 3)
			*[]*int{&e.Stamp, &e.Kind, &e.Parcel, &e.B}[field] += pick(r, -1, 1)
			lists[i] = changed
		}
	}
	return lists
}

func TestJournalsOfManyLists(t *testing.T) {
	r := rand.New(rand.NewSource(8))
	for range 400 {
		for _, list := range someLists(r) {
			valid := validBy(list)
			if impl.JournalOk(list) != valid {
				t.Fatalf("JournalOk of %v is not %v", list, valid)
			}
			if !valid {
				checkNoJournal(t, list)
				continue
			}
			if got, want := impl.OrderOf(list), orderBy(list); !slices.Equal(got, want) {
				t.Fatalf("the order of %v: %v instead of %v", list, got, want)
			}
			clashes := 0
			for parcel := range 6 {
				got, want := impl.FateOf(list, parcel), fateBy(list, parcel)
				if got != want {
					t.Fatalf("the fate of %d by %v: %+v instead of %+v", parcel, list, got, want)
				}
				clashes += want.Clashes
				is := func(e impl.Event) bool { return e.Parcel == parcel }
				if slices.Contains(impl.ParcelsIn(list), parcel) != slices.ContainsFunc(list, is) {
					t.Fatalf("%d in the parcels in %v: %v", parcel, list, impl.ParcelsIn(list))
				}
			}
			if got := impl.ClashesIn(list); got != clashes {
				t.Fatalf("the clashes in %v: %d instead of %d", list, got, clashes)
			}
			for node, n := range impl.KnownOf(list) {
				for seq := 1; seq <= n+1; seq++ {
					is := func(e impl.Event) bool { return e.Node == node && e.Seq == seq }
					if slices.ContainsFunc(list, is) != (seq <= n) {
						t.Fatalf("%d is known of %d in %v", n, node, list)
					}
				}
			}
		}
	}
}

// chain merges lists one after the other.
func chain(lists ...[]impl.Event) ([]impl.Event, bool) {
	all, ok := []impl.Event{}, true
	for _, list := range lists {
		if all, ok = impl.MergeJournals(all, list); !ok {
			return nil, false
		}
	}
	return all, true
}

// Merging is commutative, associative and idempotent.
func TestMergesOfManyLists(t *testing.T) {
	r := rand.New(rand.NewSource(88))
	possible := 0
	for range 400 {
		lists := someLists(r)
		a, b, c := lists[r.Intn(6)], lists[r.Intn(6)], lists[r.Intn(6)]
		if !validBy(a) || !validBy(b) || !validBy(c) {
			continue
		}
		want, ok := mergedBy(a, b)
		checkMerge(t, a, b, want, ok)
		checkMerge(t, a, a, a, true)
		if ok {
			checkMerge(t, want, a, want, true)
			checkMerge(t, want, b, want, true)
		}
		// If all three can be merged in one way, they can be in all ways, to the same list.
		all, ok := chain(a, b, c)
		for _, other := range [][][]impl.Event{{b, c, a}, {c, a, b}, {c, b, a}, {a, c, b}, {b, a, c}, {a, b, c, b, a}} {
			if got, can := chain(other...); can != ok || !slices.Equal(got, all) {
				t.Fatalf("%v merged: %v, %v instead of %v, %v", other, got, can, all, ok)
			}
		}
		later, can := chain(b, c)
		if can {
			later, can = impl.MergeJournals(a, later)
		}
		if can != ok || !slices.Equal(later, all) {
			t.Fatalf("%v merged with what %v and %v are merged to: %v, %v instead of %v, %v", a, b, c, later, can, all, ok)
		}
		if ok {
			possible++
		}
	}
	if possible < 100 {
		t.Error("only so many can be merged:", possible)
	}
}

// What the other side does not know, sent both ways, brings both to the same journal.
func TestDeltasBringBothToTheSame(t *testing.T) {
	r := rand.New(rand.NewSource(888))
	for range 400 {
		lists := someHistory(r, r.Intn(60))
		for range 6 {
			a, b := lists[r.Intn(6)], lists[r.Intn(6)]
			want, ok := mergedBy(a, b)
			toB, toA := impl.DeltaFor(a, impl.KnownOf(b)), impl.DeltaFor(b, impl.KnownOf(a))
			atB, okB := impl.MergeJournals(b, toB)
			atA, okA := impl.MergeJournals(a, toA)
			if okA != ok || okB != ok || !slices.Equal(atA, want) || !slices.Equal(atB, want) {
				t.Fatalf("%v and %v become %v, %v and %v, %v instead of %v, %v", a, b, atA, okA, atB, okB, want, ok)
			}
			// No number is missing, so nothing is sent that the other side has.
			if len(toB)+len(b) != len(toA)+len(a) || ok && len(toB)+len(b) != len(want) {
				t.Fatalf("too much is sent: %v to %v and %v to %v", toB, b, toA, a)
			}
		}
	}
}

// Behind a gap, all is sent again, which does no harm.
func TestDeltasBesideGaps(t *testing.T) {
	a := slices.Concat(run(0, 1, 5), run(3, 1, 4))
	for missing := range a {
		b := slices.Concat(a[:missing], a[missing+1:])
		node, seq := a[missing].Node, a[missing].Seq
		want := slices.DeleteFunc(slices.Clone(a), func(e impl.Event) bool { return e.Node != node || e.Seq < seq })
		got := impl.DeltaFor(a, impl.KnownOf(b))
		if !slices.Equal(got, want) {
			t.Errorf("without %v, so much is sent: %v", a[missing], got)
		}
		checkMerge(t, b, got, a, true)
	}
}

// Whatever becomes of a result, the lists of which it was made and the spare capacity behind them stay as they are.
func TestJournalsOwnTheirMemory(t *testing.T) {
	behind := event("5.999@100000 fetched 999 1 2")
	lists := append(badJournals(), goodJournals()...)
	for _, given := range lists {
		room := append(slices.Clone(given), behind, behind, behind)
		list := room[:len(given)]
		numbers := []int{0, 0, 0, 0, 0, 0, 77, 77}
		known := numbers[:6]
		results := [][]impl.Event{impl.DeltaFor(list, known)}
		for node := -1; node <= 6; node++ {
			longer, _ := impl.AddEvent(list, node, impl.EvTaken, 7, 9, 8)
			results = append(results, longer)
		}
		for _, other := range [][]impl.Event{nil, run(0, 900, 2), list} {
			ab, _ := impl.MergeJournals(list, other)
			ba, _ := impl.MergeJournals(other, list)
			results = append(results, ab, ba)
		}
		for _, result := range results {
			for i := range result {
				result[i].Node = 99
			}
			_ = append(result, impl.Event{Node: 88})
		}
		for _, result := range [][]int{impl.KnownOf(list), impl.OrderOf(list), impl.ParcelsIn(list)} {
			for i := range result {
				result[i] = 99
			}
			_ = append(result, 88)
		}
		impl.FateOf(list, 7)
		impl.ClashesIn(list)
		if !slices.Equal(list, given) || !slices.Equal(room[len(given):], []impl.Event{behind, behind, behind}) {
			t.Error("a list of events is changed", given, room)
		}
		if !slices.Equal(numbers, []int{0, 0, 0, 0, 0, 0, 77, 77}) {
			t.Error("the known numbers are changed", numbers)
		}
	}
}

// The same call gives the same result each time.
func TestMergesAreTheSameEachTime(t *testing.T) {
	a, b := slices.Concat(run(0, 1, 9), run(2, 2, 9), run(5, 3, 9)), slices.Concat(run(1, 1, 9), run(2, 4, 12), run(4, 1, 9))
	want, ok := mergedBy(a, b)
	for range 50 {
		checkMerge(t, a, b, want, ok)
	}
	if !ok || len(want) != 50 {
		t.Error("unexpected merged list", len(want), ok)
	}
}
