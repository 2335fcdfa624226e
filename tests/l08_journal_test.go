package tests

import (
	"fmt"
	"math"
	"slices"
	"strconv"
	"strings"
	"testing"

	"loop.example/g03318/impl"
)

// eventWords has the words for the kinds of events, which are numbered from 1 on.
var eventWords = []string{"", "placed", "extended", "taken", "fetched"}

// event reads an event from a text such as FormatEvent writes; an extension may have A and B too.
func event(text string) impl.Event {
	e, fields := impl.Event{}, strings.Fields(text)
	if _, err := fmt.Sscanf(fields[0], "%d.%d@%d", &e.Node, &e.Seq, &e.Stamp); err != nil {
		panic("no event: " + text)
	}
	e.Kind = slices.Index(eventWords, fields[1])
	for i, number := range []*int{&e.Parcel, &e.A, &e.B} {
		if i+2 < len(fields) {
			n, err := strconv.Atoi(fields[i+2])
			if err != nil {
				panic("no event: " + text)
			}
			*number = n
		}
	}
	return e
}

// journal reads a list of events with commas between them.
func journal(text string) []impl.Event {
	list := []impl.Event{}
	for _, one := range strings.Split(text, ",") {
		if strings.TrimSpace(one) != "" {
			list = append(list, event(one))
		}
	}
	return list
}

// run returns the events of a node with the numbers from first on, so many, each with its number as its Stamp.
func run(node int, first int, n int) []impl.Event {
	list := []impl.Event{}
	for seq := first; seq < first+n; seq++ {
		list = append(list, impl.Event{Node: node, Seq: seq, Stamp: seq, Kind: impl.EvPlaced, Parcel: seq, A: node, B: seq})
	}
	return list
}

// farEvents returns the event with each of its fields out of the range, one at a time.
func farEvents(base impl.Event) []impl.Event {
	list := []impl.Event{}
	add := func(field func(e *impl.Event) *int, values ...int) {
		for _, n := range append(values, -1, -2, math.MinInt, math.MinInt+1, math.MaxInt, math.MaxInt-1, 1<<32+1, -1<<32) {
			e := base
			*field(&e) = n
			list = append(list, e)
		}
	}
	add(func(e *impl.Event) *int { return &e.Node }, 6, 7)
	add(func(e *impl.Event) *int { return &e.Seq }, 0, 1000, 1001)
	add(func(e *impl.Event) *int { return &e.Stamp }, 0, 100001, 100002)
	add(func(e *impl.Event) *int { return &e.Kind }, 0, 5, 6)
	add(func(e *impl.Event) *int { return &e.Parcel }, 0, 1000, 1001)
	add(func(e *impl.Event) *int { return &e.A }, 20001, 20002)
	add(func(e *impl.Event) *int { return &e.B }, 20001, 20002)
	return list
}

// badEvents returns events that are not valid, among them some with all fields out of the range.
func badEvents() []impl.Event {
	list := append(farEvents(event("2.3@40 taken 7 5 30")), farEvents(event("0.1@1 extended 1"))...)
	for _, n := range []int{0, -1, math.MinInt, math.MaxInt} {
		list = append(list, impl.Event{Node: n, Seq: n, Stamp: n, Kind: n, Parcel: n, A: n, B: n})
	}
	return list
}

// goodEvents returns valid events, with each field at the ends of its range.
func goodEvents() []impl.Event {
	list := journal("0.1@1 placed 1 0 0, 5.999@100000 fetched 999 20000 20000, 2.3@40 extended 7 20000 20000, 2.3@40 extended 7")
	for kind := 1; kind <= 4; kind++ {
		base := event("2.3@40 taken 7 5 30")
		base.Kind = kind
		add := func(field func(e *impl.Event) *int, values ...int) {
			for _, n := range values {
				e := base
				*field(&e) = n
				list = append(list, e)
			}
		}
		add(func(e *impl.Event) *int { return &e.Node }, 0, 1, 4, 5)
		add(func(e *impl.Event) *int { return &e.Seq }, 1, 2, 998, 999)
		add(func(e *impl.Event) *int { return &e.Stamp }, 1, 2, 99999, 100000)
		add(func(e *impl.Event) *int { return &e.Parcel }, 1, 2, 998, 999)
		add(func(e *impl.Event) *int { return &e.A }, 0, 1, 19999, 20000)
		add(func(e *impl.Event) *int { return &e.B }, 0, 1, 19999, 20000)
	}
	return list
}

// goodJournals returns valid lists.
func goodJournals() [][]impl.Event {
	lists := [][]impl.Event{nil, {}, run(0, 1, 60), run(5, 940, 60), run(3, 1, 59), slices.Concat(run(0, 1, 10), run(2, 5, 20), run(5, 970, 30))}
	for _, e := range goodEvents() {
		lists = append(lists, []impl.Event{e})
	}
	for _, text := range []string{
		"0.1@1 placed 7 0 5, 0.2@2 extended 7, 0.3@3 taken 7 9 8",
		// Gaps in Seq and in Stamp.
		"0.5@1 placed 7 0 5, 0.999@100000 taken 7 9 8",
		// Seq and Stamp begin anew with each node.
		"0.5@9 placed 7 0 5, 1.5@9 placed 7 0 5, 3.1@4 placed 7 0 5, 5.5@9 placed 7 0 5",
		"0.999@100000 placed 7 0 5, 1.1@1 placed 7 0 5, 1.2@100000 placed 7 0 5, 5.1@1 placed 7 0 5",
		// The events of a node need not agree with each other.
		"0.1@1 taken 7 9 8, 0.2@2 placed 7 0 5, 0.3@3 placed 7 0 5, 0.4@4 fetched 7 5 5",
	} {
		lists = append(lists, journal(text))
	}
	return lists
}

// badJournals returns lists that are not valid.
func badJournals() [][]impl.Event {
	lists := [][]impl.Event{}
	for _, e := range badEvents() {
		lists = append(lists, []impl.Event{e})
	}
	// A bad event at the front, inside and at the end.
	three := journal("1.4@10 placed 7 5 30, 2.3@40 taken 7 5 30, 3.1@20 placed 8 5 30")
	for i, good := range three {
		for _, e := range farEvents(good) {
			list := slices.Clone(three)
			list[i] = e
			lists = append(lists, list)
		}
	}
	last := run(2, 1, 60)
	last[59].B = 20001
	for _, text := range []string{
		// Nodes that descend.
		"1.1@1 placed 7 0 5, 0.2@2 placed 8 0 5",
		"0.1@1 placed 7 0 5, 5.1@1 placed 7 0 5, 4.2@2 placed 8 0 5",
		"1.1@1 placed 7 0 5, 2.1@1 placed 8 0 5, 1.2@2 placed 9 0 5",
		// The same event twice, the same number twice, and numbers that descend.
		"1.1@1 placed 7 0 5, 1.1@1 placed 7 0 5",
		"1.1@1 placed 7 0 5, 1.1@2 placed 7 0 5",
		"1.2@1 placed 7 0 5, 1.1@2 placed 8 0 5",
		"0.1@1 placed 7 0 5, 1.2@1 placed 7 0 5, 1.3@3 placed 7 0 5, 1.2@4 placed 8 0 5",
		// Seq ascends, but Stamp does not.
		"1.1@1 placed 7 0 5, 1.2@1 placed 8 0 5",
		"1.1@2 placed 7 0 5, 1.2@1 placed 8 0 5",
		"0.1@9 placed 7 0 5, 1.1@1 placed 7 0 5, 1.2@4 placed 7 0 5, 1.3@4 placed 8 0 5, 2.1@9 placed 7 0 5",
	} {
		lists = append(lists, journal(text))
	}
	return append(lists, last, run(0, 1, 61), run(0, 1, 62), run(5, 1, 900), slices.Concat(run(0, 1, 30), run(1, 1, 31)))
}

func TestConstantsOfChapter8(t *testing.T) {
	if impl.MaxNode != 5 || impl.MaxSeq != 999 || impl.MaxStamp != 100000 || impl.MaxEvents != 60 {
		t.Error("unexpected limits", impl.MaxNode, impl.MaxSeq, impl.MaxStamp, impl.MaxEvents)
	}
	if impl.EvPlaced != 1 || impl.EvExtended != 2 || impl.EvTaken != 3 || impl.EvFetched != 4 {
		t.Error("unexpected kinds", impl.EvPlaced, impl.EvExtended, impl.EvTaken, impl.EvFetched)
	}
	if impl.FtNone != 0 || impl.FtBox != 1 || impl.FtTaken != 2 || impl.FtFetched != 3 {
		t.Error("unexpected stages", impl.FtNone, impl.FtBox, impl.FtTaken, impl.FtFetched)
	}
}

func TestEventOk(t *testing.T) {
	for _, e := range goodEvents() {
		if !impl.EventOk(e) {
			t.Errorf("a valid event is rejected: %+v", e)
		}
	}
	for _, e := range badEvents() {
		if impl.EventOk(e) {
			t.Errorf("a bad event is accepted: %+v", e)
		}
	}
}

func TestJournalOk(t *testing.T) {
	for _, list := range goodJournals() {
		if !impl.JournalOk(list) {
			t.Errorf("a valid list is rejected: %+v", list)
		}
	}
	for _, list := range badJournals() {
		if impl.JournalOk(list) {
			t.Errorf("a bad list is accepted: %+v", list)
		}
	}
	for n := range 70 {
		if impl.JournalOk(run(4, 1, n)) != (n <= 60) {
			t.Error("unexpected validity of a list with so many events:", n)
		}
	}
}

// added has lists to which an event is added, and what comes of it; want is "" if it is refused.
var added = []struct {
	list, node, want string
}{
	// The first event of all, at each node.
	{"", "0 placed 7 2 5", "0.1@1 placed 7 2 5"},
	{"", "5 fetched 999 20000 20000", "5.1@1 fetched 999 20000 20000"},
	{"", "3 extended 1", "3.1@1 extended 1"},
	// Before, between and behind the events of other nodes.
	{"2.1@1 placed 7 0 5", "1 taken 7 9 8", "1.1@2 taken 7 9 8, 2.1@1 placed 7 0 5"},
	{"2.1@1 placed 7 0 5", "2 taken 7 9 8", "2.1@1 placed 7 0 5, 2.2@2 taken 7 9 8"},
	{"2.1@1 placed 7 0 5", "3 taken 7 9 8", "2.1@1 placed 7 0 5, 3.1@2 taken 7 9 8"},
	{"0.1@1 placed 7 0 5, 0.2@3 extended 7, 5.1@2 placed 8 0 5", "0 extended 8", "0.1@1 placed 7 0 5, 0.2@3 extended 7, 0.3@4 extended 8, 5.1@2 placed 8 0 5"},
	{"0.1@1 placed 7 0 5, 0.2@3 extended 7, 5.1@2 placed 8 0 5", "4 extended 8", "0.1@1 placed 7 0 5, 0.2@3 extended 7, 4.1@4 extended 8, 5.1@2 placed 8 0 5"},
	{"0.1@1 placed 7 0 5, 0.2@3 extended 7, 5.1@2 placed 8 0 5", "5 extended 8", "0.1@1 placed 7 0 5, 0.2@3 extended 7, 5.1@2 placed 8 0 5, 5.2@4 extended 8"},
	{"1.1@9 placed 7 0 5, 1.2@10 extended 7, 3.1@4 placed 8 0 5", "0 placed 9 1 6", "0.1@11 placed 9 1 6, 1.1@9 placed 7 0 5, 1.2@10 extended 7, 3.1@4 placed 8 0 5"},
	// The greatest Stamp of all counts, wherever it is, and the greatest Seq of the node alone.
	{"0.7@50 placed 7 0 5, 2.3@40 placed 8 0 5", "2 extended 8", "0.7@50 placed 7 0 5, 2.3@40 placed 8 0 5, 2.4@51 extended 8"},
	{"0.7@40 placed 7 0 5, 2.3@50 placed 8 0 5", "0 extended 8", "0.7@40 placed 7 0 5, 0.8@51 extended 8, 2.3@50 placed 8 0 5"},
	{"0.7@20 placed 7 0 5, 2.3@50 placed 8 0 5, 4.1@30 extended 8", "3 extended 8", "0.7@20 placed 7 0 5, 2.3@50 placed 8 0 5, 3.1@51 extended 8, 4.1@30 extended 8"},
	{"0.7@20 placed 7 0 5, 0.9@30 placed 8 0 5", "0 extended 8", "0.7@20 placed 7 0 5, 0.9@30 placed 8 0 5, 0.10@31 extended 8"},
	// The last Seq and the last Stamp.
	{"1.998@5 placed 7 0 5", "1 extended 7", "1.998@5 placed 7 0 5, 1.999@6 extended 7"},
	{"1.999@5 placed 7 0 5", "1 extended 7", ""},
	{"1.999@5 placed 7 0 5", "0 extended 7", "0.1@6 extended 7, 1.999@5 placed 7 0 5"},
	{"1.999@5 placed 7 0 5", "2 extended 7", "1.999@5 placed 7 0 5, 2.1@6 extended 7"},
	{"1.1@99999 placed 7 0 5", "1 extended 7", "1.1@99999 placed 7 0 5, 1.2@100000 extended 7"},
	{"1.1@100000 placed 7 0 5", "1 extended 7", ""},
	{"1.1@100000 placed 7 0 5", "0 extended 7", ""},
	{"1.1@100000 placed 7 0 5", "5 extended 7", ""},
	{"1.1@100000 placed 7 0 5, 3.1@1 placed 8 0 5", "3 extended 8", ""},
	// The fields of the new event at the ends of their ranges, and beyond them.
	{"1.1@1 placed 7 0 5", "5 taken 999 20000 0", "1.1@1 placed 7 0 5, 5.1@2 taken 999 20000 0"},
	{"1.1@1 placed 7 0 5", "0 taken 1 0 20000", "0.1@2 taken 1 0 20000, 1.1@1 placed 7 0 5"},
	{"1.1@1 placed 7 0 5", "1 extended 7 3 4", "1.1@1 placed 7 0 5, 1.2@2 extended 7 3 4"},
	{"1.1@1 placed 7 0 5", "6 taken 7 9 8", ""},
	{"1.1@1 placed 7 0 5", "-1 taken 7 9 8", ""},
	{"1.1@1 placed 7 0 5", "1 taken 0 9 8", ""},
	{"1.1@1 placed 7 0 5", "1 taken 1000 9 8", ""},
	{"1.1@1 placed 7 0 5", "1 taken 7 -1 8", ""},
	{"1.1@1 placed 7 0 5", "1 taken 7 20001 8", ""},
	{"1.1@1 placed 7 0 5", "1 taken 7 9 -1", ""},
	{"1.1@1 placed 7 0 5", "1 taken 7 9 20001", ""},
	// An event may clash with those before it.
	{"1.1@1 taken 7 9 8", "1 taken 7 9 8", "1.1@1 taken 7 9 8, 1.2@2 taken 7 9 8"},
}

func TestAddEvent(t *testing.T) {
	for _, c := range added {
		list := journal(c.list)
		node, rest, _ := strings.Cut(c.node, " ")
		e := event(node + ".1@1 " + rest)
		got, ok := impl.AddEvent(list, e.Node, e.Kind, e.Parcel, e.A, e.B)
		want := journal(c.want)
		if c.want == "" {
			want = list
		}
		if ok != (c.want != "") || !slices.Equal(got, want) {
			t.Errorf("%s added to %s: %v, %v", c.node, c.list, got, ok)
		}
		if !slices.Equal(list, journal(c.list)) {
			t.Error("AddEvent changes its list", c.list)
		}
	}
}

func TestAddEventToManyEvents(t *testing.T) {
	for node := range 6 {
		list := []impl.Event{}
		for n := range 62 {
			want := append(slices.Clone(list), impl.Event{Node: node, Seq: n + 1, Stamp: n + 1, Kind: impl.EvExtended, Parcel: 7, A: 3, B: 4})
			if n >= 60 {
				want = list
			}
			got, ok := impl.AddEvent(list, node, impl.EvExtended, 7, 3, 4)
			if ok != (n < 60) || !slices.Equal(got, want) {
				t.Errorf("an event added to %d: %v, %v", n, got, ok)
			}
			list = got
		}
		// There is room for one more in each place, but not for two.
		for other := range 6 {
			longer, ok := impl.AddEvent(run(node, 1, 59), other, impl.EvTaken, 1, 0, 0)
			if !ok || len(longer) != 60 || !impl.JournalOk(longer) {
				t.Error("an event of this node added to 59 of that one", other, node, longer, ok)
			}
			if got, ok := impl.AddEvent(longer, other, impl.EvTaken, 1, 0, 0); ok || !slices.Equal(got, longer) {
				t.Error("an event added to 60", got, ok)
			}
		}
	}
}

// Events added at several nodes, one after the other, each with the next Stamp.
func TestAddEventsAtManyNodes(t *testing.T) {
	list, counts := []impl.Event{}, [6]int{}
	for i := range 60 {
		node, kind := i*i/3%6, i%4+1
		counts[node]++
		longer, ok := impl.AddEvent(list, node, kind, i+1, i, 20000-i)
		want := impl.Event{Node: node, Seq: counts[node], Stamp: i + 1, Kind: kind, Parcel: i + 1, A: i, B: 20000 - i}
		at := 0
		for _, n := range counts[:node+1] {
			at += n
		}
		if !ok || !slices.Equal(longer, slices.Insert(slices.Clone(list), at-1, want)) || !impl.JournalOk(longer) {
			t.Fatalf("%+v added to %v: %v, %v", want, list, longer, ok)
		}
		list = longer
	}
}

func TestAddEventRejects(t *testing.T) {
	for _, list := range goodJournals() {
		for _, e := range badEvents() {
			e.Seq, e.Stamp = 1, 1
			if impl.EventOk(e) {
				continue
			}
			if got, ok := impl.AddEvent(list, e.Node, e.Kind, e.Parcel, e.A, e.B); ok || !slices.Equal(got, list) {
				t.Errorf("the bad event %+v added to %v: %v, %v", e, list, got, ok)
			}
		}
	}
}

func TestFormatEvent(t *testing.T) {
	for _, text := range []string{
		"2.1@4 taken 7 5 30",
		"0.1@1 placed 1 0 0",
		"5.999@100000 fetched 999 20000 20000",
		"3.10@200 fetched 30 0 4000",
		"1.100@20 extended 70",
		"0.1@1 extended 999",
		"1.2@3 placed 4 5 6",
	} {
		if got := impl.FormatEvent(event(text)); got != text {
			t.Errorf("the text of %s: %q", text, got)
		}
	}
	// Of an extension, A and B are not written.
	if got := impl.FormatEvent(event("1.100@20 extended 70 5 6")); got != "1.100@20 extended 70" {
		t.Errorf("the text of an extension: %q", got)
	}
	for _, e := range goodEvents() {
		got := impl.FormatEvent(e)
		if e.Kind == impl.EvExtended {
			e.A, e.B = 0, 0
		}
		if event(got) != e || got != strings.Join(strings.Fields(got), " ") {
			t.Errorf("the text of %+v: %q", e, got)
		}
	}
	for _, e := range badEvents() {
		if got := impl.FormatEvent(e); got != "" {
			t.Errorf("the text of the bad event %+v: %q", e, got)
		}
	}
}

func TestOrderOf(t *testing.T) {
	for _, c := range []struct {
		list string
		want []int
	}{
		{"", nil},
		{"5.9@9 placed 7 0 5", []int{0}},
		{"0.1@1 placed 7 0 5, 0.2@2 placed 8 0 5, 0.3@9 placed 9 0 5", []int{0, 1, 2}},
		{"0.1@3 placed 7 0 5, 1.1@2 placed 8 0 5, 2.1@1 placed 9 0 5", []int{2, 1, 0}},
		{"0.1@2 placed 7 0 5, 0.2@4 placed 8 0 5, 1.1@1 placed 9 0 5, 1.2@3 placed 9 0 5, 1.3@5 placed 9 0 5", []int{2, 0, 3, 1, 4}},
		// Seq does not matter.
		{"0.900@2 placed 7 0 5, 1.1@3 placed 8 0 5, 2.500@1 placed 9 0 5", []int{2, 0, 1}},
		// Of equal Stamps, the smaller node counts first.
		{"0.1@2 placed 7 0 5, 1.1@2 placed 8 0 5, 5.1@2 placed 9 0 5", []int{0, 1, 2}},
		{"0.9@2 placed 7 0 5, 1.5@1 placed 8 0 5, 1.6@2 placed 8 0 5, 5.1@1 placed 9 0 5, 5.2@2 placed 9 0 5", []int{1, 3, 0, 2, 4}},
		{"0.1@100000 placed 7 0 5, 1.1@1 placed 8 0 5, 1.2@100000 placed 8 0 5, 2.1@99999 placed 9 0 5", []int{1, 3, 0, 2}},
	} {
		if got := impl.OrderOf(journal(c.list)); !slices.Equal(got, c.want) {
			t.Errorf("the order of %s: %v", c.list, got)
		}
	}
	// All nodes with the same ten Stamps.
	list, want := []impl.Event{}, []int{}
	for node := range 6 {
		list = append(list, run(node, 3, 10)...)
	}
	for i := range 10 {
		for node := range 6 {
			want = append(want, node*10+i)
		}
	}
	if got := impl.OrderOf(list); !slices.Equal(got, want) {
		t.Error("the order of the same Stamps at all nodes", got)
	}
}

// fates has journals, and the fate of the parcel 7 by them.
var fates = []struct {
	list string
	want impl.Fate
}{
	{"", impl.Fate{}},
	{"0.1@1 placed 8 2 5, 0.2@2 taken 8 9 8", impl.Fate{}},
	{"0.1@1 placed 7 2 5", impl.Fate{Stage: 1, Site: 2, Since: 5}},
	{"0.1@1 placed 7 0 0", impl.Fate{Stage: 1}},
	{"3.999@100000 placed 7 20000 20000", impl.Fate{Stage: 1, Site: 20000, Since: 20000}},
	{"0.1@1 placed 7 2 5, 0.2@2 extended 7", impl.Fate{Stage: 1, Site: 2, Since: 5, Extended: 1}},
	{"0.1@1 placed 7 2 5, 0.2@2 extended 7 8 9, 0.3@3 extended 7 1 1, 1.1@4 extended 7", impl.Fate{Stage: 1, Site: 2, Since: 5, Extended: 3}},
	{"0.1@1 placed 7 2 5, 0.2@2 taken 7 9 8", impl.Fate{Stage: 2, Site: 2, Since: 5, Who: 9, End: 8}},
	{"0.1@1 placed 7 2 5, 0.2@2 extended 7, 0.3@3 taken 7 20000 20000", impl.Fate{Stage: 2, Site: 2, Since: 5, Extended: 1, Who: 20000, End: 20000}},
	{"0.1@1 placed 7 2 5, 0.2@2 fetched 7 0 8", impl.Fate{Stage: 3, Site: 2, Since: 5, End: 8}},
	// A of what is fetched does not matter, and neither do the times, which need not ascend.
	{"0.1@1 placed 7 2 5, 0.2@2 extended 7, 0.3@3 fetched 7 9 4", impl.Fate{Stage: 3, Site: 2, Since: 5, Extended: 1, End: 4}},
	// Events of other parcels change nothing.
	{"0.1@1 placed 7 2 5, 0.2@2 taken 8 9 8, 0.3@3 extended 7, 0.4@4 placed 70 1 1, 1.1@5 fetched 77 0 9", impl.Fate{Stage: 1, Site: 2, Since: 5, Extended: 1}},
	// The order is that of Stamp, and not that of the list.
	{"0.1@9 taken 7 9 8, 3.1@4 placed 7 2 5", impl.Fate{Stage: 2, Site: 2, Since: 5, Who: 9, End: 8}},
	{"0.1@3 taken 7 9 8, 3.1@4 placed 7 2 5", impl.Fate{Stage: 1, Site: 2, Since: 5, Clashes: 1}},
	{"0.1@3 extended 7, 1.1@2 taken 7 9 8, 2.1@1 placed 7 2 5", impl.Fate{Stage: 2, Site: 2, Since: 5, Who: 9, End: 8, Clashes: 1}},
	{"0.1@3 taken 7 9 8, 1.1@2 extended 7, 2.1@1 placed 7 2 5", impl.Fate{Stage: 2, Site: 2, Since: 5, Extended: 1, Who: 9, End: 8}},
	// Of equal Stamps, the smaller node counts first.
	{"0.1@1 placed 7 2 5, 1.1@2 taken 7 9 8, 2.1@2 fetched 7 0 6", impl.Fate{Stage: 2, Site: 2, Since: 5, Who: 9, End: 8, Clashes: 1}},
	{"0.1@1 placed 7 2 5, 1.1@2 fetched 7 0 6, 2.1@2 taken 7 9 8", impl.Fate{Stage: 3, Site: 2, Since: 5, End: 6, Clashes: 1}},
	{"0.1@1 placed 7 2 5, 1.9@2 taken 7 9 8, 2.1@2 taken 7 4 6", impl.Fate{Stage: 2, Site: 2, Since: 5, Who: 9, End: 8, Clashes: 1}},
	{"0.1@1 placed 7 2 5, 4.1@1 placed 7 3 6", impl.Fate{Stage: 1, Site: 2, Since: 5, Clashes: 1}},
	{"0.1@1 taken 7 9 8, 4.1@1 placed 7 3 6", impl.Fate{Stage: 1, Site: 3, Since: 6, Clashes: 1}},
	{"0.1@1 placed 7 3 6, 4.1@1 taken 7 9 8", impl.Fate{Stage: 2, Site: 3, Since: 6, Who: 9, End: 8}},
	// Clashes add up; what is placed once more is no way back.
	{"0.1@1 extended 7, 0.2@2 taken 7 9 8, 0.3@3 fetched 7 0 8", impl.Fate{Clashes: 3}},
	{"0.1@1 placed 7 2 5, 0.2@2 taken 7 9 8, 0.3@3 placed 7 1 9, 0.4@4 extended 7, 0.5@5 taken 7 4 10", impl.Fate{Stage: 2, Site: 2, Since: 5, Who: 9, End: 8, Clashes: 3}},
	{"0.1@1 fetched 7 0 1, 0.2@2 placed 7 2 5, 0.3@3 placed 7 1 6, 0.4@4 extended 7, 0.5@5 fetched 7 0 10, 0.6@6 fetched 7 0 11", impl.Fate{Stage: 3, Site: 2, Since: 5, Extended: 1, End: 10, Clashes: 3}},
}

func TestFateOf(t *testing.T) {
	for _, c := range fates {
		if got := impl.FateOf(journal(c.list), 7); got != c.want {
			t.Errorf("the fate by %s: %+v", c.list, got)
		}
	}
}

// In each stage, each kind of event goes on or clashes; a clash changes nothing but Clashes.
func TestEachKindInEachStage(t *testing.T) {
	before := []string{"", "0.1@1 placed 7 2 5, 0.2@2 extended 7", "0.1@1 placed 7 2 5, 0.2@2 taken 7 9 8", "0.1@1 placed 7 2 5, 0.2@2 fetched 7 3 8"}
	next := [4][5]int{{-1, 1, -1, -1, -1}, {-1, -1, 1, 2, 3}, {-1, -1, -1, -1, -1}, {-1, -1, -1, -1, -1}}
	for stage, text := range before {
		list := journal(text)
		fate := impl.FateOf(list, 7)
		if fate.Stage != stage || fate.Clashes != 0 {
			t.Errorf("the fate by %s: %+v", text, fate)
		}
		for kind := 1; kind <= 4; kind++ {
			longer, ok := impl.AddEvent(list, 1, kind, 7, 11, 12)
			got := impl.FateOf(longer, 7)
			if !ok || got == fate {
				t.Errorf("%s in stage %d does nothing", eventWords[kind], stage)
			}
			if next[stage][kind] < 0 {
				clash := fate
				clash.Clashes = 1
				if got != clash || impl.ClashesIn(longer) != 1 {
					t.Errorf("%s in stage %d is no clash: %+v", eventWords[kind], stage, got)
				}
			} else if got.Stage != next[stage][kind] || got.Clashes != 0 || impl.ClashesIn(longer) != 0 {
				t.Errorf("%s in stage %d: %+v", eventWords[kind], stage, got)
			}
		}
	}
}

func TestParcelsInAndTheirClashes(t *testing.T) {
	for _, c := range []struct {
		list    string
		want    []int
		clashes int
	}{
		{"", nil, 0},
		{"5.9@9 placed 999 0 5", []int{999}, 0},
		{"5.9@9 extended 1", []int{1}, 1},
		{"0.1@1 placed 9 0 5, 0.2@2 placed 8 0 5, 0.3@3 placed 7 0 5", []int{7, 8, 9}, 0},
		{"0.1@1 placed 7 0 5, 0.2@2 extended 7, 0.3@3 taken 7 9 8", []int{7}, 0},
		{"0.1@1 placed 999 0 5, 0.2@2 placed 1 0 5, 3.1@3 extended 999, 3.2@4 extended 1, 5.1@9 taken 500 9 8", []int{1, 500, 999}, 1},
		{"0.1@3 taken 7 9 8, 1.1@2 placed 7 0 5, 1.2@4 placed 7 0 5, 2.1@1 fetched 8 9 9, 2.2@5 fetched 7 9 9", []int{7, 8}, 3},
		{"0.1@1 placed 100 0 5, 0.2@2 placed 20 0 5, 0.3@3 placed 3 0 5, 0.4@4 placed 100 0 5, 0.5@5 placed 20 0 5", []int{3, 20, 100}, 2},
	} {
		list := journal(c.list)
		if got := impl.ParcelsIn(list); !slices.Equal(got, c.want) {
			t.Errorf("the parcels in %s: %v", c.list, got)
		}
		if got := impl.ClashesIn(list); got != c.clashes {
			t.Errorf("the clashes in %s: %d", c.list, got)
		}
		// A parcel of no event has no fate.
		for _, parcel := range append(farParcels(), 2, 6, 10, 501, 998) {
			if got := impl.FateOf(list, parcel); !slices.Contains(c.want, parcel) && got != (impl.Fate{}) {
				t.Errorf("the fate of %d by %s: %+v", parcel, c.list, got)
			}
		}
	}
	for n := range 61 {
		if got := impl.ParcelsIn(run(2, 100, n)); len(got) != n || n > 0 && (got[0] != 100 || got[n-1] != 99+n) {
			t.Error("the parcels in a list of so many events:", n, got)
		}
	}
}
