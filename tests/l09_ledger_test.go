package tests

import (
	"fmt"
	"math/rand"
	"reflect"
	"slices"
	"testing"

	"loop.example/g03318/impl"
)

// writing returns the commands after which just one more writes an event, and this command: for each kind that can write one.
var writing = [][2]string{
	{"place 1; step 0 *5", "step 0"},
	{"place 1; step 0 *4; cut 0", "recover 0 0 0"},
	{"place 1; step 0 *3; cut 0", "inspect 0"},
	{"place 1; step 0 *6", "extend 1 1"},
	{"place 1; step 0 *6; take 1 1 +0; step 0 *5", "step 0"},
	{"place 1; step 0 *6; take 1 1 +0; step 0 *4; cut 0", "recover 0 1 2"},
	{"place 1; step 0 *6; take 1 1 +0; step 0 *3; cut 0", "inspect 0"},
	{"place 1; step 0 *6; tick 6; fetch 1; step 0 *5", "step 0"},
	{"place 1; step 0 *6; tick 6; fetch 1; step 0 *5; cut 0", "recover 0 4 1"},
	{"place 1; step 0 *6; tick 6; fetch 1; step 0 *5; cut 0", "inspect 0"},
}

// silent has commands, and one more that ends an operation, or goes on with it, but writes no event.
var silent = [][2]string{
	{"place 1; step 0 *2; relent 0; step 0", "step 0"},
	{"place 1; step 0; cut 0", "recover 0 0 0"},
	{"place 1; step 0 *2; cut 0", "inspect 0"},
	{"place 1; step 0 *4", "step 0"},
	{"place 1; step 0 *6; take 1 1 +0; step 0; relent 0; step 0", "step 0"},
	{"place 1; step 0 *6; take 1 1 +0; step 0; cut 0", "recover 0 0 0"},
	{"place 1; step 0 *6; take 1 1 +0; cut 0", "inspect 0"},
	{"place 1; step 0 *6; tick 6; fetch 1; cut 0", "inspect 0"},
}

// journals has lists of events for the hub and the three sites, and whether the site 0 can write one more beside them.
var journals = []struct {
	hub, first, second, third []impl.Event
	room                      bool
}{
	{nil, nil, nil, nil, true},
	// All have 57 to 60 events together: at the hub, at the site itself, at others, and at all of them.
	{run(5, 1, 57), nil, nil, nil, true},
	{run(5, 1, 60), nil, nil, nil, false},
	{nil, nil, nil, run(5, 1, 57), true},
	{nil, nil, nil, run(5, 1, 60), false},
	{nil, run(5, 1, 57), nil, nil, true},
	{run(5, 1, 20), run(4, 1, 20), run(3, 1, 10), run(2, 1, 7), true},
	{run(5, 1, 20), run(4, 1, 20), run(3, 1, 10), run(2, 1, 10), false},
	// What several have counts once.
	{run(5, 1, 57), nil, run(5, 1, 57), run(5, 1, 57), true},
	{run(5, 1, 57), nil, run(5, 30, 10), run(5, 10, 30), true},
	{run(5, 1, 60), nil, run(5, 1, 60), run(5, 1, 60), false},
	// Too many together, so that they cannot be merged.
	{run(5, 1, 60), nil, run(4, 1, 1), nil, false},
	{run(5, 1, 60), nil, run(4, 1, 60), run(3, 1, 60), false},
	// Events that contradict each other, or whose Stamps do not ascend together.
	{journal("3.1@1 placed 7 0 5"), nil, journal("3.1@1 placed 8 0 5"), nil, false},
	{nil, nil, journal("3.1@1 placed 7 0 5"), journal("3.1@2 placed 7 0 5"), false},
	{nil, nil, journal("3.1@4 placed 7 0 5"), journal("3.2@4 placed 7 0 5"), false},
	{nil, nil, journal("3.1@4 placed 7 0 5"), journal("3.2@5 placed 7 0 5"), true},
	// The last Stamp that there is.
	{nil, journal("5.1@99997 placed 7 0 5"), nil, nil, true},
	{nil, journal("5.1@100000 placed 7 0 5"), nil, nil, false},
	{journal("5.1@100000 placed 7 0 5"), nil, nil, nil, true},
}

// withJournals returns a network whose parts know more events, which come behind those that they have.
func withJournals(n impl.Network, hub []impl.Event, sites ...[]impl.Event) impl.Network {
	n = cloneNetwork(n)
	n.Journal = slices.Concat(n.Journal, hub)
	for i, list := range sites {
		n.Sites[i].Journal = slices.Concat(n.Sites[i].Journal, list)
	}
	return n
}

func TestEventsThatCannotBeWritten(t *testing.T) {
	base := do(t, town(), "announce 1 2 0; load 1")
	for _, c := range journals {
		for _, one := range writing {
			n := withJournals(do(t, base, one[0]), c.hub, c.first, c.second, c.third)
			code := impl.NtOk
			if !c.room {
				code = impl.NtFull
			}
			checkRuled(t, n, commandFor(n, one[1]))
			checkCodes(t, n, map[string]int{one[1]: code})
		}
		for _, one := range silent {
			n := withJournals(do(t, base, one[0]), c.hub, c.first, c.second, c.third)
			checkRuled(t, n, commandFor(n, one[1]))
			checkCodes(t, n, map[string]int{one[1]: impl.NtOk})
		}
	}
}

// The last event that has a place, and the first one that has none.
func TestTheLastEvent(t *testing.T) {
	for _, one := range writing {
		n := do(t, town(), "announce 1 2 0; load 1; "+one[0])
		events := len(n.Sites[0].Journal)
		for more := 56; more <= 60; more++ {
			for _, list := range [][][]impl.Event{{run(5, 1, more), nil}, {nil, run(5, 1, more)}, {run(5, 1, more), run(5, 1, more)}, {run(4, 1, 30), run(5, 1, more-30)}} {
				full := withJournals(n, list[0], nil, list[1])
				code := impl.NtOk
				if events+more >= 60 {
					code = impl.NtFull
				}
				checkCodes(t, full, map[string]int{one[1]: code})
				after, _ := impl.Apply(full, commandFor(full, one[1]))
				if all, ok := impl.AllJournals(after); events+more <= 60 && (!ok || len(all) != min(60, events+more+1)) {
					t.Errorf("%s with %d events leads to %d, %v", one[1], events+more, len(all), ok)
				}
			}
		}
		// The last number of the node.
		if events == 0 {
			for seq, code := range map[int]int{997: impl.NtOk, 998: impl.NtOk, 999: impl.NtFull} {
				full := withJournals(n, nil, []impl.Event{{Node: 0, Seq: seq, Stamp: 1, Kind: 2, Parcel: 7}})
				checkCodes(t, full, map[string]int{one[1]: code})
			}
		}
	}
}

func TestSync(t *testing.T) {
	for _, c := range []struct {
		hub, site, want string
	}{
		{"", "", ""},
		{"3.1@1 placed 7 0 5", "", "3.1@1 placed 7 0 5"},
		{"", "3.1@1 placed 7 0 5", "3.1@1 placed 7 0 5"},
		{"3.1@1 placed 7 0 5", "3.1@1 placed 7 0 5", "3.1@1 placed 7 0 5"},
		{"3.1@1 placed 7 0 5, 3.3@3 extended 7", "3.2@2 placed 8 0 5, 5.1@1 placed 9 0 5", "3.1@1 placed 7 0 5, 3.2@2 placed 8 0 5, 3.3@3 extended 7, 5.1@1 placed 9 0 5"},
		{"3.1@1 placed 7 0 5", "3.1@1 placed 7 0 6", "no"},
		{"3.1@2 placed 7 0 5", "3.2@2 placed 8 0 5", "no"},
	} {
		for site := range 3 {
			n := town()
			n.Journal, n.Sites[site].Journal = journal(c.hub), journal(c.site)
			other := &n.Sites[(site+1)%3]
			other.Journal = journal("4.1@1 placed 7 0 5")
			if c.want == "no" {
				checkCodes(t, n, map[string]int{fmt.Sprintf("sync %d", site): impl.NtFull})
				continue
			}
			want := cloneNetwork(n)
			want.Journal, want.Sites[site].Journal = journal(c.want), journal(c.want)
			after, code := impl.Apply(n, impl.Command{Kind: impl.CmSync, A: site, B: -1, C: -1})
			if code != impl.NtOk || !sameNetwork(after, want) {
				t.Errorf("the site %d with %s: %d, %+v", site, c.hub, code, after)
			}
		}
	}
	// Lists that are too long together, and just not too long.
	n := withJournals(town(), run(5, 1, 30), run(4, 1, 30), run(4, 1, 31))
	checkCodes(t, n, map[string]int{"sync 0": impl.NtOk, "sync 1": impl.NtFull, "sync 2": impl.NtOk})
}

// In whatever order sites are synchronized, each twice in turn, in the end all know what all journals together tell.
func TestSyncInAnyOrder(t *testing.T) {
	r := rand.New(rand.NewSource(94))
	for range 40 {
		n := someTown(r)
		for range 150 {
			n, _ = impl.Apply(n, someCommand(r, n))
		}
		all, ok := impl.AllJournals(n)
		if want, _ := allBy(&n); !ok || !slices.Equal(all, want) {
			t.Fatalf("the journals are %v and not %v", all, want)
		}
		for _, order := range ordersBy(len(n.Sites)) {
			if len(order) < len(n.Sites) {
				continue
			}
			after := n
			for _, site := range slices.Concat(order, order) {
				after = do(t, after, fmt.Sprintf("sync %d", site))
			}
			for _, s := range append(slices.Clone(after.Sites), impl.Site{Journal: after.Journal}) {
				if !slices.Equal(s.Journal, all) {
					t.Fatalf("after the order %v one knows %v, and all know %v", order, s.Journal, all)
				}
			}
			for parcel := range after.Parcels {
				if got, want := impl.SeenFate(after, parcel+1), fateBy(all, parcel+1); got != want {
					t.Fatalf("the fate that is seen of %d is %+v and not %+v", parcel+1, got, want)
				}
			}
		}
	}
}

func TestAllJournals(t *testing.T) {
	for _, c := range journals {
		n := withJournals(town(), c.hub, c.first, c.second, c.third)
		want, possible := allBy(&n)
		got, ok := impl.AllJournals(n)
		if ok != possible || ok && !slices.Equal(got, want) || !ok && len(got) > 0 {
			t.Errorf("the journals of %v, %v, %v, %v: %v, %v", c.hub, c.first, c.second, c.third, got, ok)
		}
	}
	n := withJournals(town(), journal("1.1@1 placed 7 0 5, 4.2@9 extended 7"), journal("0.1@1 placed 8 0 5"), journal("1.2@4 extended 7"), journal("0.2@2 extended 8, 1.1@1 placed 7 0 5"))
	want := journal("0.1@1 placed 8 0 5, 0.2@2 extended 8, 1.1@1 placed 7 0 5, 1.2@4 extended 7, 4.2@9 extended 7")
	if got, ok := impl.AllJournals(n); !ok || !slices.Equal(got, want) {
		t.Errorf("all journals: %v, %v", got, ok)
	}
	if got, ok := impl.AllJournals(town()); !ok || len(got) != 0 {
		t.Errorf("the journals of a new network: %v, %v", got, ok)
	}
	// Of the crowd, the hub knows all but what the site 1 wrote.
	crowded := crowd(t)
	want = journal(`0.1@1 placed 1 0 0, 1.1@1 placed 3 1 8, 2.1@1 placed 8 2 0, 2.2@2 placed 7 2 0, 2.3@3 placed 9 2 0, 2.4@4 placed 6 2 0,
		2.5@5 extended 6, 2.6@6 fetched 8 0 6, 2.7@7 taken 7 7 6`)
	if got, ok := impl.AllJournals(crowded); !ok || !slices.Equal(got, want) {
		t.Errorf("the journals of the crowd: %v, %v", got, ok)
	}
	if !slices.Equal(crowded.Journal, want[2:]) {
		t.Errorf("what the hub knows: %v", crowded.Journal)
	}
}

func TestSeenFate(t *testing.T) {
	n := crowd(t)
	for parcel, want := range map[int]impl.Fate{
		1: {}, 2: {}, 3: {}, 4: {}, 5: {}, 10: {}, 0: {}, -1: {}, 12: {}, 999: {}, 1000: {},
		6: {Stage: 1, Site: 2, Extended: 1},
		7: {Stage: 2, Site: 2, Who: 7, End: 6},
		8: {Stage: 3, Site: 2, End: 6},
		9: {Stage: 1, Site: 2},
	} {
		if got := impl.SeenFate(n, parcel); got != want {
			t.Errorf("the fate of %d: %+v", parcel, got)
		}
	}
	n = do(t, n, "sync 1")
	if got := impl.SeenFate(n, 3); got != (impl.Fate{Stage: 1, Site: 1, Since: 8}) {
		t.Errorf("the fate of 3: %+v", got)
	}
	n = do(t, n, "sync 0; step 1 *3")
	if got := impl.SeenFate(n, 3); got != (impl.Fate{Stage: 1, Site: 1, Since: 8}) {
		t.Errorf("the fate of 3 before the hub hears of it: %+v", got)
	}
	n = do(t, n, "sync 1")
	if got := impl.SeenFate(n, 3); got != (impl.Fate{Stage: 2, Site: 1, Since: 8, Who: 9, End: 8}) {
		t.Errorf("the fate of 3: %+v", got)
	}
	if got := impl.SeenFate(n, 1); got != (impl.Fate{Stage: 1}) {
		t.Errorf("the fate of 1: %+v", got)
	}
	// Clashes, and parcels that there are not.
	n = withJournals(town(), journal("3.1@1 placed 7 0 5, 3.2@2 placed 7 0 6, 3.3@3 fetched 999 0 6"))
	if impl.SeenFate(n, 7) != (impl.Fate{Stage: 1, Since: 5, Clashes: 1}) || impl.SeenFate(n, 999) != (impl.Fate{Clashes: 1}) || impl.SeenFate(n, 8) != (impl.Fate{}) {
		t.Error("unexpected fates:", impl.SeenFate(n, 7), impl.SeenFate(n, 999), impl.SeenFate(n, 8))
	}
}

// ledgerBy reports whether the ledger of a network is right, by asking for all that the document says.
func ledgerBy(n impl.Network) bool {
	if !soundBy(n) {
		return false
	}
	all, ok := allBy(&n)
	for _, e := range all {
		ok = ok && e.Parcel <= len(n.Parcels)
	}
	for i, p := range n.Parcels {
		fate, s := fateBy(all, i+1), n.Sites[p.Site]
		want := impl.Fate{Site: p.Site, Since: p.Since, Extended: p.Extended, Stage: impl.FtBox}
		switch {
		case p.Stage < impl.StDoor || p.Stage == impl.StDoor && s.Door.Kind == impl.KindPut:
			want = impl.Fate{}
		case p.Stage == impl.StTaken:
			want.Stage, want.Who, want.End = impl.FtTaken, p.Who, fate.End
			ok = ok && p.Fee == impl.FeeOf(s.Week, n.Terms, p.Size, p.Since, fate.End, p.Extended)
		case p.Stage == impl.StBack:
			want.Stage, want.End = impl.FtFetched, fate.End
		}
		ok = ok && fate == want
	}
	return ok
}

// wrongLedgers are changes after which a network of crowd is valid still, but its ledger is wrong.
func wrongLedgers() []change {
	hubEvent := func(number int, set func(e *impl.Event)) change {
		return func(n *impl.Network) {
			for _, list := range [][]impl.Event{n.Journal, n.Sites[2].Journal} {
				set(&list[number-1])
			}
		}
	}
	add := func(text string) change {
		return func(n *impl.Network) { n.Journal = slices.Concat(n.Journal, journal(text)) }
	}
	list := slices.Concat(
		setEach(func(n *impl.Network) *int { return &n.Parcels[0].Since }, 1, 8),
		setEach(func(n *impl.Network) *int { return &n.Parcels[2].Since }, 0, 7),
		setEach(func(n *impl.Network) *int { return &n.Parcels[8].Since }, 1),
		setEach(func(n *impl.Network) *int { return &n.Parcels[5].Extended }, 0, 2),
		setEach(func(n *impl.Network) *int { return &n.Parcels[0].Extended }, 1, 2),
		setEach(func(n *impl.Network) *int { return &n.Parcels[7].Extended }, 1),
		setEach(func(n *impl.Network) *int { return &n.Parcels[7].Since }, 1),
		setEach(func(n *impl.Network) *int { return &n.Parcels[7].Site }, 0, 1),
		setEach(func(n *impl.Network) *int { return &n.Parcels[6].Site }, 0, 1),
		setEach(func(n *impl.Network) *int { return &n.Parcels[6].Since }, 1),
		setEach(func(n *impl.Network) *int { return &n.Parcels[6].Extended }, 1),
		setEach(func(n *impl.Network) *int { return &n.Parcels[6].Who }, 1, 6, 8, 40),
		setEach(func(n *impl.Network) *int { return &n.Parcels[6].Fee }, 0, 4, 6, 104),
		setEach(func(n *impl.Network) *int { return &n.Parcels[6].Size }, 2, 24),
		setEach(func(n *impl.Network) *int { return &n.Terms.Rate }, 4, 6),
		setEach(func(n *impl.Network) *int { return &n.Terms.Free }, 0, 6),
		setEach(func(n *impl.Network) *int { return &n.Terms.Step }, 1),
		setEach(func(n *impl.Network) *int { return &n.Terms.Cap }, 4),
	)
	// Events that tell too much: of parcels that are not there, that were not placed, or whose end was told already.
	for _, text := range []string{
		"5.1@1 placed 10 0 0", "5.1@1 extended 999", "5.1@9 placed 4 2 0", "5.1@9 extended 4", "5.1@9 placed 5 2 0", "5.1@9 fetched 5 0 0", "5.1@9 placed 2 0 8", "5.1@9 taken 2 2 8",
		"5.1@9 placed 1 0 0", "5.1@9 extended 1", "5.1@9 taken 1 1 8", "5.1@9 fetched 1 0 8", "5.1@9 taken 3 9 8", "5.1@9 extended 3", "5.1@9 fetched 9 0 8", "5.1@9 extended 7", "5.1@9 taken 7 7 6", "5.1@9 fetched 8 0 6",
		"4.1@1 extended 8",
	} {
		list = append(list, add(text))
	}
	return append(list,
		func(n *impl.Network) { n.Parcels[6].Stage, n.Parcels[6].Who, n.Parcels[6].Fee = impl.StBack, 0, 0 },
		func(n *impl.Network) { n.Parcels[7].Stage, n.Parcels[7].Who = impl.StTaken, 1 },
		func(n *impl.Network) { n.Parcels[7].Stage, n.Parcels[7].Who, n.Parcels[7].Fee = impl.StTaken, 1, 5 },
		func(n *impl.Network) { n.Sites[2].Week = weekOf("never") },
		func(n *impl.Network) { n.Sites[2].Week = weekOf("holiday") },
		// What a site wrote is known nowhere.
		func(n *impl.Network) { n.Sites[0].Journal = nil },
		func(n *impl.Network) { n.Sites[1].Journal = nil },
		func(n *impl.Network) { n.Sites[2].Journal, n.Journal = nil, nil },
		func(n *impl.Network) { n.Sites[2].Journal, n.Journal = n.Sites[2].Journal[:6], nil },
		func(n *impl.Network) { n.Sites[2].Journal, n.Journal = n.Sites[2].Journal[1:], nil },
		// Journals that cannot be merged.
		func(n *impl.Network) { n.Journal[1].B++ },
		func(n *impl.Network) {
			n.Sites[0].Journal = slices.Concat(n.Sites[0].Journal, n.Sites[2].Journal[:1], journal("2.2@3 extended 7"))
		},
		func(n *impl.Network) { n.Sites[1].Journal = slices.Concat(n.Sites[1].Journal, run(5, 1, 52)) },
		// Events that tell something else.
		hubEvent(1, func(e *impl.Event) { e.A = 1 }),
		hubEvent(1, func(e *impl.Event) { e.B = 1 }),
		hubEvent(1, func(e *impl.Event) { e.Kind = impl.EvExtended }),
		hubEvent(1, func(e *impl.Event) { e.Parcel = 4 }),
		hubEvent(5, func(e *impl.Event) { e.Parcel = 7 }),
		hubEvent(6, func(e *impl.Event) { e.Kind = impl.EvTaken }),
		hubEvent(7, func(e *impl.Event) { e.Kind = impl.EvFetched }),
		hubEvent(7, func(e *impl.Event) { e.A = 8 }),
		hubEvent(7, func(e *impl.Event) { e.B = 4 }),
		hubEvent(7, func(e *impl.Event) { e.B = 8 }),
		func(n *impl.Network) { n.Sites[1].Journal[0].A = 0 },
		func(n *impl.Network) { n.Sites[1].Journal[0].B = 7 },
	)
}

// rightLedgers are changes after which a network of crowd is valid still, and its ledger is right.
func rightLedgers() []change {
	return slices.Concat(
		setEach(func(n *impl.Network) *int { return &n.Parcels[0].Lock.Next }, 7),
		setEach(func(n *impl.Network) *int { return &n.Parcels[6].Owner }, 1, 40),
		setEach(func(n *impl.Network) *int { return &n.Parcels[7].Size }, 24),
		setEach(func(n *impl.Network) *int { return &n.Parcels[3].Site }, 0, 1),
		setEach(func(n *impl.Network) *int { return &n.Sites[1].Who }, 0, 1),
		setEach(func(n *impl.Network) *int { return &n.Now }, 9, 20000),
		setEach(func(n *impl.Network) *int { return &n.Terms.Keep }, 1, 2000),
		setEach(func(n *impl.Network) *int { return &n.Terms.Cap }, 5),
		setEach(func(n *impl.Network) *int { return &n.Terms.Free }, 3, 5),
		setEach(func(n *impl.Network) *int { return &n.Sites[2].Journal[5].B }, 6),
		[]change{
			func(n *impl.Network) {},
			func(n *impl.Network) { n.Journal = nil },
			func(n *impl.Network) { n.Sites[2].Journal = nil },
			func(n *impl.Network) { n.Sites[2].Journal, n.Journal = n.Sites[2].Journal[:4], n.Journal[2:] },
			func(n *impl.Network) {
				n.Sites[0].Journal, n.Sites[2].Journal, n.Journal = slices.Concat(n.Sites[0].Journal, n.Journal), nil, nil
			},
			// The hours in which it was fetched, and its end, do not matter.
			func(n *impl.Network) { n.Journal[5].B, n.Sites[2].Journal[5].B = 7, 7 },
			func(n *impl.Network) { n.Journal[5].A, n.Sites[2].Journal[5].A = 3, 3 },
			// Another time at which as much is to be paid.
			func(n *impl.Network) { n.Journal[6].B, n.Sites[2].Journal[6].B = 7, 7 },
			func(n *impl.Network) { n.Journal[6].B, n.Sites[2].Journal[6].B = 5, 5 },
			func(n *impl.Network) { n.Parcels = append(n.Parcels, slices.Repeat(n.Parcels[3:4], 3)...) },
		},
	)
}

func TestLedgerOk(t *testing.T) {
	for i, n := range []impl.Network{town(), calm(t), crowd(t)} {
		if !impl.LedgerOk(n) {
			t.Errorf("the ledger of the network %d is wrong: %+v", i, n)
		}
	}
	for i, one := range wrongLedgers() {
		n := cloneNetwork(crowd(t))
		one(&n)
		if !impl.NetworkOk(n) {
			t.Errorf("the network %d with a wrong ledger is not valid: %+v", i, n)
		}
		if impl.LedgerOk(n) || ledgerBy(n) {
			t.Errorf("the ledger %d is right: %+v", i, n)
		}
	}
	for i, one := range rightLedgers() {
		n := cloneNetwork(crowd(t))
		one(&n)
		if !impl.LedgerOk(n) || !ledgerBy(n) {
			t.Errorf("the ledger %d is wrong: %+v", i, n)
		}
	}
}

// The ledger of a network in which something was changed is right just if all holds that the document says, each time it is asked.
func TestLedgersOfManyNetworks(t *testing.T) {
	r := rand.New(rand.NewSource(95))
	right := map[bool]int{}
	for range 40 {
		n := someTown(r)
		for range 80 {
			for range 2 {
				n, _ = impl.Apply(n, someCommand(r, n))
			}
			for _, odd := range []impl.Network{cloneNetwork(n), oddNetwork(r, n)} {
				disturb(r, &odd)
				want := ledgerBy(odd)
				for range 2 {
					if got := impl.LedgerOk(odd); got != want {
						t.Fatalf("LedgerOk is %v for %+v", got, odd)
					}
				}
				if soundBy(odd) {
					right[want]++
					if sum := feesBySum(odd); impl.FeesOf(odd) != sum {
						t.Fatalf("the fees are %d and not %d for %+v", impl.FeesOf(odd), sum, odd)
					}
				}
			}
		}
	}
	if right[true] < 500 || right[false] < 500 {
		t.Error("too few ledgers of one kind:", right)
	}
}

func feesBySum(n impl.Network) int {
	sum := 0
	for _, p := range n.Parcels {
		sum += p.Fee
	}
	return sum
}

// A memory is the memory of a slice, with its spare capacity.
type memory struct{ from, to uintptr }

// memoriesOf returns the memories of all slices in a value, at any depth.
func memoriesOf(v reflect.Value) []memory {
	list := []memory{}
	switch v.Kind() {
	case reflect.Struct:
		for i := range v.NumField() {
			list = append(list, memoriesOf(v.Field(i))...)
		}
	case reflect.Slice:
		if v.Cap() > 0 {
			list = append(list, memory{v.Pointer(), v.Pointer() + uintptr(v.Cap())*v.Type().Elem().Size()})
		}
		for i := range v.Len() {
			list = append(list, memoriesOf(v.Index(i))...)
		}
	}
	return list
}

// spread returns a text that tells all of a value, with the spare capacity of its slices.
func spread(v reflect.Value) string {
	switch v.Kind() {
	case reflect.Struct:
		text := ""
		for i := range v.NumField() {
			text += spread(v.Field(i)) + " "
		}
		return text
	case reflect.Slice:
		text := fmt.Sprint(v.Len(), ":")
		for i := range v.Cap() {
			text += spread(v.Slice(0, v.Cap()).Index(i)) + ","
		}
		return text
	}
	return fmt.Sprint(v.Interface())
}

// roomy gives all slices in a value spare capacity, in which there are numbers that are not 0.
func roomy(v reflect.Value) {
	switch v.Kind() {
	case reflect.Struct:
		for i := range v.NumField() {
			roomy(v.Field(i))
		}
	case reflect.Slice:
		longer := reflect.MakeSlice(v.Type(), v.Len()+2, v.Len()+2)
		reflect.Copy(longer, v)
		for i := range longer.Len() {
			if i < v.Len() {
				roomy(longer.Index(i))
			} else {
				for _, number := range numbersOf(longer.Index(i)) {
					if number.Kind() == reflect.Int {
						number.SetInt(77)
					}
				}
			}
		}
		v.Set(longer.Slice(0, v.Len()))
	}
}

// checkApart checks that no two slices in results share memory, nor one of them with one in an argument.
func checkApart(t *testing.T, name string, results []any, arguments ...any) {
	t.Helper()
	own, others := []memory{}, []memory{}
	for _, one := range results {
		own = append(own, memoriesOf(reflect.ValueOf(one))...)
	}
	for _, one := range arguments {
		others = append(others, memoriesOf(reflect.ValueOf(one))...)
	}
	for i, a := range own {
		for _, b := range append(slices.Clone(own[i+1:]), others...) {
			if a.from < b.to && b.from < a.to {
				t.Errorf("%s shares memory", name)
				return
			}
		}
	}
}

// No function changes its arguments or what is behind them, and no result shares memory.
func TestNetworksOwnTheirMemory(t *testing.T) {
	texts := []string{
		"announce 1 1 0", "announce 0 1 0", "load 4", "load 1", "place 5", "place 1", "take 1 1 +0", "take 1 1 x", "take 1 9 x", "fetch 9", "fetch 1", "step 0", "step 1", "step 2", "relent 1", "cut 1",
		"hand 2 1", "recover 2 0 0", "inspect 2", "inspect 0", "extend 1 1", "extend 6 6", "grant 1>2 #0 d0 0-9", "grant 1>1 #0 d0 0-9", "revoke 0", "revoke 1", "tick 1", "tick 0", "sync 0", "sync 1", "sync 2", "sync 3",
		"jam 2 0 5", "jam 1 0 0", "jam 9 0 0",
	}
	bad := crowd(t)
	bad.Room = -1
	odd := withJournals(crowd(t), journal("3.1@1 placed 7 0 5"), journal("3.1@1 placed 8 0 5"))
	for _, n := range []impl.Network{town(), calm(t), crowd(t), do(t, calm(t), "tick 4; sync 0; sync 1; sync 2"), bad, odd, {}} {
		roomy(reflect.ValueOf(&n).Elem())
		list, legs := []impl.Command{}, sameLegs(4, 3)
		roomy(reflect.ValueOf(&legs).Elem())
		before, far := spread(reflect.ValueOf(n)), spread(reflect.ValueOf(legs))
		for _, text := range texts {
			c := impl.Command{}
			if c = command(text); c.Kind == impl.CmTake && len(n.Parcels) > 0 {
				c = commandFor(n, text)
			}
			list = append(list, c)
			after, _ := impl.Apply(n, c)
			checkApart(t, text, []any{after}, n)
		}
		roomy(reflect.ValueOf(&list).Elem())
		after, codes := impl.RunNetwork(n, list)
		checkApart(t, "a list of commands", []any{after, codes}, n, list)
		after, codes = impl.RunNetwork(n, nil)
		checkApart(t, "no commands", []any{after, codes}, n)
		all, _ := impl.AllJournals(n)
		checkApart(t, "AllJournals", []any{all}, n)
		round, sites, _ := impl.RoundFor(n, legs, 1)
		tour, _ := impl.TourOf(n, legs, 1)
		checkApart(t, "RoundFor", []any{round, sites, tour}, n, legs)
		terms, weeks, banks := n.Terms, []impl.Week{}, [][]impl.Column{}
		for _, s := range n.Sites {
			weeks, banks = append(weeks, s.Week), append(banks, s.Bank)
		}
		made, _ := impl.NewNetwork(terms, 10, 5, weeks, banks)
		checkApart(t, "NewNetwork", []any{made}, weeks, banks)
		impl.NetworkOk(n)
		impl.LedgerOk(n)
		impl.FeesOf(n)
		for parcel := range 13 {
			impl.SecretOf(n, parcel)
			impl.SeenFate(n, parcel)
			impl.WhereIs(n, parcel)
		}
		if got := spread(reflect.ValueOf(n)); got != before {
			t.Errorf("a network is changed\n%s\n%s", before, got)
		}
		if got := spread(reflect.ValueOf(legs)); got != far {
			t.Errorf("the legs are changed\n%s\n%s", far, got)
		}
	}
}
