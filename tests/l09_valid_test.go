package tests

import (
	"math"
	"slices"
	"testing"

	"loop.example/g03318/impl"
)

// calm returns a network like that of crowd, in which no door is in work.
func calm(t *testing.T) impl.Network {
	t.Helper()
	return do(t, crowd(t), "step 0 *4; step 1 *3; inspect 2")
}

// A change makes another network of one.
type change func(n *impl.Network)

// setEach returns changes that set a number of a network to each of these values.
func setEach(number func(n *impl.Network) *int, values ...int) []change {
	list := []change{}
	for _, v := range values {
		list = append(list, func(n *impl.Network) { *number(n) = v })
	}
	return list
}

// swap returns the change in which the parcels of two boxes, given by their sites, columns and indices, are exchanged.
func swap(a [3]int, b [3]int) change {
	return func(n *impl.Network) {
		x, y := &n.Sites[a[0]].Bank[a[1]].Boxes[a[2]].Parcel, &n.Sites[b[0]].Bank[b[1]].Boxes[b[2]].Parcel
		*x, *y = *y, *x
	}
}

// put returns the change in which a box, given by its site, column and index, has this parcel.
func put(site int, column int, index int, parcel int) change {
	return func(n *impl.Network) { n.Sites[site].Bank[column].Boxes[index].Parcel = parcel }
}

// both returns the change that makes some changes.
func both(list ...change) change {
	return func(n *impl.Network) {
		for _, one := range list {
			one(n)
		}
	}
}

// far are numbers far out of all ranges.
var far = []int{-1, -2, 1 << 32, 1<<32 + 1, -1 << 32, math.MinInt, math.MaxInt, math.MinInt + 1, math.MaxInt - 1}

// badFrames are changes after which a network of crowd is not valid, by what is neither a site nor a parcel.
func badFrames() []change {
	list := slices.Concat(
		setEach(func(n *impl.Network) *int { return &n.Room }, append(far, 1001, 1002, 2, 1, 0)...),
		setEach(func(n *impl.Network) *int { return &n.Secret }, append(far, 0, 2147483647, 2147483648, 1001, 999)...),
		setEach(func(n *impl.Network) *int { return &n.Now }, append(far, 20001, 20002, 7, 0)...),
		setEach(func(n *impl.Network) *int { return &n.Terms.Most }, 0),
		setEach(func(n *impl.Network) *int { return &n.Terms.Cap }, 0),
	)
	for _, m := range badTerms() {
		list = append(list, func(n *impl.Network) { n.Terms = m })
	}
	for _, bad := range badLists() {
		list = append(list, func(n *impl.Network) { n.Grants = bad })
	}
	for _, bad := range badJournals() {
		list = append(list, func(n *impl.Network) { n.Journal = bad })
	}
	empty := impl.Site{Week: weekOf("always"), Bank: splitBank(3)}
	return append(list,
		func(n *impl.Network) { n.Sites = nil },
		func(n *impl.Network) { n.Sites, n.Parcels = nil, nil },
		func(n *impl.Network) { n.Sites = n.Sites[:1] },
		func(n *impl.Network) { n.Sites = n.Sites[:2] },
		func(n *impl.Network) { n.Sites = append(n.Sites, empty) },
		func(n *impl.Network) { n.Sites = append(n.Sites, slices.Repeat([]impl.Site{empty}, 100)...) },
		func(n *impl.Network) { n.Parcels = append(n.Parcels, slices.Repeat(n.Parcels[3:4], 4)...) },
		func(n *impl.Network) { n.Parcels = append(n.Parcels, slices.Repeat(n.Parcels[3:4], 1000)...) },
		func(n *impl.Network) { n.Parcels = n.Parcels[:8] },
		func(n *impl.Network) { n.Parcels = nil },
		func(n *impl.Network) { *n = impl.Network{} },
	)
}

// badParts are changes after which one of the sites is not valid in itself.
func badParts(site int) []change {
	list := []change{}
	for _, w := range badWeeks() {
		list = append(list, func(n *impl.Network) { n.Sites[site].Week = w })
	}
	for _, bank := range badBanks() {
		list = append(list, func(n *impl.Network) { n.Sites[site].Bank = bank })
	}
	// Not all bad doors, as there are very many.
	for i, d := range badDoors() {
		if i%23 == site {
			list = append(list, func(n *impl.Network) { n.Sites[site].Door = d })
		}
	}
	for _, bad := range badJournals() {
		list = append(list, func(n *impl.Network) { n.Sites[site].Journal = bad })
	}
	return list
}

// badWork are changes after which the door of a site does not fit in a network of crowd, where the sites have the parcels 2, 3 and 9 at their
// doors.
func badWork() []change {
	list := []change{}
	for site, at := range []int{2, 3, 9} {
		s := func(n *impl.Network) *impl.Site { return &n.Sites[site] }
		for other := range 14 {
			if other != at {
				list = append(list, func(n *impl.Network) { s(n).Parcel = other })
			}
		}
		list = append(list, setEach(func(n *impl.Network) *int { return &s(n).Parcel }, far...)...)
		list = append(list, setEach(func(n *impl.Network) *int { return &s(n).Who }, append(far, 41, 42)...)...)
		list = append(list,
			func(n *impl.Network) { s(n).Door = impl.Door{} },
			func(n *impl.Network) { s(n).Door = door("idle none F") },
			func(n *impl.Network) { s(n).Parcel, s(n).Who, s(n).Door = 0, 0, impl.Door{} },
			func(n *impl.Network) { s(n).Parcel, s(n).Who = 0, 0 },
		)
	}
	// Nobody takes a parcel that is put in.
	for who := 1; who <= 40; who++ {
		list = append(list, func(n *impl.Network) { n.Sites[0].Who = who })
	}
	// A door that is put in work for the other kind: the parcel has a lock though it is unplaced, or none though it is placed.
	return append(list,
		func(n *impl.Network) { n.Sites[0].Door = door("take open LOF") },
		func(n *impl.Network) { n.Sites[1].Door = door("put moved LOF") },
		func(n *impl.Network) { n.Sites[1].Door, n.Sites[1].Who = door("put moved LOF"), 0 },
		func(n *impl.Network) { n.Sites[2].Door = door("put none L") },
	)
}

// badCalm are changes after which the door of a site does not fit in a network of calm, where all doors are at rest.
func badCalm() []change {
	list := []change{}
	for site := range 3 {
		s := func(n *impl.Network) *impl.Site { return &n.Sites[site] }
		list = append(list, setEach(func(n *impl.Network) *int { return &s(n).Parcel }, append(far, 1, 2, 3, 4, 5, 6, 7, 8, 9, 10, 11, 12, 13)...)...)
		list = append(list, setEach(func(n *impl.Network) *int { return &s(n).Who }, append(far, 1, 2, 40, 41)...)...)
		for _, d := range goodDoors() {
			if d != (impl.Door{}) {
				list = append(list, func(n *impl.Network) { s(n).Door = d })
			}
		}
	}
	return list
}

// badParcels are changes after which one of the parcels of a network of crowd is not valid.
func badParcels() []change {
	list := []change{}
	for i := range 9 {
		p := func(n *impl.Network) *impl.Parcel { return &n.Parcels[i] }
		add := func(number func(p *impl.Parcel) *int, values ...int) {
			list = append(list, setEach(func(n *impl.Network) *int { return number(p(n)) }, values...)...)
		}
		add(func(p *impl.Parcel) *int { return &p.Size }, farSizes()...)
		add(func(p *impl.Parcel) *int { return &p.Owner }, farPersons()...)
		add(func(p *impl.Parcel) *int { return &p.Site }, append(far, 3, 4)...)
		add(func(p *impl.Parcel) *int { return &p.Stage }, append(far, 6, 7)...)
		add(func(p *impl.Parcel) *int { return &p.Since }, append(far, 9, 20000, 20001)...)
		add(func(p *impl.Parcel) *int { return &p.Extended }, append(far, 3, 4, 20)...)
		add(func(p *impl.Parcel) *int { return &p.Who }, append(far, 41, 42)...)
		add(func(p *impl.Parcel) *int { return &p.Fee }, append(far, 105, 106, 1000)...)
		for _, bad := range append(badLocks(), impl.Lock{Secret: 1}, impl.Lock{Secret: secretBy(1000, i+2)}, impl.Lock{Secret: secretBy(1000, i+1) + 1}, impl.Lock{Secret: secretBy(1000, i)}) {
			if bad != (impl.Lock{}) || !slices.Contains([]int{1, 3, 4}, i) {
				list = append(list, func(n *impl.Network) { p(n).Lock = bad })
			}
		}
		for _, bad := range badLocks()[2:] {
			bad.Secret = secretBy(1000, i+1)
			if !impl.LockOk(bad) {
				list = append(list, func(n *impl.Network) { p(n).Lock = bad })
			}
		}
		if i != 6 {
			add(func(p *impl.Parcel) *int { return &p.Who }, 1, 2, 40)
			add(func(p *impl.Parcel) *int { return &p.Fee }, 1, 104)
		} else {
			add(func(p *impl.Parcel) *int { return &p.Who }, 0)
		}
	}
	// What is unplaced has nothing of what comes later.
	for _, i := range []int{1, 3, 4} {
		p := func(n *impl.Network) *impl.Parcel { return &n.Parcels[i] }
		list = append(list,
			func(n *impl.Network) { p(n).Since = 1 },
			func(n *impl.Network) { p(n).Since = n.Now },
			func(n *impl.Network) { p(n).Extended = 1 },
			func(n *impl.Network) { p(n).Lock = impl.Lock{Secret: secretBy(n.Secret, i+1)} },
			func(n *impl.Network) { p(n).Lock.Next = 1 },
			func(n *impl.Network) { p(n).Lock.Tries = 1 },
			func(n *impl.Network) { p(n).Lock.Pauses = 1 },
			func(n *impl.Network) { p(n).Lock.Until = 1 },
		)
	}
	return append(list, badStages()...)
}

// badStages are changes after which a parcel of a network of crowd is valid for another stage only.
func badStages() []change {
	list := []change{}
	good := map[[2]int]bool{{0, 3}: true, {1, 2}: true, {2, 2}: true, {3, 0}: true, {3, 1}: true, {4, 0}: true, {4, 1}: true, {5, 3}: true, {6, 4}: true, {7, 5}: true, {8, 2}: true}
	for i := range 9 {
		for stage := range 6 {
			if !good[[2]int{i, stage}] {
				list = append(list, func(n *impl.Network) { n.Parcels[i].Stage = stage })
			}
		}
	}
	return append(list,
		// It was placed, but is in no box, or is in a box no more.
		func(n *impl.Network) { n.Parcels[7].Stage = impl.StBox },
		func(n *impl.Network) { n.Parcels[6].Stage, n.Parcels[6].Who, n.Parcels[6].Fee = impl.StBox, 0, 0 },
		func(n *impl.Network) { n.Parcels[0].Stage = impl.StBack },
		func(n *impl.Network) { n.Parcels[0].Stage, n.Parcels[0].Who = impl.StTaken, 1 },
		func(n *impl.Network) {
			n.Parcels[3].Stage, n.Parcels[3].Lock = impl.StBox, impl.Lock{Secret: secretBy(n.Secret, 4)}
		},
		// At a door at which it is not, or at which nothing is.
		func(n *impl.Network) { n.Parcels[0].Stage = impl.StDoor },
		func(n *impl.Network) { n.Parcels[5].Stage = impl.StDoor },
	)
}

// badPlaces are changes after which boxes do not have the parcels of a network of crowd.
func badPlaces() []change {
	list := []change{}
	for _, parcel := range []int{0, 2, 3, 4, 5, 6, 7, 8, 9, 10, 11, 12, 13, 14, 999} {
		list = append(list, put(0, 1, 0, parcel))
	}
	for _, parcel := range []int{1, 2, 3, 4, 5, 6, 7, 8, 9, 10, 13, 999} {
		list = append(list, put(0, 1, 1, parcel), put(1, 0, 1, parcel), put(2, 0, 0, parcel))
	}
	for site, box := range [][2]int{{0, 0}, {0, 0}, {0, 2}} {
		list = append(list,
			// The box of a door is empty, or jammed.
			put(site, box[0], box[1], 0),
			func(n *impl.Network) { n.Sites[site].Bank[box[0]].Boxes[box[1]].Jammed = true },
		)
	}
	return append(list,
		put(2, 0, 3, 0),
		// The right parcels in the wrong boxes: of the same size at another site, or of another size at the same one.
		swap([3]int{0, 1, 0}, [3]int{2, 0, 2}),
		swap([3]int{0, 1, 0}, [3]int{0, 0, 0}),
		swap([3]int{0, 1, 0}, [3]int{0, 1, 1}),
		swap([3]int{2, 0, 2}, [3]int{2, 0, 3}),
		// Sizes that do not fit.
		func(n *impl.Network) { n.Parcels[0].Size = 1 },
		func(n *impl.Network) { n.Parcels[0].Size = 3 },
		func(n *impl.Network) { n.Parcels[1].Size = 2 },
		func(n *impl.Network) { n.Sites[0].Bank[1].Boxes[0].Parcel, n.Parcels[0].Site = 0, 2 },
		// Another site.
		func(n *impl.Network) { n.Parcels[0].Site = 1 },
		func(n *impl.Network) { n.Parcels[0].Site = 2 },
		func(n *impl.Network) { n.Parcels[5].Site = 0 },
		func(n *impl.Network) { n.Parcels[1].Site = 1 },
		func(n *impl.Network) { n.Parcels[8].Site = 0 },
		func(n *impl.Network) { n.Sites[0], n.Sites[2] = n.Sites[2], n.Sites[0] },
	)
}

// badLoads are changes after which the load of the van of a network of crowd, which was 3, is greater than Room.
func badLoads() []change {
	return []change{
		func(n *impl.Network) { n.Room = 2 },
		func(n *impl.Network) { n.Room, n.Parcels[3].Stage = 4, impl.StVan },
		func(n *impl.Network) { n.Parcels[4].Size = 12 },
		func(n *impl.Network) { n.Parcels[4].Size = 24 },
		func(n *impl.Network) { n.Parcels[3].Stage, n.Parcels[3].Size = impl.StVan, 10 },
		func(n *impl.Network) { n.Room, n.Parcels[4].Stage = 0, impl.StHub },
	}
}

// badNetworks returns networks that are not valid.
func badNetworks(t *testing.T) []impl.Network {
	t.Helper()
	list := []impl.Network{{}}
	add := func(base impl.Network, changes []change) {
		for _, one := range changes {
			n := cloneNetwork(base)
			one(&n)
			list = append(list, n)
		}
	}
	crowded, still := crowd(t), calm(t)
	for site := range 3 {
		add(crowded, badParts(site))
	}
	add(still, badCalm())
	add(crowded, slices.Concat(badFrames(), badWork(), badParcels(), badPlaces(), badLoads()))
	return list
}

// goodChanges are changes after which a network of crowd is valid still, though no commands may lead to it.
func goodChanges() []change {
	list := slices.Concat(
		setEach(func(n *impl.Network) *int { return &n.Room }, 3, 4, 999, 1000),
		setEach(func(n *impl.Network) *int { return &n.Now }, 8, 9, 19999, 20000),
		setEach(func(n *impl.Network) *int { return &n.Terms.Most }, 1, 20),
		setEach(func(n *impl.Network) *int { return &n.Terms.Cap }, 1, 1000000),
		setEach(func(n *impl.Network) *int { return &n.Sites[1].Who }, 0, 1, 39, 40),
		setEach(func(n *impl.Network) *int { return &n.Sites[2].Who }, 0, 1, 39, 40),
		setEach(func(n *impl.Network) *int { return &n.Parcels[0].Since }, 0, 1, 7, 8),
		setEach(func(n *impl.Network) *int { return &n.Parcels[2].Extended }, 0, 1, 2),
		setEach(func(n *impl.Network) *int { return &n.Parcels[6].Who }, 1, 2, 39, 40),
		setEach(func(n *impl.Network) *int { return &n.Parcels[6].Fee }, 0, 1, 103, 104),
		setEach(func(n *impl.Network) *int { return &n.Parcels[3].Size }, 1, 24),
		setEach(func(n *impl.Network) *int { return &n.Parcels[4].Size }, 1, 11),
		setEach(func(n *impl.Network) *int { return &n.Parcels[7].Size }, 1, 24),
		setEach(func(n *impl.Network) *int { return &n.Parcels[3].Owner }, 1, 2, 39, 40),
		setEach(func(n *impl.Network) *int { return &n.Parcels[3].Site }, 0, 1, 2),
		setEach(func(n *impl.Network) *int { return &n.Parcels[4].Site }, 0, 1, 2),
		setEach(func(n *impl.Network) *int { return &n.Parcels[6].Site }, 0, 1, 2),
		setEach(func(n *impl.Network) *int { return &n.Parcels[3].Stage }, 0, 1),
		setEach(func(n *impl.Network) *int { return &n.Parcels[5].Lock.Next }, 0, 1000001),
		setEach(func(n *impl.Network) *int { return &n.Parcels[5].Lock.Until }, 0, 20064),
		setEach(func(n *impl.Network) *int { return &n.Sites[0].Door.Step }, 0, 3),
	)
	for _, m := range goodTerms() {
		if m.Most >= 1 && m.Cap+m.Most*m.Price >= 5 {
			list = append(list, func(n *impl.Network) { n.Terms = m })
		}
	}
	for _, good := range goodJournals() {
		list = append(list, func(n *impl.Network) { n.Journal = good }, func(n *impl.Network) { n.Sites[1].Journal = good })
	}
	for _, d := range goodDoors() {
		switch d.Kind {
		case impl.KindPut:
			list = append(list, func(n *impl.Network) { n.Sites[0].Door = d })
		case impl.KindTake:
			list = append(list, func(n *impl.Network) { n.Sites[1].Door = d }, func(n *impl.Network) { n.Sites[2].Door = d })
		}
	}
	return append(list,
		func(n *impl.Network) {},
		func(n *impl.Network) { n.Grants = nil },
		func(n *impl.Network) { n.Grants = sameGrants(30, "1>2 #999 d0 0-20000 off") },
		func(n *impl.Network) { n.Parcels = append(n.Parcels, slices.Repeat(n.Parcels[3:4], 3)...) },
		func(n *impl.Network) { n.Room, n.Parcels[3].Stage = 5, impl.StVan },
		func(n *impl.Network) { n.Room, n.Parcels[4].Stage = 1, impl.StHub },
		func(n *impl.Network) { n.Sites[2].Bank[0].Boxes[3].Jammed = false },
		func(n *impl.Network) { n.Sites[0].Bank[1].Boxes[0].Jammed = true },
		func(n *impl.Network) { n.Sites[1].Bank[0].Boxes[1].Jammed = true },
		func(n *impl.Network) { n.Parcels[6].Stage, n.Parcels[6].Who, n.Parcels[6].Fee = impl.StBack, 0, 0 },
		func(n *impl.Network) { n.Parcels[7].Stage, n.Parcels[7].Who = impl.StTaken, 1 },
		func(n *impl.Network) { n.Parcels[0].Lock.Tries, n.Parcels[0].Lock.Pauses = 2, 6 },
		func(n *impl.Network) { n.Sites[1].Week = weekOf("never") },
	)
}

func TestNetworkOk(t *testing.T) {
	for i, bad := range badNetworks(t) {
		if impl.NetworkOk(bad) {
			t.Errorf("the bad network %d is valid: %+v", i, bad)
		}
	}
	crowded := crowd(t)
	for i, one := range goodChanges() {
		n := cloneNetwork(crowded)
		one(&n)
		if !impl.NetworkOk(n) {
			t.Errorf("the good network %d is not valid: %+v", i, n)
		}
	}
	for i, n := range []impl.Network{town(), calm(t), crowded} {
		if !impl.NetworkOk(n) {
			t.Errorf("the network %d is not valid: %+v", i, n)
		}
	}
	// Each secret is as good as another one as long as nothing was placed.
	for _, secret := range []int{1, 2, 2147483645, 2147483646} {
		n := do(t, town(), "announce 1 2 0; load 1; place 1")
		n.Secret = secret
		if !impl.NetworkOk(n) {
			t.Errorf("the network with the secret %d is not valid", secret)
		}
	}
	for parcels := range 15 {
		n := town()
		n.Parcels = slices.Repeat([]impl.Parcel{{Size: 1, Owner: 1}}, parcels)
		if got := impl.NetworkOk(n); got != (parcels <= 12) {
			t.Errorf("a network with %d parcels: %v", parcels, got)
		}
	}
	for sites := range 6 {
		n := town()
		n.Sites = slices.Repeat(n.Sites[:1], sites)
		if got := impl.NetworkOk(n); got != (sites >= 1 && sites <= 3) {
			t.Errorf("a network with %d sites: %v", sites, got)
		}
	}
}

// What all functions return for networks that are not valid.
func TestBadNetworks(t *testing.T) {
	for i, n := range badNetworks(t) {
		before := cloneNetwork(n)
		for kind := -1; kind <= 18; kind++ {
			c := impl.Command{Kind: kind, A: 1, B: 1, Grant: grant("1>2 #0 d0 0-9")}
			if kind > 1 && kind != 1+i%17 {
				continue
			}
			if after, code := impl.Apply(n, c); code != impl.NtBad || !sameNetwork(after, before) {
				t.Errorf("a command of the kind %d to the bad network %d: %d", kind, i, code)
			}
			if after, codes := impl.RunNetwork(n, []impl.Command{c}); len(codes) != 0 || !sameNetwork(after, before) {
				t.Errorf("a list with a command of the kind %d to the bad network %d: %v", kind, i, codes)
			}
		}
		if after, codes := impl.RunNetwork(n, nil); len(codes) != 0 || !sameNetwork(after, before) {
			t.Errorf("no commands to the bad network %d: %v", i, codes)
		}
		if list, ok := impl.AllJournals(n); len(list) != 0 || ok {
			t.Errorf("the journals of the bad network %d: %v, %v", i, list, ok)
		}
		if impl.LedgerOk(n) || impl.FeesOf(n) != 0 {
			t.Errorf("the ledger and the fees of the bad network %d: %v, %d", i, impl.LedgerOk(n), impl.FeesOf(n))
		}
		for parcel := -1; parcel <= 13; parcel++ {
			if impl.SeenFate(n, parcel) != (impl.Fate{}) || impl.WhereIs(n, parcel) != "" {
				t.Errorf("the parcel %d of the bad network %d: %+v, %s", parcel, i, impl.SeenFate(n, parcel), impl.WhereIs(n, parcel))
			}
		}
		for places := range 6 {
			checkNoTour(t, n, sameLegs(places, 1), 1)
		}
		if !sameNetwork(n, before) {
			t.Errorf("the bad network %d is changed", i)
		}
	}
}

// checkNoTour checks that there is no round for the courier.
func checkNoTour(t *testing.T, n impl.Network, legs [][]int, work int) {
	t.Helper()
	r, sites, ok := impl.RoundFor(n, legs, work)
	if len(r.Legs) != 0 || len(r.Stops) != 0 || r.Begin != 0 || r.Room != 0 || len(sites) != 0 || ok {
		t.Errorf("the round for legs %v and work %d: %+v, %v, %v\n%+v", legs, work, r, sites, ok, n)
	}
	if tour, ok := impl.TourOf(n, legs, work); len(tour) != 0 || ok {
		t.Errorf("the tour for legs %v and work %d: %v, %v\n%+v", legs, work, tour, ok, n)
	}
}
