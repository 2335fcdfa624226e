package tests

import (
	"cmp"
	"math"
	"math/rand"
	"reflect"
	"slices"
	"testing"

	"loop.example/g03318/impl"
)

// reason is a condition for which a command is refused.
type reason struct {
	applies bool
	code    int
}

// firstOf returns the code of the first reason that applies, or NtOk.
func firstOf(list ...reason) int {
	for _, one := range list {
		if one.applies {
			return one.code
		}
	}
	return impl.NtOk
}

// ruled returns what a command makes of a valid network by the rules of the document, and the code.
func ruled(given impl.Network, c impl.Command) (impl.Network, int) {
	n := cloneNetwork(given)
	code := impl.NtBad
	switch c.Kind {
	case impl.CmLoad, impl.CmPlace, impl.CmTake, impl.CmFetch, impl.CmExtend:
		code = impl.NtNone
		if c.A >= 1 && c.A <= len(n.Parcels) {
			code = parcelRuled(&n, c)
		}
	case impl.CmStep, impl.CmRelent, impl.CmCut, impl.CmHand, impl.CmRecover, impl.CmInspect:
		code = impl.NtNone
		if c.A >= 0 && c.A < len(n.Sites) {
			code = doorRuled(&n, c)
		}
	case impl.CmSync, impl.CmJam:
		code = impl.NtNone
		if c.A >= 0 && c.A < len(n.Sites) {
			code = siteRuled(&n, c)
		}
	case impl.CmAnnounce, impl.CmGrant, impl.CmRevoke, impl.CmTick:
		code = restRuled(&n, c)
	}
	if code != impl.NtOk && code != impl.NtCode {
		return cloneNetwork(given), code
	}
	return n, code
}

// boxesOf returns the boxes of all sites that have a parcel, each with the number of its site.
func boxesOf(n *impl.Network, parcel int) map[*impl.Box]int {
	boxes := map[*impl.Box]int{}
	for site := range n.Sites {
		for column := range n.Sites[site].Bank {
			for i := range n.Sites[site].Bank[column].Boxes {
				if b := &n.Sites[site].Bank[column].Boxes[i]; b.Parcel == parcel {
					boxes[b] = site
				}
			}
		}
	}
	return boxes
}

// isJammed reports whether the box of a parcel is jammed.
func isJammed(n *impl.Network, parcel int) bool {
	for b := range boxesOf(n, parcel) {
		if b.Jammed {
			return true
		}
	}
	return false
}

// loadBy returns the load of the van.
func loadBy(n *impl.Network) int {
	load := 0
	for _, p := range n.Parcels {
		if p.Stage == impl.StVan || p.Stage == impl.StDoor && n.Sites[p.Site].Door.Kind == impl.KindPut {
			load += p.Size
		}
	}
	return load
}

func parcelRuled(n *impl.Network, c impl.Command) int {
	p := &n.Parcels[c.A-1]
	s := &n.Sites[p.Site]
	shut := !impl.IsOpen(s.Week, n.Now)
	noRight := len(chainsBy(n.Grants, claim{p.Owner, c.B, c.A, n.Now})) == 0 || c.B < 1 || c.B > 40
	busy := s.Parcel != 0
	code := impl.NtOk
	switch c.Kind {
	case impl.CmLoad:
		code = firstOf(reason{p.Stage != impl.StHub, impl.NtStage}, reason{p.Size+loadBy(n) > n.Room, impl.NtRoom})
		p.Stage = impl.StVan
	case impl.CmPlace:
		bank, _, fits := impl.BankPut(s.Bank, c.A, p.Size)
		code = firstOf(reason{p.Stage != impl.StVan, impl.NtStage}, reason{busy, impl.NtBusy}, reason{shut, impl.NtTime}, reason{!fits, impl.NtRoom})
		s.Bank, p.Stage, s.Parcel, s.Who, s.Door = bank, impl.StDoor, c.A, 0, door("put meant -")
	case impl.CmTake:
		code = firstOf(reason{p.Stage != impl.StBox, impl.NtStage}, reason{busy, impl.NtBusy}, reason{shut, impl.NtTime}, reason{noRight, impl.NtRight}, reason{isJammed(n, c.A), impl.NtJam})
		if code != impl.NtOk {
			return code
		}
		lock, result := tried(p.Lock, n.Now, 5, c.Code)
		p.Lock = lock
		if result != impl.TryOpen {
			return impl.NtCode
		}
		p.Stage, s.Parcel, s.Who, s.Door = impl.StDoor, c.A, c.B, door("take meant F")
	case impl.CmFetch:
		deadline, ok := impl.DeadlineOf(s.Week, n.Terms, p.Since, p.Extended)
		early := !ok || n.Now <= deadline
		code = firstOf(reason{p.Stage != impl.StBox, impl.NtStage}, reason{busy, impl.NtBusy}, reason{shut || early, impl.NtTime}, reason{isJammed(n, c.A), impl.NtJam})
		p.Stage, s.Parcel, s.Who, s.Door = impl.StDoor, c.A, 0, door("take meant F")
	case impl.CmExtend:
		late := !impl.CanExtend(s.Week, n.Terms, p.Since, n.Now, p.Extended)
		code = firstOf(reason{p.Stage != impl.StBox, impl.NtStage}, reason{noRight, impl.NtRight}, reason{late, impl.NtTime})
		if code == impl.NtOk && !written(n, p.Site, impl.Event{Kind: impl.EvExtended, Parcel: c.A}) {
			code = impl.NtFull
		}
		p.Extended++
	}
	return code
}

func doorRuled(n *impl.Network, c impl.Command) int {
	s := &n.Sites[c.A]
	before := s.Door
	ok, verdict := false, impl.VdIdle
	switch c.Kind {
	case impl.CmStep:
		verdict = impl.TruthOf(s.Door)
		s.Door, ok = impl.Advance(s.Door)
	case impl.CmRelent:
		s.Door, ok = impl.Relent(s.Door)
	case impl.CmCut:
		ok = before.Step != impl.StepNone
		s.Door.Step = impl.StepNone
	case impl.CmHand:
		s.Door, ok = impl.Hand(s.Door, c.B)
	case impl.CmRecover:
		if !(c.B == 0 && c.C == 0) && (c.B < 1 || c.B > 4 || c.C < 1 || c.C > 2) {
			return impl.NtBad
		}
		f := []int{0, 0, 0, 0, 0}
		f[c.B] = c.C
		s.Door, verdict, ok = impl.Recover(s.Door, impl.Faults{Switch: f[1], Hook: f[2], Scale: f[3], Eye: f[4]})
	case impl.CmInspect:
		s.Door, verdict, ok = impl.Inspect(s.Door)
	}
	if !ok {
		return impl.NtStage
	}
	if s.Door.Kind == 0 && !settled(n, c.A, before.Kind, verdict == impl.VdDone) {
		return impl.NtFull
	}
	return impl.NtOk
}

// settled ends the operation of a site, and reports whether its event could be written.
func settled(n *impl.Network, site int, kind int, done bool) bool {
	s := &n.Sites[site]
	number, who := s.Parcel, s.Who
	p := &n.Parcels[number-1]
	s.Parcel, s.Who, s.Door = 0, 0, impl.Door{}
	if (kind == impl.KindTake) == done {
		for b := range boxesOf(n, number) {
			b.Parcel = 0
		}
	}
	e := impl.Event{Parcel: number, B: n.Now}
	switch {
	case kind == impl.KindPut && !done:
		p.Stage = impl.StVan
		return true
	case kind == impl.KindTake && !done:
		p.Stage = impl.StBox
		return true
	case kind == impl.KindPut:
		p.Stage, p.Since, p.Lock = impl.StBox, n.Now, impl.Lock{Secret: secretBy(n.Secret, number)}
		e.Kind, e.A = impl.EvPlaced, site
	case who == 0:
		p.Stage = impl.StBack
		e.Kind = impl.EvFetched
	default:
		p.Stage, p.Who, p.Fee = impl.StTaken, who, impl.FeeOf(s.Week, n.Terms, p.Size, p.Since, n.Now, p.Extended)
		e.Kind, e.A = impl.EvTaken, who
	}
	return written(n, site, e)
}

// unionBy merges two valid lists.
func unionBy(a []impl.Event, b []impl.Event) ([]impl.Event, bool) {
	list := slices.Concat(a, b)
	slices.SortStableFunc(list, func(x, y impl.Event) int { return cmp.Or(x.Node-y.Node, x.Seq-y.Seq) })
	list = slices.Compact(list)
	return list, validBy(list)
}

// allBy merges the journals of a valid network.
func allBy(n *impl.Network) ([]impl.Event, bool) {
	list, ok := n.Journal, true
	for _, s := range n.Sites {
		if list, ok = unionBy(list, s.Journal); !ok {
			return nil, false
		}
	}
	return list, true
}

// written lets a site write an event, and reports whether this is possible.
func written(n *impl.Network, site int, e impl.Event) bool {
	if all, ok := allBy(n); !ok || len(all) >= 60 {
		return false
	}
	s := &n.Sites[site]
	e.Node, e.Seq, e.Stamp = site, 1, 1
	for _, one := range s.Journal {
		e.Stamp = max(e.Stamp, one.Stamp+1)
		if one.Node == site {
			e.Seq = max(e.Seq, one.Seq+1)
		}
	}
	ok := false
	s.Journal, ok = unionBy(s.Journal, []impl.Event{e})
	return ok
}

func siteRuled(n *impl.Network, c impl.Command) int {
	s := &n.Sites[c.A]
	if c.Kind == impl.CmSync {
		list, ok := unionBy(n.Journal, s.Journal)
		n.Journal, s.Journal = list, list
		return firstOf(reason{!ok, impl.NtFull})
	}
	if c.B < 0 || c.B >= len(s.Bank) {
		return impl.NtNone
	}
	for i, b := range s.Bank[c.B].Boxes {
		if c.C >= b.Low && c.C-b.Low < b.Size {
			s.Bank[c.B].Boxes[i].Jammed = !b.Jammed
			return firstOf(reason{b.Parcel != 0 && b.Parcel == s.Parcel, impl.NtBusy})
		}
	}
	return impl.NtNone
}

func restRuled(n *impl.Network, c impl.Command) int {
	switch c.Kind {
	case impl.CmAnnounce:
		n.Parcels = append(n.Parcels, impl.Parcel{Size: c.B, Owner: c.A, Site: c.C})
		return firstOf(reason{c.C < 0 || c.C >= len(n.Sites), impl.NtNone}, reason{c.A < 1 || c.A > 40 || c.B < 1 || c.B > 24, impl.NtBad}, reason{len(n.Parcels) > 12, impl.NtFull})
	case impl.CmGrant:
		n.Grants = append(n.Grants, c.Grant)
		return firstOf(reason{!impl.GrantOk(c.Grant) || c.Grant.Off, impl.NtBad}, reason{len(n.Grants) > 30, impl.NtFull})
	case impl.CmRevoke:
		if c.A < 0 || c.A >= len(n.Grants) {
			return impl.NtNone
		}
		off := n.Grants[c.A].Off
		n.Grants[c.A].Off = true
		return firstOf(reason{off, impl.NtStage})
	}
	if c.A < 1 {
		return impl.NtBad
	}
	if c.A > 20000-n.Now {
		return impl.NtTime
	}
	n.Now += c.A
	return impl.NtOk
}

// checkRuled checks what becomes of a network by a command, and returns it with the code.
func checkRuled(t *testing.T, n impl.Network, c impl.Command) (impl.Network, int) {
	t.Helper()
	before := cloneNetwork(n)
	want, wantCode := ruled(n, c)
	after, code := impl.Apply(n, c)
	if code != wantCode || !sameNetwork(after, want) {
		t.Fatalf("%+v gives %s and not %s\n%s\n%s\n%s", c, impl.NtName(code), impl.NtName(wantCode), show(before), show(after), show(want))
	}
	if !sameNetwork(n, before) {
		t.Fatalf("%+v changes its argument\n%s\n%s", c, show(before), show(n))
	}
	return after, code
}

// doorCommands returns all commands to the door of a site, and some with other numbers.
func doorCommands(site int) []impl.Command {
	list := []impl.Command{{Kind: impl.CmStep, A: site}, {Kind: impl.CmRelent, A: site}, {Kind: impl.CmCut, A: site}, {Kind: impl.CmInspect, A: site}}
	for _, b := range append(far, 0, 1, 2, 3, 4, 5, 6) {
		list = append(list, impl.Command{Kind: impl.CmHand, A: site, B: b})
		for _, c := range append(far, 0, 1, 2, 3) {
			list = append(list, impl.Command{Kind: impl.CmRecover, A: site, B: b, C: c})
		}
	}
	return list
}

// From each state to which a door can come, each command leads where the document says: for a parcel that is put in, taken, and fetched.
func TestAllDoors(t *testing.T) {
	base := do(t, town(), "announce 1 2 0; announce 2 2 0; load 1; load 2; place 1; step 0 *6; grant 1>7 #1 d0 0-50")
	for _, c := range []struct {
		begin string
		ends  int
	}{
		{"place 2", 2}, {"take 1 1 +0", 2}, {"take 1 7 +1", 2}, {"tick 6; fetch 1", 2},
	} {
		start := do(t, base, c.begin)
		ends, doors := map[string]bool{}, map[impl.Door]bool{}
		seen, open := map[string]bool{show(start): true}, []impl.Network{start}
		for len(open) > 0 {
			n := open[0]
			open = open[1:]
			if n.Sites[0].Parcel == 0 {
				ends[show(n)] = true
			} else {
				doors[n.Sites[0].Door] = true
			}
			for _, one := range doorCommands(0) {
				after, _ := checkRuled(t, n, one)
				if text := show(after); !seen[text] {
					checkSound(t, after)
					seen[text] = true
					open = append(open, after)
				}
			}
		}
		if len(ends) != c.ends || len(doors) != 14 {
			t.Errorf("%s leads to %d ends by %d doors", c.begin, len(ends), len(doors))
		}
	}
}

// numbersOf returns all numbers in a value, at any depth, and its truths.
func numbersOf(v reflect.Value) []reflect.Value {
	list := []reflect.Value{}
	switch v.Kind() {
	case reflect.Int, reflect.Bool:
		list = append(list, v)
	case reflect.Struct:
		for i := range v.NumField() {
			list = append(list, numbersOf(v.Field(i))...)
		}
	case reflect.Slice:
		for i := range v.Len() {
			list = append(list, numbersOf(v.Index(i))...)
		}
	}
	return list
}

// soundBy reports whether a network is valid, by asking for all that the document says.
func soundBy(n impl.Network) bool {
	within := func(x int, low int, high int) bool { return low <= x && x <= high }
	ok := impl.TermsOk(n.Terms) && within(n.Room, 0, 1000) && within(n.Secret, 1, 2147483646) && within(n.Now, 0, 20000)
	ok = ok && within(len(n.Sites), 1, 3) && len(n.Parcels) <= 12 && impl.GrantsOk(n.Grants) && impl.JournalOk(n.Journal)
	for i, s := range n.Sites {
		ok = ok && impl.WeekOk(s.Week) && impl.BankOk(s.Bank) && impl.DoorOk(s.Door) && impl.JournalOk(s.Journal)
		if !ok || s.Parcel == 0 {
			ok = ok && s.Door == impl.Door{} && s.Who == 0
			continue
		}
		ok = within(s.Parcel, 1, len(n.Parcels)) && n.Parcels[s.Parcel-1].Site == i && n.Parcels[s.Parcel-1].Stage == impl.StDoor
		ok = ok && (s.Door.Kind == impl.KindPut && s.Who == 0 || s.Door.Kind == impl.KindTake && within(s.Who, 0, 40))
	}
	for i, p := range n.Parcels {
		ok = ok && within(p.Size, 1, 24) && within(p.Owner, 1, 40) && within(p.Site, 0, len(n.Sites)-1) && within(p.Stage, 0, 5)
		ok = ok && (p.Stage != impl.StDoor || n.Sites[p.Site].Parcel == i+1)
		if !ok {
			return false
		}
		if p.Stage < impl.StDoor || p.Stage == impl.StDoor && n.Sites[p.Site].Door.Kind == impl.KindPut {
			ok = p.Since == 0 && p.Extended == 0 && p.Who == 0 && p.Fee == 0 && p.Lock == impl.Lock{}
		} else {
			ok = within(p.Since, 0, n.Now) && within(p.Extended, 0, n.Terms.Most) && impl.LockOk(p.Lock) && p.Lock.Secret == secretBy(n.Secret, i+1)
			if p.Stage == impl.StTaken {
				ok = ok && within(p.Who, 1, 40) && within(p.Fee, 0, n.Terms.Cap+n.Terms.Price*n.Terms.Most)
			} else {
				ok = ok && p.Who == 0 && p.Fee == 0
			}
		}
		boxes := boxesOf(&n, i+1)
		ok = ok && len(boxes) == map[int]int{impl.StDoor: 1, impl.StBox: 1}[p.Stage]
		for b, site := range boxes {
			ok = ok && site == p.Site && b.Size == p.Size && (p.Stage != impl.StDoor || !b.Jammed)
		}
	}
	for _, s := range n.Sites {
		for _, c := range s.Bank {
			for _, b := range c.Boxes {
				ok = ok && b.Parcel <= len(n.Parcels)
			}
		}
	}
	return ok && loadBy(&n) <= n.Room
}

// disturb sets one of the numbers of a network to another one, or one of its truths.
func disturb(r *rand.Rand, n *impl.Network) {
	numbers := numbersOf(reflect.ValueOf(n).Elem())
	one, other := numbers[r.Intn(len(numbers))], numbers[r.Intn(len(numbers))]
	if one.Kind() == reflect.Bool {
		one.SetBool(!one.Bool())
		return
	}
	values := []int64{0, 1, 2, 3, 4, 5, 6, 12, 24, 40, 999, 1000, 20000, 100000, -1, one.Int() + 1, one.Int() - 1, math.MinInt64, math.MaxInt64}
	if other.Kind() == reflect.Int {
		values = append(values, other.Int(), other.Int(), other.Int())
	}
	one.SetInt(values[r.Intn(len(values))])
}

// someTown returns a new network with random parts.
func someTown(r *rand.Rand) impl.Network {
	terms := someTerms(r)
	terms.Keep, terms.Longer = 1+r.Intn(30), 1+r.Intn(20)
	weeks, banks := []impl.Week{}, [][]impl.Column{}
	for range 1 + r.Intn(3) {
		week := []impl.Week{weekOf("always"), weekOf("always"), weekOf("day"), {Open: []impl.Span{{From: 3, To: 30}, {From: 40, To: 167}}, Closed: []impl.Span{{From: 50, To: 60}}}}[r.Intn(4)]
		bank := someBank(r, 3)
		for i := range bank {
			for k := range bank[i].Boxes {
				bank[i].Boxes[k].Parcel = 0
			}
		}
		weeks, banks = append(weeks, week), append(banks, bank)
	}
	n, ok := impl.NewNetwork(terms, r.Intn(30), 1+r.Intn(impl.MaxSecret), weeks, banks)
	if !ok {
		panic("no network")
	}
	return n
}

// somePerson returns one of the first persons, or one who is none.
func somePerson(r *rand.Rand) int { return []int{1, 1, 2, 2, 3, 3, 4, 0, 41, -1}[r.Intn(10)] }

// likely has the kinds of commands, those more often that are needed more often.
var likely = parts("announce 1 1 0 *4; load 1 *6; place 1 *6; take 1 1 x *6; fetch 1 *3; step 0 *24; relent 0; cut 0 *2; hand 0 1 *4; recover 0 0 0 *4; inspect 0 *2; extend 1 1 *4; grant 1>2 #0 d0 0-9; revoke 0; tick 1 *2; sync 0; jam 0 0 0 *2")

// someCommand returns a command that is possible in a network, or nearly so.
func someCommand(r *rand.Rand, n impl.Network) impl.Command {
	if r.Intn(40) == 0 {
		return impl.Command{Kind: r.Intn(20) - 1, A: r.Intn(5) - 1, B: r.Intn(5) - 1, C: r.Intn(5) - 1}
	}
	c := command(likely[r.Intn(len(likely))])
	parcel, site := r.Intn(len(n.Parcels)+2), r.Intn(len(n.Sites))
	switch c.Kind {
	case impl.CmAnnounce:
		c.A, c.B, c.C = somePerson(r), r.Intn(1+r.Intn(9)), site
	case impl.CmTake, impl.CmLoad, impl.CmPlace, impl.CmFetch, impl.CmExtend:
		c.A, c.B = parcel, somePerson(r)
		if parcel >= 1 && parcel <= len(n.Parcels) && r.Intn(2) == 0 {
			c.B = n.Parcels[parcel-1].Owner
		}
		if c.Kind == impl.CmTake && parcel >= 1 && parcel <= len(n.Parcels) && r.Intn(3) > 0 {
			c.Code = codeBy(secretBy(n.Secret, parcel), n.Parcels[parcel-1].Lock.Next+r.Intn(6))
		}
	case impl.CmGrant:
		c.Grant = impl.Grant{From: somePerson(r), To: somePerson(r), Parcel: r.Intn(4), Depth: r.Intn(4), Start: r.Intn(60), End: n.Now + r.Intn(60), Off: r.Intn(9) == 0}
	case impl.CmTick:
		c.A = pick(r, 0, 1, 1, 2, 5, 9)
	case impl.CmJam:
		column := r.Intn(len(n.Sites[site].Bank))
		c.A, c.B, c.C = site, column, r.Intn(n.Sites[site].Bank[column].Height+1)
	case impl.CmRevoke:
		c.A = r.Intn(len(n.Grants) + 1)
	default:
		for i, s := range n.Sites {
			if s.Parcel != 0 && r.Intn(2) == 0 {
				site = i
			}
		}
		c.A, c.B, c.C = site, r.Intn(4), 0
		if c.Kind == impl.CmRecover {
			c.B = []int{0, 0, 0, 1, 2, 3, 4, 5}[r.Intn(8)]
			c.C = []int{0, 1, 2}[r.Intn(3)] * min(1, c.B)
		}
	}
	return c
}

// checkBegin checks that a door which a command puts in work is for the courier, or for somebody who might take the parcel then and had a code.
func checkBegin(t *testing.T, before impl.Network, c impl.Command, after impl.Network) {
	t.Helper()
	for i, s := range after.Sites {
		if s.Parcel == 0 || before.Sites[i].Parcel != 0 {
			continue
		}
		p := before.Parcels[s.Parcel-1]
		ok := c.A == s.Parcel && (c.Kind == impl.CmPlace || c.Kind == impl.CmFetch) && s.Who == 0
		if c.Kind == impl.CmTake {
			codes := []string{}
			for count := p.Lock.Next; count < p.Lock.Next+5; count++ {
				codes = append(codes, codeBy(secretBy(before.Secret, c.A), count))
			}
			ok = c.A == s.Parcel && s.Who == c.B && before.Now >= p.Lock.Until && slices.Contains(codes, c.Code) && len(chainsBy(before.Grants, claim{p.Owner, c.B, c.A, before.Now})) > 0
		}
		if !ok {
			t.Fatalf("the door of the site %d was put in work by %+v\n%+v", i, c, before)
		}
	}
}

// refusals has the codes that the document lists for each kind of commands, beside NtOk.
var refusals = map[int][]int{
	impl.CmAnnounce: {impl.NtNone, impl.NtBad, impl.NtFull},
	impl.CmLoad:     {impl.NtNone, impl.NtStage, impl.NtRoom},
	impl.CmPlace:    {impl.NtNone, impl.NtStage, impl.NtBusy, impl.NtTime, impl.NtRoom},
	impl.CmTake:     {impl.NtNone, impl.NtStage, impl.NtBusy, impl.NtTime, impl.NtRight, impl.NtJam, impl.NtCode},
	impl.CmFetch:    {impl.NtNone, impl.NtStage, impl.NtBusy, impl.NtTime, impl.NtJam},
	impl.CmStep:     {impl.NtNone, impl.NtStage, impl.NtFull},
	impl.CmRelent:   {impl.NtNone, impl.NtStage},
	impl.CmCut:      {impl.NtNone, impl.NtStage},
	impl.CmHand:     {impl.NtNone, impl.NtStage},
	impl.CmRecover:  {impl.NtNone, impl.NtBad, impl.NtStage, impl.NtFull},
	impl.CmInspect:  {impl.NtNone, impl.NtStage, impl.NtFull},
	impl.CmExtend:   {impl.NtNone, impl.NtStage, impl.NtRight, impl.NtTime, impl.NtFull},
	impl.CmGrant:    {impl.NtBad, impl.NtFull},
	impl.CmRevoke:   {impl.NtNone, impl.NtStage},
	impl.CmTick:     {impl.NtBad, impl.NtTime},
	impl.CmSync:     {impl.NtNone, impl.NtFull},
	impl.CmJam:      {impl.NtNone, impl.NtBusy},
}

// checkSeen checks that each kind of commands was seen with each of its codes, and with no others.
func checkSeen(t *testing.T, seen map[[2]int]int, but ...[2]int) {
	t.Helper()
	for kind, codes := range refusals {
		for code := range 11 {
			listed := code == impl.NtOk || slices.Contains(codes, code)
			if often := seen[[2]int{kind, code}]; listed != (often > 0) && !slices.Contains(but, [2]int{kind, code}) {
				t.Errorf("%s with the code %s was seen %d times", commandWords[kind], impl.NtName(code), often)
			}
		}
	}
}

// Promise 9: after each of many commands to a new network, it is valid, its ledger is right, and every parcel is in exactly one place; and the
// doors are in work for those who might put them in work.
func TestManyCommands(t *testing.T) {
	r := rand.New(rand.NewSource(91))
	seen := map[[2]int]int{}
	for range 120 {
		n := someTown(r)
		first, list, codes := n, []impl.Command{}, []int{}
		for range 500 {
			c := someCommand(r, n)
			after, code := checkRuled(t, n, c)
			checkSound(t, after)
			checkBegin(t, n, c, after)
			seen[[2]int{c.Kind, code}]++
			n, list, codes = after, append(list, c), append(codes, code)
		}
		// The same commands in lists.
		for at := 0; at < len(list); at += 100 {
			after, got := impl.RunNetwork(first, list[at:at+100])
			if !slices.Equal(got, codes[at:at+100]) {
				t.Fatalf("a list of commands: %v", got)
			}
			first = after
		}
		if !sameNetwork(first, n) {
			t.Fatalf("a list of commands leads to\n%s\nand not to\n%s", show(first), show(n))
		}
	}
	full := [][2]int{{impl.CmStep, impl.NtFull}, {impl.CmRecover, impl.NtFull}, {impl.CmInspect, impl.NtFull}, {impl.CmExtend, impl.NtFull}, {impl.CmSync, impl.NtFull}, {impl.CmGrant, impl.NtFull}, {impl.CmTick, impl.NtTime}}
	checkSeen(t, seen, full...)
}

// oddNetwork returns a network that is valid, though hardly commands led to it.
func oddNetwork(r *rand.Rand, n impl.Network) impl.Network {
	for {
		odd := cloneNetwork(n)
		for range r.Intn(4) {
			disturb(r, &odd)
		}
		journals := []*[]impl.Event{&odd.Journal}
		for i := range odd.Sites {
			journals = append(journals, &odd.Sites[i].Journal)
		}
		switch r.Intn(5) {
		case 0:
			lists := someLists(r)
			for i, list := range journals {
				*list = lists[i]
			}
		case 1:
			*journals[r.Intn(len(journals))] = run(5, 1, 58+r.Intn(3))
		case 2:
			for i, list := range journals {
				*list = slices.Concat(*list, run(3+r.Intn(3), 1, r.Intn(61)/(i+1)))
			}
		}
		if len(odd.Grants) > 0 && r.Intn(6) == 0 {
			odd.Grants = append(odd.Grants, slices.Repeat(odd.Grants[:1], 30-len(odd.Grants))...)
		}
		if r.Intn(6) == 0 {
			odd.Now = 20000 - r.Intn(3)
		}
		if len(odd.Parcels) > 0 && odd.Parcels[0].Stage == impl.StHub && r.Intn(3) == 0 {
			odd.Parcels = append(odd.Parcels, slices.Repeat(odd.Parcels[:1], 12-len(odd.Parcels))...)
		}
		if r.Intn(4) == 0 {
			for parcel := range odd.Parcels {
				for b, site := range boxesOf(&odd, parcel+1) {
					b.Jammed = odd.Sites[site].Parcel != parcel+1
				}
			}
		}
		if r.Intn(3) == 0 {
			for i := range odd.Sites {
				odd.Sites[i].Door = impl.CutPower(odd.Sites[i].Door)
			}
		}
		if soundBy(odd) {
			return odd
		}
	}
}

// What the document says of a command holds for every valid network, also if it is odd.
func TestCommandsToOddNetworks(t *testing.T) {
	r := rand.New(rand.NewSource(92))
	seen := map[[2]int]int{}
	for range 70 {
		n := someTown(r)
		for range 100 {
			for range 4 {
				n, _ = impl.Apply(n, someCommand(r, n))
			}
			odd := oddNetwork(r, n)
			for range 3 {
				c := someCommand(r, odd)
				after, code := checkRuled(t, odd, c)
				if !soundBy(after) || !impl.NetworkOk(after) {
					t.Fatalf("%+v makes a network that is not valid of\n%+v", c, odd)
				}
				seen[[2]int{c.Kind, code}]++
				odd = after
			}
		}
	}
	checkSeen(t, seen)
}

// A network is valid just if all holds that the document says.
func TestNetworkOkOfManyNetworks(t *testing.T) {
	r := rand.New(rand.NewSource(93))
	bases := []impl.Network{crowd(t), calm(t), town()}
	valid := map[bool]int{}
	for i := range 20000 {
		n := cloneNetwork(bases[i%3])
		for range 1 + r.Intn(3) {
			disturb(r, &n)
		}
		want := soundBy(n)
		if got := impl.NetworkOk(n); got != want {
			t.Fatalf("NetworkOk is %v for %+v", got, n)
		}
		valid[want]++
	}
	if valid[true] < 2000 || valid[false] < 2000 {
		t.Error("too few networks of one kind:", valid)
	}
}
