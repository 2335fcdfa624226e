package tests

import (
	"fmt"
	"math"
	"slices"
	"testing"

	"loop.example/g03318/impl"
)

// checkCodes checks the codes of commands, of which the refused ones change nothing, but for a wrong code.
func checkCodes(t *testing.T, n impl.Network, codes map[string]int) {
	t.Helper()
	for text, code := range codes {
		c := commandFor(n, text)
		// What a command does not mention does not matter.
		if c.Kind != impl.CmTake {
			c.Code = "394886"
		}
		if c.Kind != impl.CmGrant {
			c.Grant = grant("40>1 #3 d5 0-20000")
		}
		if code == impl.NtOk || code == impl.NtCode {
			if after, got := impl.Apply(n, c); got != code || sameNetwork(after, n) {
				t.Errorf("%s: %d, %+v", text, got, after)
			}
		} else {
			refuse(t, n, c, code)
		}
	}
}

// each returns commands with one of these numbers put into a text, all with the same code.
func each(text string, code int, numbers ...int) map[string]int {
	codes := map[string]int{}
	for _, n := range numbers {
		codes[fmt.Sprintf(text, n)] = code
	}
	return codes
}

// setSite returns the network with another site.
func setSite(n impl.Network, site int, change func(s *impl.Site)) impl.Network {
	n = cloneNetwork(n)
	change(&n.Sites[site])
	return n
}

func TestUnknownKinds(t *testing.T) {
	for _, n := range []impl.Network{town(), crowd(t), calm(t)} {
		for _, kind := range append(far, 0, 18, 19, 100, 256+1) {
			refuse(t, n, impl.Command{Kind: kind}, impl.NtBad)
			refuse(t, n, impl.Command{Kind: kind, A: 1, B: 1, Code: codeBy(8920, 0), Grant: grant("1>2 #0 d0 0-9")}, impl.NtBad)
			refuse(t, n, impl.Command{Kind: kind, A: -1, B: -1, C: -1}, impl.NtBad)
		}
	}
}

// There is no such parcel, site, column, unit or grant, whatever else is wrong.
func TestNothingThere(t *testing.T) {
	n := crowd(t)
	for _, parcel := range append(far, 0, 10, 11, 12, 13, 999) {
		checkCodes(t, n, map[string]int{
			fmt.Sprintf("load %d", parcel):          impl.NtNone,
			fmt.Sprintf("place %d", parcel):         impl.NtNone,
			fmt.Sprintf("take %d 1 394886", parcel): impl.NtNone,
			fmt.Sprintf("take %d -1 x", parcel):     impl.NtNone,
			fmt.Sprintf("fetch %d", parcel):         impl.NtNone,
			fmt.Sprintf("extend %d 1", parcel):      impl.NtNone,
			fmt.Sprintf("extend %d -1", parcel):     impl.NtNone,
		})
		refuse(t, town(), impl.Command{Kind: impl.CmLoad, A: parcel}, impl.NtNone)
	}
	for _, site := range append(far, 3, 4, 12) {
		for _, text := range []string{"step %d", "relent %d", "cut %d", "hand %d 1", "hand %d 0", "recover %d 0 0", "recover %d 0 1", "inspect %d", "sync %d", "jam %d 0 0", "jam %d -1 0", "announce 1 1 %d", "announce 0 1 %d", "announce 1 0 %d", "announce -1 -1 %d"} {
			checkCodes(t, n, each(text, impl.NtNone, site))
		}
	}
	small, _ := impl.NewNetwork(termsOf(brief), 10, 1000, []impl.Week{weekOf("always")}, [][]impl.Column{splitBank(3)})
	for _, site := range []int{-1, 1, 2, 3} {
		for _, text := range []string{"sync %d", "jam %d 0 0", "announce 1 1 %d"} {
			checkCodes(t, small, each(text, impl.NtNone, site))
		}
	}
	for _, number := range append(far, 2, 3, 30) {
		checkCodes(t, n, each("revoke %d", impl.NtNone, number))
		checkCodes(t, n, each("jam 0 %d 0", impl.NtNone, number))
		if number != 2 && number != 3 {
			checkCodes(t, n, each("jam 0 0 %d", impl.NtNone, number))
			checkCodes(t, n, each("jam 1 0 %d", impl.NtNone, number))
			checkCodes(t, n, each("jam 2 0 %d", impl.NtNone, number))
		}
	}
	checkCodes(t, n, map[string]int{"jam 0 0 4": impl.NtNone, "jam 0 1 6": impl.NtNone, "jam 1 0 5": impl.NtNone, "jam 1 1 0": impl.NtNone, "jam 2 0 24": impl.NtNone})
	checkCodes(t, n, map[string]int{"jam 0 0 3": impl.NtOk, "jam 0 1 5": impl.NtOk, "jam 1 0 4": impl.NtOk, "jam 2 0 23": impl.NtOk})
	checkCodes(t, town(), each("revoke %d", impl.NtNone, -1, 0, 1))
}

func TestAnnounceRefused(t *testing.T) {
	n := town()
	for count := range 13 {
		end := impl.NtOk
		if count == 12 {
			end = impl.NtFull
		}
		checkCodes(t, n, map[string]int{"announce 1 1 0": end, "announce 40 24 2": end, "announce 3 4 1": end})
		checkCodes(t, n, each("announce %d 1 0", impl.NtBad, farPersons()...))
		checkCodes(t, n, each("announce 1 %d 2", impl.NtBad, farSizes()...))
		checkCodes(t, n, map[string]int{"announce 41 25 1": impl.NtBad, "announce 41 1 3": impl.NtNone, "announce 1 25 -1": impl.NtNone, "announce 1 1 3": impl.NtNone})
		if count < 12 {
			n = do(t, n, "announce 1 1 0")
		}
	}
	if len(n.Parcels) != 12 {
		t.Error("the number of parcels:", len(n.Parcels))
	}
}

func TestLoadRefused(t *testing.T) {
	// The van has room for 12.
	n := do(t, town(), "announce 1 4 0; announce 1 5 2; announce 1 3 2; announce 1 1 2; announce 1 13 2; announce 1 24 2; load 1; load 2")
	checkCodes(t, n, map[string]int{"load 1": impl.NtStage, "load 3": impl.NtOk, "load 4": impl.NtOk, "load 5": impl.NtRoom, "load 6": impl.NtRoom})
	full := do(t, n, "load 3")
	checkCodes(t, full, map[string]int{"load 1": impl.NtStage, "load 4": impl.NtRoom, "load 5": impl.NtRoom})
	// A parcel that is put in counts until it is in the box, and what is in the box or at the hub does not.
	door := do(t, full, "place 1; step 0 *5")
	checkCodes(t, door, map[string]int{"load 1": impl.NtStage, "load 4": impl.NtRoom})
	checkCodes(t, do(t, door, "step 0"), map[string]int{"load 1": impl.NtStage, "load 4": impl.NtOk, "load 5": impl.NtRoom})
	checkCodes(t, do(t, full, "place 1; step 0 *2; cut 0; inspect 0"), map[string]int{"load 1": impl.NtStage, "load 4": impl.NtRoom})
	// One that is taken out does not count either.
	taken := do(t, door, "step 0; take 1 1 +0")
	checkCodes(t, taken, map[string]int{"load 1": impl.NtStage, "load 4": impl.NtOk})
	checkCodes(t, do(t, taken, "load 4"), map[string]int{"load 5": impl.NtRoom})
	checkCodes(t, do(t, taken, "step 0 *6"), map[string]int{"load 1": impl.NtStage, "load 4": impl.NtOk})
	checkCodes(t, crowd(t), map[string]int{"load 1": impl.NtStage, "load 2": impl.NtStage, "load 3": impl.NtStage, "load 4": impl.NtOk, "load 5": impl.NtStage, "load 6": impl.NtStage, "load 7": impl.NtStage, "load 8": impl.NtStage})
	// A van without room.
	none, _ := impl.NewNetwork(termsOf(brief), 0, 1000, []impl.Week{weekOf("always")}, [][]impl.Column{splitBank(3)})
	checkCodes(t, do(t, none, "announce 1 1 0"), map[string]int{"load 1": impl.NtRoom})
	most, _ := impl.NewNetwork(termsOf(brief), 1000, 1000, []impl.Week{weekOf("always")}, [][]impl.Column{splitBank(3)})
	if most = do(t, most, "announce 1 24 0 *12; load 1; load 2; load 3; load 4; load 5; load 6; load 7; load 8; load 9; load 10; load 11; load 12"); impl.WhereIs(most, 12) != "van" {
		t.Error("the van has no room for all parcels")
	}
}

func TestPlaceRefused(t *testing.T) {
	// The parcel 1 fits nowhere, 2 and 3 have the gaps 3 and 2 of the site 1, and 4 is at the hub.
	n := do(t, town(), "announce 1 4 1; announce 1 3 1; announce 1 2 1; announce 1 1 1; load 1; load 2; load 3")
	at := func(now int) impl.Network {
		n := cloneNetwork(n)
		n.Now = now
		return n
	}
	for _, now := range []int{0, 7, 18, 167, 168, 175, 186, 19999, 20000} {
		checkCodes(t, at(now), map[string]int{"place 1": impl.NtTime, "place 2": impl.NtTime, "place 3": impl.NtTime, "place 4": impl.NtStage})
	}
	for _, now := range []int{8, 17, 176, 185} {
		checkCodes(t, at(now), map[string]int{"place 1": impl.NtRoom, "place 2": impl.NtOk, "place 3": impl.NtOk, "place 4": impl.NtStage})
	}
	// The site is busy, also if it is shut.
	busy := do(t, at(17), "place 2")
	checkCodes(t, busy, map[string]int{"place 1": impl.NtBusy, "place 2": impl.NtStage, "place 3": impl.NtBusy, "place 4": impl.NtStage})
	checkCodes(t, do(t, busy, "tick 1"), map[string]int{"place 1": impl.NtBusy, "place 2": impl.NtStage, "place 3": impl.NtBusy, "place 4": impl.NtStage})
	checkCodes(t, do(t, busy, "cut 1"), map[string]int{"place 3": impl.NtBusy})
	// A gap that is jammed is none.
	jammed := do(t, at(10), "jam 1 0 3")
	checkCodes(t, jammed, map[string]int{"place 2": impl.NtOk, "place 3": impl.NtOk})
	checkCodes(t, do(t, jammed, "place 2; step 1 *6"), map[string]int{"place 3": impl.NtRoom})
	checkCodes(t, do(t, jammed, "jam 1 0 0"), map[string]int{"place 2": impl.NtRoom, "place 3": impl.NtRoom})
	full := do(t, at(10), "place 2; step 1 *6; place 3; step 1 *6; load 4")
	checkCodes(t, full, map[string]int{"place 1": impl.NtRoom, "place 4": impl.NtRoom, "place 2": impl.NtStage})
	// There is no hour after the last one.
	last := do(t, town(), "announce 1 1 0; load 1; tick 19999")
	checkCodes(t, last, map[string]int{"place 1": impl.NtOk})
	checkCodes(t, do(t, last, "tick 1"), map[string]int{"place 1": impl.NtTime})
	// Stages of other kinds.
	checkCodes(t, crowd(t), map[string]int{"place 1": impl.NtStage, "place 2": impl.NtStage, "place 3": impl.NtStage, "place 4": impl.NtStage, "place 5": impl.NtBusy, "place 6": impl.NtStage, "place 7": impl.NtStage, "place 8": impl.NtStage})
}

func TestTakeRefused(t *testing.T) {
	// The parcels 1 and 2 are at the site 1, 3 is in the van, and 2 is of the person 5.
	n := do(t, town(), "announce 1 3 1; announce 5 1 1; announce 1 1 1; load 1; load 2; load 3; tick 8; place 1; step 1 *6; place 2; step 1 *6")
	checkCodes(t, n, map[string]int{
		"take 1 1 +0": impl.NtOk, "take 1 1 +4": impl.NtOk, "take 1 1 +5": impl.NtCode, "take 1 1 x": impl.NtCode, "take 2 5 +0": impl.NtOk,
		"take 1 5 +0": impl.NtRight, "take 1 5 x": impl.NtRight, "take 2 1 +0": impl.NtRight, "take 3 1 x": impl.NtStage, "take 3 7 x": impl.NtStage,
	})
	for _, who := range farPersons() {
		checkCodes(t, n, map[string]int{fmt.Sprintf("take 1 %d +0", who): impl.NtRight, fmt.Sprintf("take 3 %d x", who): impl.NtStage})
	}
	checkCodes(t, do(t, n, "tick 9"), map[string]int{"take 1 1 +0": impl.NtOk})
	shut := do(t, n, "tick 10")
	checkCodes(t, shut, map[string]int{"take 1 1 +0": impl.NtTime, "take 1 1 x": impl.NtTime, "take 1 5 x": impl.NtTime, "take 2 5 +0": impl.NtTime, "take 3 1 x": impl.NtStage})
	checkCodes(t, do(t, shut, "tick 157"), map[string]int{"take 1 1 +0": impl.NtTime})
	checkCodes(t, do(t, shut, "tick 158"), map[string]int{"take 1 1 +0": impl.NtOk})
	busy := do(t, n, "place 3")
	checkCodes(t, busy, map[string]int{"take 1 1 +0": impl.NtBusy, "take 1 7 x": impl.NtBusy, "take 2 5 +0": impl.NtBusy, "take 3 1 x": impl.NtStage})
	checkCodes(t, do(t, busy, "tick 10"), map[string]int{"take 1 1 +0": impl.NtBusy, "take 3 1 x": impl.NtStage})
	// A box that is jammed, and one beside it.
	jammed := do(t, n, "jam 1 0 2")
	checkCodes(t, jammed, map[string]int{"take 1 1 +0": impl.NtJam, "take 1 1 x": impl.NtJam, "take 1 5 +0": impl.NtRight, "take 2 5 +0": impl.NtOk, "take 2 5 x": impl.NtCode})
	checkCodes(t, do(t, jammed, "tick 10"), map[string]int{"take 1 1 +0": impl.NtTime})
	checkCodes(t, do(t, jammed, "place 3"), map[string]int{"take 1 1 +0": impl.NtBusy})
	// A pause of the lock is no other code.
	pause := cloneNetwork(n)
	pause.Parcels[0].Lock.Until = 9
	if after, code := impl.Apply(pause, commandFor(pause, "take 1 1 +0")); code != impl.NtCode || !sameNetwork(after, pause) {
		t.Errorf("the code in a pause: %d, %+v", code, after)
	}
	checkCodes(t, do(t, pause, "tick 1"), map[string]int{"take 1 1 +0": impl.NtOk})
	// It was taken, or it is back.
	checkCodes(t, do(t, n, "take 1 1 +0"), map[string]int{"take 1 1 +0": impl.NtStage, "take 2 5 +0": impl.NtBusy})
	checkCodes(t, do(t, n, "take 1 1 +0; step 1 *6"), map[string]int{"take 1 1 +0": impl.NtStage, "take 2 5 +0": impl.NtOk})
	checkCodes(t, crowd(t), map[string]int{"take 2 2 x": impl.NtStage, "take 4 4 x": impl.NtStage, "take 8 2 x": impl.NtStage, "take 6 6 +0": impl.NtBusy})
}

// Whoever may take a parcel gets it, as the chains of grants tell.
func TestTakeByRight(t *testing.T) {
	n := do(t, town(), `announce 1 2 0; announce 1 2 0; load 1; load 2; place 1; step 0 *6; place 2; step 0 *6; tick 10;
		grant 1>2 #1 d1 0-20000; grant 2>3 #0 d0 0-20000; grant 3>4 #0 d5 0-20000; grant 1>5 #0 d0 11-20; grant 1>6 #2 d5 0-10; grant 6>7 #0 d0 0-20000; grant 1>8 #0 d0 0-20000; revoke 6`)
	may := map[int][]int{1: {1, 2, 3}, 2: {1}}
	for parcel := 1; parcel <= 2; parcel++ {
		for who := 1; who <= 40; who++ {
			code := impl.NtRight
			if slices.Contains(may[parcel], who) {
				code = impl.NtOk
			}
			checkCodes(t, n, map[string]int{fmt.Sprintf("take %d %d +0", parcel, who): code})
		}
	}
	for now, code := range map[int]int{1: impl.NtOk, 9: impl.NtOk, 10: impl.NtRight} {
		checkCodes(t, do(t, n, fmt.Sprintf("tick %d", now)), map[string]int{"take 1 5 +0": code, "take 2 5 +0": code})
	}
	checkCodes(t, do(t, n, "revoke 0"), map[string]int{"take 1 2 +0": impl.NtRight, "take 1 3 +0": impl.NtRight, "take 1 1 +0": impl.NtOk})
}

func TestFetchRefused(t *testing.T) {
	// Placed at 8 and kept for five hours, of which the parcel 2 got six more.
	n := do(t, town(), "announce 1 3 1; announce 1 1 1; announce 1 1 1; load 1; load 2; load 3; tick 8; place 1; step 1 *6; place 2; step 1 *6; extend 2 1")
	checkCodes(t, n, map[string]int{"fetch 1": impl.NtTime, "fetch 2": impl.NtTime, "fetch 3": impl.NtStage})
	checkCodes(t, do(t, n, "tick 5"), map[string]int{"fetch 1": impl.NtTime, "fetch 2": impl.NtTime, "fetch 3": impl.NtStage})
	over := do(t, n, "tick 6")
	checkCodes(t, over, map[string]int{"fetch 1": impl.NtOk, "fetch 2": impl.NtTime, "fetch 3": impl.NtStage})
	checkCodes(t, do(t, over, "place 3"), map[string]int{"fetch 1": impl.NtBusy, "fetch 2": impl.NtBusy, "fetch 3": impl.NtStage})
	checkCodes(t, do(t, over, "place 3; tick 10"), map[string]int{"fetch 1": impl.NtBusy})
	checkCodes(t, do(t, n, "place 3"), map[string]int{"fetch 1": impl.NtBusy})
	checkCodes(t, do(t, over, "tick 3"), map[string]int{"fetch 1": impl.NtOk, "fetch 2": impl.NtTime})
	checkCodes(t, do(t, over, "tick 4"), map[string]int{"fetch 1": impl.NtTime, "fetch 2": impl.NtTime})
	// The eleventh hour is the first one of the next week, and the deadline its end.
	checkCodes(t, do(t, over, "tick 162"), map[string]int{"fetch 1": impl.NtOk, "fetch 2": impl.NtTime})
	checkCodes(t, do(t, over, "tick 163"), map[string]int{"fetch 1": impl.NtOk, "fetch 2": impl.NtTime})
	checkCodes(t, do(t, over, "tick 164"), map[string]int{"fetch 1": impl.NtOk, "fetch 2": impl.NtOk})
	// A jammed box.
	jammed := do(t, over, "jam 1 0 0; jam 1 0 3")
	checkCodes(t, jammed, map[string]int{"fetch 1": impl.NtJam, "fetch 2": impl.NtTime, "fetch 3": impl.NtStage})
	checkCodes(t, do(t, jammed, "tick 4"), map[string]int{"fetch 1": impl.NtTime})
	checkCodes(t, do(t, jammed, "jam 1 0 1; place 3"), map[string]int{"fetch 1": impl.NtBusy})
	// The same parcel twice.
	checkCodes(t, do(t, over, "fetch 1"), map[string]int{"fetch 1": impl.NtStage, "fetch 2": impl.NtBusy})
	checkCodes(t, do(t, over, "fetch 1; step 1 *6"), map[string]int{"fetch 1": impl.NtStage})
	// A parcel without a deadline is never overdue, as the site has too few open hours.
	late := do(t, town(), "announce 1 3 0; load 1; tick 19996; place 1; step 0 *6; tick 3")
	checkCodes(t, late, map[string]int{"fetch 1": impl.NtTime, "take 1 1 +0": impl.NtOk})
}

func TestExtendRefused(t *testing.T) {
	// Kept for five hours, and for six more twice, from the hour 8 on that was just when it was placed.
	n := do(t, town(), "announce 1 3 1; announce 5 2 1; load 1; load 2; tick 8; place 1; step 1 *6")
	checkCodes(t, n, map[string]int{"extend 1 1": impl.NtOk, "extend 1 5": impl.NtRight, "extend 2 5": impl.NtStage, "extend 2 1": impl.NtStage})
	for _, who := range farPersons() {
		checkCodes(t, n, map[string]int{fmt.Sprintf("extend 1 %d", who): impl.NtRight, fmt.Sprintf("extend 2 %d", who): impl.NtStage})
	}
	checkCodes(t, do(t, n, "grant 1>5 #0 d0 0-20"), map[string]int{"extend 1 5": impl.NtOk, "extend 1 4": impl.NtRight})
	checkCodes(t, do(t, n, "tick 5"), map[string]int{"extend 1 1": impl.NtOk})
	checkCodes(t, do(t, n, "tick 6"), map[string]int{"extend 1 1": impl.NtTime, "extend 1 5": impl.NtRight})
	// It need not be open, and the site may be busy, also with this parcel's neighbour.
	checkCodes(t, do(t, n, "extend 1 1; tick 60"), map[string]int{"extend 1 1": impl.NtOk})
	checkCodes(t, do(t, n, "place 2"), map[string]int{"extend 1 1": impl.NtOk, "extend 2 5": impl.NtStage})
	checkCodes(t, do(t, n, "jam 1 0 0"), map[string]int{"extend 1 1": impl.NtOk})
	checkCodes(t, do(t, n, "take 1 1 +0"), map[string]int{"extend 1 1": impl.NtStage})
	checkCodes(t, do(t, n, "extend 1 1 *2"), map[string]int{"extend 1 1": impl.NtTime, "extend 1 5": impl.NtRight})
	checkCodes(t, crowd(t), map[string]int{"extend 4 4": impl.NtStage, "extend 5 5": impl.NtStage, "extend 2 2": impl.NtStage, "extend 3 3": impl.NtStage, "extend 7 7": impl.NtStage, "extend 8 8": impl.NtStage, "extend 6 6": impl.NtOk})
	// So late that there is a deadline, but none for one more extension.
	late := do(t, town(), "announce 1 3 0; load 1; tick 19989; place 1; step 0 *6")
	checkCodes(t, late, map[string]int{"extend 1 1": impl.NtOk})
	later := do(t, town(), "announce 1 3 0; load 1; tick 19990; place 1; step 0 *6")
	checkCodes(t, later, map[string]int{"extend 1 1": impl.NtTime})
	checkCodes(t, do(t, late, "extend 1 1"), map[string]int{"extend 1 1": impl.NtTime})
}

func TestGrantAndRevokeRefused(t *testing.T) {
	n := town()
	for count := range 31 {
		end := impl.NtOk
		if count == 30 {
			end = impl.NtFull
		}
		checkCodes(t, n, map[string]int{"grant 1>2 #0 d0 0-9": end, "grant 40>39 #999 d5 19999-20000": end, "grant 1>2 #0 d0 0-9 off": impl.NtBad, "grant 1>1 #0 d0 0-9": impl.NtBad})
		checkCodes(t, n, each("revoke %d", impl.NtNone, -1, count, count+1))
		if count < 30 {
			n = do(t, n, "grant 1>2 #0 d0 0-9")
		}
		checkCodes(t, n, each("revoke %d", impl.NtOk, 0, max(0, count-1)))
	}
	for _, g := range badGrants() {
		for _, list := range [][]impl.Grant{nil, n.Grants} {
			n.Grants = list
			refuse(t, n, impl.Command{Kind: impl.CmGrant, Grant: g}, impl.NtBad)
		}
	}
	for _, g := range goodGrants() {
		n.Grants = n.Grants[:7]
		if g.Off {
			refuse(t, n, impl.Command{Kind: impl.CmGrant, Grant: g, A: -1, B: -1, C: -1, Code: "x"}, impl.NtBad)
		} else if after, code := impl.Apply(n, impl.Command{Kind: impl.CmGrant, Grant: g, A: -1, B: -1, C: -1, Code: "x"}); code != impl.NtOk || !slices.Equal(after.Grants, append(slices.Clone(n.Grants), g)) {
			t.Errorf("the grant %+v: %d, %+v", g, code, after)
		}
	}
	n = do(t, town(), "grant 1>2 #0 d0 0-9; grant 1>3 #0 d0 0-9; revoke 0")
	checkCodes(t, n, map[string]int{"revoke 0": impl.NtStage, "revoke 1": impl.NtOk, "revoke 2": impl.NtNone, "revoke -1": impl.NtNone})
}

func TestTickRefused(t *testing.T) {
	for now, last := range map[int]int{0: 20000, 1: 19999, 19998: 2, 19999: 1} {
		n := town()
		n.Now = now
		checkCodes(t, n, each("tick %d", impl.NtBad, 0, -1, -2, -20000, -now, math.MinInt, math.MinInt+1))
		checkCodes(t, n, each("tick %d", impl.NtTime, last+1, last+2, 20001, 1<<32, 1<<32+1, math.MaxInt, math.MaxInt-1, math.MaxInt-now))
		checkCodes(t, n, each("tick %d", impl.NtOk, 1, last))
		if end := do(t, n, fmt.Sprintf("tick %d", last)); end.Now != 20000 {
			t.Error("the last time:", end.Now)
		}
	}
	n := town()
	n.Now = 20000
	checkCodes(t, n, map[string]int{"tick 1": impl.NtTime, "tick 2": impl.NtTime, "tick 0": impl.NtBad, "tick -1": impl.NtBad})
}

func TestJamRefused(t *testing.T) {
	// The parcel at the door of the site 0 is in the lowest unit of its first column, and the one of the site 1 in three of them.
	n := crowd(t)
	for _, unit := range []int{0, 1, 2} {
		checkCodes(t, n, each("jam 1 0 %d", impl.NtBusy, unit))
	}
	checkCodes(t, n, map[string]int{"jam 0 0 0": impl.NtBusy, "jam 0 0 1": impl.NtOk, "jam 0 1 0": impl.NtOk, "jam 0 1 1": impl.NtOk, "jam 0 1 2": impl.NtOk, "jam 1 0 3": impl.NtOk, "jam 2 0 2": impl.NtBusy, "jam 2 0 3": impl.NtBusy, "jam 2 0 1": impl.NtOk, "jam 2 0 4": impl.NtOk})
	// Whatever unit of it is named, the whole box is jammed, or free again, with a parcel or without one.
	still := calm(t)
	for site, s := range still.Sites {
		for column, c := range s.Bank {
			for i, b := range c.Boxes {
				for unit := b.Low; unit < b.Low+b.Size; unit++ {
					after := do(t, still, fmt.Sprintf("jam %d %d %d", site, column, unit))
					want := cloneNetwork(still)
					want.Sites[site].Bank[column].Boxes[i].Jammed = !b.Jammed
					again := do(t, after, fmt.Sprintf("jam %d %d %d", site, column, b.Low))
					if !sameNetwork(after, want) || !sameNetwork(again, still) {
						t.Errorf("the unit %d of the column %d at %d: %+v", unit, column, site, after)
					}
				}
			}
		}
	}
}
