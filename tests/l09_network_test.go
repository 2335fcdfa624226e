package tests

import (
	"fmt"
	"math"
	"slices"
	"strconv"
	"strings"
	"testing"

	"loop.example/g03318/impl"
)

// commandWords has the words for the kinds of commands, by their numbers.
var commandWords = []string{"", "announce", "load", "place", "take", "fetch", "step", "relent", "cut", "hand", "recover", "inspect", "extend", "grant", "revoke", "tick", "sync", "jam"}

// command reads a command: the word of its kind and then A, B and C, as in "announce 1 2 0" (a person, a size and a site);
// for a parcel that is taken, the third one is the code, as in "take 1 2 394886"; and a grant is written as grant reads it.
func command(text string) impl.Command {
	f := strings.Fields(text)
	c := impl.Command{Kind: slices.Index(commandWords, f[0])}
	switch c.Kind {
	case -1:
		panic("no command: " + text)
	case impl.CmGrant:
		c.Grant = grant(strings.Join(f[1:], " "))
		return c
	case impl.CmTake:
		c.Code, f = f[3], f[:3]
	}
	for i, number := range []*int{&c.A, &c.B, &c.C} {
		if i+1 < len(f) {
			n, err := strconv.Atoi(f[i+1])
			if err != nil {
				panic("no command: " + text)
			}
			*number = n
		}
	}
	return c
}

// secretBy returns the secret of a parcel by the rule.
func secretBy(secret int, parcel int) int { return (secret+7919*parcel)%2147483646 + 1 }

// commandFor reads a command in which the code "+2" stands for the code that is two behind the next one of the lock.
func commandFor(n impl.Network, text string) impl.Command {
	c := command(text)
	if behind, ok := strings.CutPrefix(c.Code, "+"); ok {
		more, err := strconv.Atoi(behind)
		if err != nil {
			panic("no command: " + text)
		}
		c.Code = codeBy(secretBy(n.Secret, c.A), n.Parcels[c.A-1].Lock.Next+more)
	}
	return c
}

// parts reads texts with semicolons between them, each with how often it comes if that is not once, as in "load 1; step 0 *6".
func parts(text string) []string {
	list := []string{}
	for one := range strings.SplitSeq(text, ";") {
		one, often, more := strings.Cut(strings.TrimSpace(one), " *")
		times := 1
		if more {
			times, _ = strconv.Atoi(often)
		}
		if one != "" {
			list = append(list, slices.Repeat([]string{one}, times)...)
		}
	}
	return list
}

// do performs commands of which none is refused.
func do(t *testing.T, n impl.Network, text string) impl.Network {
	t.Helper()
	for _, one := range parts(text) {
		after, code := impl.Apply(n, commandFor(n, one))
		if code != impl.NtOk {
			t.Fatalf("%s in %s: %d\n%+v", one, text, code, n)
		}
		checkSound(t, after)
		n = after
	}
	return n
}

// refuse checks that a command is refused with this code and changes nothing.
func refuse(t *testing.T, n impl.Network, c impl.Command, code int) {
	t.Helper()
	before := cloneNetwork(n)
	after, got := impl.Apply(n, c)
	if got != code {
		t.Errorf("the code for %+v is %d and not %d\n%+v", c, got, code, n)
	}
	if !sameNetwork(after, before) || !sameNetwork(n, before) {
		t.Errorf("%+v is refused, but changes the network\n%+v\n%+v", c, before, after)
	}
}

// show returns a text that tells all of a network.
func show(n impl.Network) string { return fmt.Sprintf("%+v", n) }

// sameNetwork reports whether two networks are equal.
func sameNetwork(a, b impl.Network) bool {
	sameSite := func(x, y impl.Site) bool {
		return slices.Equal(x.Week.Open, y.Week.Open) && slices.Equal(x.Week.Closed, y.Week.Closed) && sameBank(x.Bank, y.Bank) &&
			x.Door == y.Door && x.Parcel == y.Parcel && x.Who == y.Who && slices.Equal(x.Journal, y.Journal)
	}
	return a.Terms == b.Terms && a.Room == b.Room && a.Secret == b.Secret && a.Now == b.Now && slices.EqualFunc(a.Sites, b.Sites, sameSite) &&
		slices.Equal(a.Parcels, b.Parcels) && slices.Equal(a.Grants, b.Grants) && slices.Equal(a.Journal, b.Journal)
}

// cloneNetwork returns a copy that shares no memory with n.
func cloneNetwork(n impl.Network) impl.Network {
	n.Sites = slices.Clone(n.Sites)
	for i := range n.Sites {
		s := &n.Sites[i]
		s.Week.Open, s.Week.Closed = slices.Clone(s.Week.Open), slices.Clone(s.Week.Closed)
		s.Bank, s.Journal = slices.Clone(s.Bank), slices.Clone(s.Journal)
		for k := range s.Bank {
			s.Bank[k] = copyOf(s.Bank[k])
		}
	}
	n.Parcels, n.Grants, n.Journal = slices.Clone(n.Parcels), slices.Clone(n.Grants), slices.Clone(n.Journal)
	return n
}

// checkSound checks what holds after each command to a network that was once a new one: it is valid, its ledger is right, and every parcel is
// in exactly one place.
func checkSound(t *testing.T, n impl.Network) {
	t.Helper()
	if !impl.NetworkOk(n) {
		t.Errorf("the network is not valid: %+v", n)
	}
	if !impl.LedgerOk(n) {
		t.Errorf("the ledger is wrong: %+v", n)
	}
	for i, p := range n.Parcels {
		places := 0
		for site, s := range n.Sites {
			for _, c := range s.Bank {
				for _, b := range c.Boxes {
					if b.Parcel != i+1 {
						continue
					}
					places++
					if site != p.Site || b.Size != p.Size || p.Stage != impl.StDoor && p.Stage != impl.StBox {
						t.Errorf("the parcel %d is in a box: %+v", i+1, n)
					}
				}
			}
			if (s.Parcel == i+1) != (p.Stage == impl.StDoor && p.Site == site) {
				t.Errorf("the parcel %d is not at the door, or is there: %+v", i+1, n)
			}
		}
		if slices.Contains([]int{impl.StHub, impl.StVan, impl.StTaken, impl.StBack}, p.Stage) {
			places++
		}
		if places != 1 {
			t.Errorf("the parcel %d is in %d places: %+v", i+1, places, n)
		}
	}
}

// brief are the terms of most networks here.
const brief = "keep 5 free 4 step 3 rate 5 cap 100 longer 6 price 2 most 2"

// town returns a new network with three sites. The first and the last one are always open, the second one from 8 to 18 on its first day. Their
// banks have gaps of the sizes 4, 2 and 4; 3 and 2; and 24.
func town() impl.Network {
	weeks := []impl.Week{weekOf("always"), weekOf("day"), weekOf("always")}
	banks := [][]impl.Column{
		{columnWith(nil, [2]int{4, 0}), columnWith([]int{2}, [2]int{2, 0}, [2]int{4, 0})},
		splitBank(3, 2),
		splitBank(24),
	}
	n, ok := impl.NewNetwork(termsOf(brief), 12, 1000, weeks, banks)
	if !ok {
		panic("no network")
	}
	return n
}

// crowd returns a network in which parcels are in all places: 1 in a box, 2 at a door to be put in, 3 at a door to be taken by the person 9,
// 4 at the hub, 5 in the van, 6 in a box that is jammed, 7 taken, 8 back, and 9 at a door to be fetched.
func crowd(t *testing.T) impl.Network {
	t.Helper()
	return do(t, town(), `announce 1 2 0; announce 2 1 0; announce 3 3 1; announce 4 2 2; announce 5 2 2; announce 6 6 2; announce 7 1 2; announce 8 1 2; announce 1 2 2;
		load 8; load 7; load 1; load 3; load 9; place 8; step 2 *6; place 7; step 2 *6; place 1; step 0 *6; place 9; step 2 *6; sync 2;
		grant 3>9 #3 d0 0-9; grant 1>2 #0 d5 0-20000; revoke 1; load 6; place 6; step 2 *6; jam 2 0 5; extend 6 6; tick 6; fetch 8; step 2 *6; take 7 7 +0; step 2 *6; sync 2;
		tick 2; place 3; step 1 *6; take 3 9 +2; step 1 *3; fetch 9; step 2; cut 2; load 2; place 2; step 0 *2; load 5`)
}

// where returns where all parcels are.
func where(n impl.Network) string {
	list := []string{}
	for i := range n.Parcels {
		list = append(list, impl.WhereIs(n, i+1))
	}
	return strings.Join(list, ", ")
}

func TestConstantsOfChapter9(t *testing.T) {
	for i, c := range []struct {
		got, want []int
	}{
		{[]int{impl.MaxSites, impl.MaxParcels, impl.MaxCommands}, []int{3, 12, 100}},
		{[]int{impl.StHub, impl.StVan, impl.StDoor, impl.StBox, impl.StTaken, impl.StBack}, []int{0, 1, 2, 3, 4, 5}},
		{[]int{impl.CmAnnounce, impl.CmLoad, impl.CmPlace, impl.CmTake, impl.CmFetch, impl.CmStep, impl.CmRelent, impl.CmCut, impl.CmHand}, []int{1, 2, 3, 4, 5, 6, 7, 8, 9}},
		{[]int{impl.CmRecover, impl.CmInspect, impl.CmExtend, impl.CmGrant, impl.CmRevoke, impl.CmTick, impl.CmSync, impl.CmJam}, []int{10, 11, 12, 13, 14, 15, 16, 17}},
		{[]int{impl.NtOk, impl.NtBad, impl.NtNone, impl.NtStage, impl.NtBusy, impl.NtTime, impl.NtRight, impl.NtJam, impl.NtRoom, impl.NtCode, impl.NtFull}, []int{0, 1, 2, 3, 4, 5, 6, 7, 8, 9, 10}},
	} {
		if !slices.Equal(c.got, c.want) {
			t.Error("unexpected constants", i, c.got)
		}
	}
}

func TestNtName(t *testing.T) {
	names := []string{"ok", "bad", "none", "stage", "busy", "time", "right", "jam", "room", "code", "full"}
	for code, want := range names {
		if got := impl.NtName(code); got != want {
			t.Errorf("NtName(%d): %q", code, got)
		}
	}
	for _, code := range []int{-1, -2, 11, 12, 17, 256, 1 << 32, 1<<32 + 1, -1 << 32, math.MinInt, math.MaxInt} {
		if got := impl.NtName(code); got != "" {
			t.Errorf("NtName(%d): %q", code, got)
		}
	}
}

func TestSecretOf(t *testing.T) {
	for _, c := range []struct{ secret, parcel, want int }{
		{1, 1, 7921}, {1, 12, 95030}, {1000, 2, 16839}, {1000, 3, 24758},
		{2147475726, 1, 2147483646}, {2147475727, 1, 1}, {2147475728, 1, 2}, {2147467807, 2, 2147483646}, {2147467808, 2, 1},
		{2147483646, 1, 7920}, {2147483646, 12, 95029}, {2147483645, 12, 95028},
		{0, 1, 0}, {-1, 1, 0}, {-7919, 1, 0}, {2147483647, 1, 0}, {math.MinInt, 1, 0}, {math.MaxInt, 1, 0}, {math.MaxInt, 12, 0},
		{1, 0, 0}, {1, 13, 0}, {1, -1, 0}, {1, 1<<32 + 1, 0}, {1, math.MinInt, 0}, {1, math.MaxInt, 0}, {0, 0, 0},
	} {
		if got := impl.SecretOf(impl.Network{Secret: c.secret}, c.parcel); got != c.want {
			t.Errorf("SecretOf for %d and %d: %d", c.secret, c.parcel, got)
		}
	}
	// It does not matter whether there is such a parcel.
	n := crowd(t)
	for parcel := 1; parcel <= 12; parcel++ {
		if got := impl.SecretOf(n, parcel); got != 1001+7919*parcel {
			t.Errorf("SecretOf for %d: %d", parcel, got)
		}
	}
}

func TestNewNetwork(t *testing.T) {
	week, bank := weekOf("day"), splitBank(3, 2)
	for sites := range 6 {
		for banks := range 6 {
			n, ok := impl.NewNetwork(termsOf(brief), 10, 5, slices.Repeat([]impl.Week{week}, sites), slices.Repeat([][]impl.Column{bank}, banks))
			want := impl.Network{}
			if sites == banks && sites >= 1 && sites <= 3 {
				want = impl.Network{Terms: termsOf(brief), Room: 10, Secret: 5, Sites: slices.Repeat([]impl.Site{{Week: week, Bank: bank}}, sites)}
			}
			if ok != (len(want.Sites) > 0) || !sameNetwork(n, want) {
				t.Errorf("the new network with %d weeks and %d banks: %+v, %v", sites, banks, n, ok)
			}
		}
	}
}

func TestNewNetworkOfManyParts(t *testing.T) {
	terms := termsOf(brief)
	weeks := []impl.Week{weekOf("day"), weekOf("holiday"), weekOf("never")}
	jammed := columnWith([]int{2, 3}, [2]int{2, -1}, [2]int{1, 0}, [2]int{7, -1})
	banks := [][]impl.Column{splitBank(24), splitBank(10, 14, 2, 3), {jammed, jammed}}
	check := func(m impl.Terms, room int, secret int, weeks []impl.Week, banks [][]impl.Column, want bool) {
		t.Helper()
		n, ok := impl.NewNetwork(m, room, secret, weeks, banks)
		sites := []impl.Site{}
		for i, w := range weeks {
			if want {
				sites = append(sites, impl.Site{Week: w, Bank: banks[i]})
			}
		}
		if ok != want || !want && !sameNetwork(n, impl.Network{}) || want && !sameNetwork(n, impl.Network{Terms: m, Room: room, Secret: secret, Sites: sites}) {
			t.Errorf("NewNetwork for %v, %d, %d, %v, %v: %+v, %v", m, room, secret, weeks, banks, n, ok)
		}
	}
	check(terms, 0, 1, weeks, banks, true)
	check(terms, 1000, 2147483646, weeks, banks, true)
	for _, m := range goodTerms() {
		check(m, 10, 5, weeks, banks, true)
	}
	for _, m := range badTerms() {
		check(m, 10, 5, weeks, banks, false)
	}
	for _, room := range []int{-1, 1001, 1<<32 + 1, math.MinInt, math.MaxInt} {
		check(terms, room, 5, weeks, banks, false)
	}
	for _, secret := range []int{0, -1, 2147483647, 1<<32 + 1, math.MinInt, math.MaxInt} {
		check(terms, 10, secret, weeks, banks, false)
	}
	for i := range weeks {
		for _, w := range badWeeks() {
			list := slices.Clone(weeks)
			list[i] = w
			check(terms, 10, 5, list, banks, false)
		}
		for _, bank := range append(badBanks(), []impl.Column{columnWith(nil, [2]int{2, 1}, [2]int{2, 0})}, []impl.Column{columnWith(nil, [2]int{1, 999})}) {
			list := slices.Clone(banks)
			list[i] = bank
			check(terms, 10, 5, weeks, list, false)
		}
	}
	check(terms, 10, 5, nil, nil, false)
	check(terms, 10, 5, weeks, nil, false)
	check(terms, 10, 5, nil, banks, false)
}

// lives has commands to the network town, where all parcels are then, and the sum of the fees.
var lives = []struct {
	commands, where string
	fees            int
}{
	{"", "", 0},
	{"announce 1 2 0", "hub", 0},
	{"announce 1 2 0; load 1", "van", 0},
	{"announce 1 2 0; load 1; place 1", "door 0", 0},
	{"announce 1 2 0; load 1; place 1; step 0 *5", "door 0", 0},
	// The least gap that is enough, of several the first one; and the site need not be the first one.
	{"announce 1 2 0; load 1; place 1; step 0 *6", "box 0 1 0", 0},
	{"announce 1 3 0; load 1; place 1; step 0 *6", "box 0 0 0", 0},
	{"announce 1 3 0; announce 1 3 0; announce 1 1 0; load 1; load 2; load 3; place 1; step 0 *6; place 2; step 0 *6; place 3; step 0 *6", "box 0 0 0, box 0 1 2, box 0 0 3", 0},
	{"announce 40 24 2", "hub", 0},
	{"announce 1 1 2; announce 1 1 2; load 2; place 2; step 2 *6; load 1; place 1; step 2 *6", "box 2 0 1, box 2 0 0", 0},
	{"announce 1 2 1; load 1; tick 8; place 1; step 1 *6", "box 1 0 3", 0},
	// Steps go on when it is shut, and parcels are at the doors of two sites at a time.
	{"announce 1 2 1; announce 2 2 0; load 1; load 2; tick 17; place 1; place 2; tick 100; step 1 *6", "box 1 0 3, door 0", 0},
	// Taken by the owner: nothing for four hours, then 10 for three each, and not more than 100.
	{"announce 1 2 0; load 1; place 1; step 0 *6; take 1 1 +0", "door 0", 0},
	{"announce 1 2 0; load 1; place 1; step 0 *6; take 1 1 +0; step 0 *6", "taken 1", 0},
	{"announce 1 2 0; load 1; place 1; step 0 *6; tick 4; take 1 1 +0; step 0 *6", "taken 1", 0},
	{"announce 1 2 0; load 1; place 1; step 0 *6; tick 5; take 1 1 +0; step 0 *6", "taken 1", 10},
	{"announce 1 2 0; load 1; place 1; step 0 *6; tick 7; take 1 1 +4; step 0 *6", "taken 1", 10},
	{"announce 1 2 0; load 1; place 1; step 0 *6; tick 8; take 1 1 +4; step 0 *6", "taken 1", 20},
	{"announce 1 2 0; load 1; place 1; step 0 *6; tick 5000; take 1 1 +0; step 0 *6", "taken 1", 100},
	// It is taken when the operation is settled, and the fee is that of this time; it was placed when that was settled.
	{"announce 1 2 0; load 1; place 1; step 0 *6; tick 4; take 1 1 +0; step 0 *5; tick 1; step 0", "taken 1", 10},
	{"announce 1 2 0; load 1; place 1; step 0 *5; tick 90; step 0; tick 4; take 1 1 +0; step 0 *6", "taken 1", 0},
	// Only open hours count.
	{"announce 1 2 1; load 1; tick 10; place 1; step 1 *6; tick 167; take 1 1 +0; step 1 *6", "taken 1", 20},
	// Taken by others, to whom the right was handed on.
	{"announce 1 2 0; load 1; place 1; step 0 *6; grant 1>2 #1 d0 0-9; take 1 2 +0; step 0 *6", "taken 2", 0},
	{"announce 1 2 0; load 1; place 1; step 0 *6; grant 1>2 #0 d0 0-9; tick 8; take 1 2 +0; step 0 *6", "taken 2", 20},
	{"grant 2>40 #0 d0 0-9; grant 1>2 #0 d1 0-9; announce 1 2 0; load 1; place 1; step 0 *6; take 1 40 +1; step 0 *6", "taken 40", 0},
	// The owner may take it beside them, and whoever began may go on when the right has ended.
	{"announce 1 2 0; load 1; place 1; step 0 *6; grant 1>2 #1 d0 0-9; take 1 1 +0; step 0 *6", "taken 1", 0},
	{"announce 1 2 0; load 1; place 1; step 0 *6; grant 1>2 #1 d0 0-9; take 1 2 +0; revoke 0; tick 10; step 0 *6", "taken 2", 20},
	// Extensions move the deadline, which is not for the owner, and cost 2 each.
	{"announce 1 2 0; load 1; place 1; step 0 *6; extend 1 1; take 1 1 +0; step 0 *6", "taken 1", 2},
	{"announce 1 2 0; load 1; place 1; step 0 *6; extend 1 1; tick 11; extend 1 1; tick 6; take 1 1 +0; step 0 *6", "taken 1", 54},
	{"announce 1 2 0; load 1; place 1; step 0 *6; grant 1>2 #1 d0 0-9; extend 1 2; take 1 2 +0; step 0 *6", "taken 2", 2},
	// Fetched, an hour after the deadline or later, and nothing is to be paid.
	{"announce 1 2 0; load 1; place 1; step 0 *6; tick 6; fetch 1", "door 0", 0},
	{"announce 1 2 0; load 1; place 1; step 0 *6; tick 6; fetch 1; step 0 *6", "back", 0},
	{"announce 1 2 0; load 1; place 1; step 0 *6; extend 1 1; tick 12; fetch 1; tick 5; step 0 *6", "back", 0},
	// Somebody who changes their mind.
	{"announce 1 2 0; load 1; place 1; step 0 *2; relent 0; step 0 *2", "van", 0},
	{"announce 1 2 0; load 1; place 1; step 0 *3; relent 0 *2; step 0 *2", "van", 0},
	{"announce 1 2 0; load 1; place 1; step 0 *3; relent 0; step 0 *4", "box 0 1 0", 0},
	{"announce 1 2 0; load 1; place 1; step 0; relent 0; step 0 *2; place 1; step 0 *6", "box 0 1 0", 0},
	{"announce 1 2 0; load 1; place 1; step 0 *6; take 1 1 +0; step 0 *3; relent 0 *2; step 0 *2", "box 0 1 0", 0},
	{"announce 1 2 0; load 1; place 1; step 0 *6; take 1 1 +0; step 0; relent 0; step 0 *2; take 1 1 +0; step 0 *6", "taken 1", 0},
	{"announce 1 2 0; load 1; place 1; step 0 *6; tick 6; fetch 1; step 0; relent 0; step 0 *2", "box 0 1 0", 0},
	// Power cuts with recovery, without a fault and with one that does not matter, with acts by hand, and with inspection.
	{"announce 1 2 0; load 1; place 1; cut 0", "door 0", 0},
	{"announce 1 2 0; load 1; place 1; cut 0; recover 0 0 0", "van", 0},
	{"announce 1 2 0; load 1; place 1; step 0 *2; cut 0; recover 0 0 0", "door 0", 0},
	{"announce 1 2 0; load 1; place 1; step 0 *2; cut 0; hand 0 3; recover 0 0 0", "van", 0},
	{"announce 1 2 0; load 1; place 1; step 0 *2; cut 0; hand 0 2; hand 0 3; recover 0 0 0", "box 0 1 0", 0},
	{"announce 1 2 0; load 1; place 1; step 0 *4; cut 0; recover 0 3 2", "box 0 1 0", 0},
	{"announce 1 2 0; load 1; place 1; step 0 *4; cut 0; recover 0 4 1", "door 0", 0},
	{"announce 1 2 0; load 1; place 1; step 0 *4; cut 0; hand 0 1; hand 0 2; hand 0 3; recover 0 1 2", "van", 0},
	{"announce 1 2 0; load 1; place 1; step 0 *3; cut 0; inspect 0", "box 0 1 0", 0},
	{"announce 1 2 0; load 1; place 1; step 0 *2; cut 0; inspect 0", "van", 0},
	{"announce 1 2 0; load 1; place 1; step 0 *6; tick 5; take 1 1 +0; step 0 *3; cut 0; hand 0 3; recover 0 0 0", "taken 1", 10},
	{"announce 1 2 0; load 1; place 1; step 0 *6; tick 5; take 1 1 +0; step 0 *2; cut 0; hand 0 3; recover 0 2 2", "box 0 1 0", 0},
	{"announce 1 2 0; load 1; place 1; step 0 *6; tick 5; take 1 1 +0; step 0 *3; cut 0; tick 3; inspect 0", "taken 1", 20},
	{"announce 1 2 0; load 1; place 1; step 0 *6; tick 6; fetch 1; step 0 *4; cut 0; inspect 0", "back", 0},
	// A parcel leaves its box, and the next one gets the place.
	{"announce 1 24 2; announce 2 24 2; tick 1", "hub, hub", 0},
	{"announce 1 3 1; announce 2 3 1; load 1; load 2; tick 8; place 1; step 1 *6; take 1 1 +0; step 1 *6; place 2; step 1 *6", "taken 1, box 1 0 0", 0},
	{"announce 1 3 1; announce 2 3 1; load 1; load 2; tick 8; place 1; step 1 *2; cut 1; inspect 1; place 2; step 1 *6", "van, box 1 0 0", 0},
	// A jammed box is mended.
	{"announce 1 2 0; load 1; place 1; step 0 *6; jam 0 1 1; jam 0 1 0; take 1 1 +0; step 0 *6", "taken 1", 0},
	{"jam 0 1 1; announce 1 2 0; load 1; place 1; step 0 *6", "box 0 0 0", 0},
}

func TestLivesOfParcels(t *testing.T) {
	for _, c := range lives {
		n := do(t, town(), c.commands)
		if got := where(n); got != c.where {
			t.Errorf("the parcels after %s: %s", c.commands, got)
		}
		if got := impl.FeesOf(n); got != c.fees {
			t.Errorf("the fees after %s: %d", c.commands, got)
		}
	}
}

func TestWhereIs(t *testing.T) {
	n := crowd(t)
	if got := where(n); got != "box 0 1 0, door 0, door 1, hub, van, box 2 0 4, taken 7, back, door 2" {
		t.Error("the parcels of a crowd:", got)
	}
	if got := impl.FeesOf(n); got != 5 {
		t.Error("the fees of a crowd:", got)
	}
	for _, parcel := range append(farNumbers(), 0, 11, 12, 13) {
		if got := impl.WhereIs(n, parcel); got != "" {
			t.Errorf("the parcel %d: %s", parcel, got)
		}
	}
	if impl.WhereIs(town(), 1) != "" || impl.WhereIs(town(), 0) != "" || impl.FeesOf(town()) != 0 {
		t.Error("a network without parcels has some")
	}
	// The fees of all parcels are added.
	for i, p := range n.Parcels {
		if p.Stage == impl.StTaken {
			n.Parcels[i].Fee = 104
		}
	}
	n.Parcels = append(n.Parcels, n.Parcels[6], n.Parcels[6], n.Parcels[6])
	for i := 9; i < 12; i++ {
		n.Parcels[i].Lock.Secret = secretBy(n.Secret, i+1)
		n.Parcels[i].Fee = i
	}
	if got := impl.FeesOf(n); got != 104+9+10+11 || where(n) != "box 0 1 0, door 0, door 1, hub, van, box 2 0 4, taken 7, back, door 2, taken 7, taken 7, taken 7" {
		t.Error("the fees of many parcels:", got)
	}
}

// What a command changes is just what the document says.
func TestChangesOfCommands(t *testing.T) {
	parcel := func(p impl.Parcel, more ...impl.Parcel) []impl.Parcel { return append([]impl.Parcel{p}, more...) }
	lock := impl.Lock{Secret: 8920}
	n := town()
	after := func(text string, change func(n *impl.Network)) {
		t.Helper()
		want := cloneNetwork(n)
		change(&want)
		n = do(t, n, text)
		if !sameNetwork(n, want) {
			t.Errorf("the network after %s is\n%+v\nand not\n%+v", text, n, want)
		}
	}
	after("announce 3 2 2", func(n *impl.Network) { n.Parcels = parcel(impl.Parcel{Size: 2, Owner: 3, Site: 2}) })
	after("load 1", func(n *impl.Network) { n.Parcels[0].Stage = 1 })
	after("tick 7", func(n *impl.Network) { n.Now = 7 })
	after("place 1", func(n *impl.Network) {
		n.Parcels[0].Stage, n.Sites[2].Parcel, n.Sites[2].Door = 2, 1, door("put meant -")
		n.Sites[2].Bank[0] = columnWith(nil, [2]int{2, 1}, [2]int{22, 0})
	})
	after("step 2", func(n *impl.Network) { n.Sites[2].Door = door("put loose L") })
	after("step 2 *2", func(n *impl.Network) { n.Sites[2].Door = door("put moved LOF") })
	after("relent 2", func(n *impl.Network) { n.Sites[2].Door = door("put open LO") })
	after("cut 2", func(n *impl.Network) { n.Sites[2].Door = door("put none LO") })
	after("hand 2 2", func(n *impl.Network) { n.Sites[2].Door = door("put none LOF") })
	after("recover 2 0 0", func(n *impl.Network) {})
	after("hand 2 3", func(n *impl.Network) { n.Sites[2].Door = door("put none LF") })
	after("recover 2 4 1", func(n *impl.Network) {})
	after("tick 2", func(n *impl.Network) { n.Now = 9 })
	after("recover 2 1 2", func(n *impl.Network) {
		n.Parcels[0] = impl.Parcel{Size: 2, Owner: 3, Site: 2, Stage: 3, Since: 9, Lock: lock}
		n.Sites[2].Parcel, n.Sites[2].Door, n.Sites[2].Journal = 0, impl.Door{}, journal("2.1@1 placed 1 2 9")
	})
	after("grant 3>4 #1 d2 5-90", func(n *impl.Network) { n.Grants = grants("3>4 #1 d2 5-90") })
	after("grant 4>5 #0 d0 0-9", func(n *impl.Network) { n.Grants = grants("3>4 #1 d2 5-90", "4>5 #0 d0 0-9") })
	after("revoke 1", func(n *impl.Network) { n.Grants[1].Off = true })
	after("extend 1 4", func(n *impl.Network) {
		n.Parcels[0].Extended = 1
		n.Sites[2].Journal = journal("2.1@1 placed 1 2 9, 2.2@2 extended 1")
	})
	after("sync 2", func(n *impl.Network) { n.Journal = journal("2.1@1 placed 1 2 9, 2.2@2 extended 1") })
	after("jam 2 0 23", func(n *impl.Network) { n.Sites[2].Bank[0].Boxes[1].Jammed = true })
	after("take 1 4 +3", func(n *impl.Network) {
		n.Parcels[0].Stage, n.Parcels[0].Lock.Next = 2, 4
		n.Sites[2].Parcel, n.Sites[2].Who, n.Sites[2].Door = 1, 4, door("take meant F")
	})
	after("step 2 *5; tick 10", func(n *impl.Network) { n.Sites[2].Door, n.Now = door("take fast -"), 19 })
	after("step 2", func(n *impl.Network) {
		n.Parcels[0].Stage, n.Parcels[0].Who, n.Parcels[0].Fee = 4, 4, 22
		n.Sites[2].Parcel, n.Sites[2].Who, n.Sites[2].Door = 0, 0, impl.Door{}
		n.Sites[2].Bank[0].Boxes[0].Parcel = 0
		n.Sites[2].Journal = journal("2.1@1 placed 1 2 9, 2.2@2 extended 1, 2.3@3 taken 1 4 19")
	})
	after("sync 0", func(n *impl.Network) { n.Sites[0].Journal = n.Journal })
	after("announce 8 1 0; load 2; place 2; step 0 *6", func(n *impl.Network) {
		n.Parcels = append(n.Parcels, impl.Parcel{Size: 1, Owner: 8, Stage: 3, Since: 19, Lock: impl.Lock{Secret: 16839}})
		n.Sites[0].Bank[1].Boxes = []impl.Box{{Size: 1, Parcel: 2}, {Low: 1, Size: 1}, {Low: 2, Size: 4}}
		n.Sites[0].Journal = journal("0.1@3 placed 2 0 19, 2.1@1 placed 1 2 9, 2.2@2 extended 1")
	})
	after("tick 6; fetch 2", func(n *impl.Network) {
		n.Now, n.Parcels[1].Stage, n.Sites[0].Parcel, n.Sites[0].Door = 25, 2, 2, door("take meant F")
	})
	after("step 0 *6", func(n *impl.Network) {
		n.Parcels[1].Stage, n.Sites[0].Parcel, n.Sites[0].Door, n.Sites[0].Bank[1].Boxes[0].Parcel = 5, 0, impl.Door{}, 0
		n.Sites[0].Journal = journal("0.1@3 placed 2 0 19, 0.2@4 fetched 2 0 25, 2.1@1 placed 1 2 9, 2.2@2 extended 1")
	})
	all := journal("0.1@3 placed 2 0 19, 0.2@4 fetched 2 0 25, 2.1@1 placed 1 2 9, 2.2@2 extended 1, 2.3@3 taken 1 4 19")
	after("sync 2; sync 0; sync 1; sync 2", func(n *impl.Network) {
		n.Journal, n.Sites[0].Journal, n.Sites[1].Journal, n.Sites[2].Journal = all, all, all, all
	})
}

// Codes are used up; a wrong one is counted, and after three of them, the lock waits.
func TestCodesOfTheNetwork(t *testing.T) {
	n := do(t, town(), "announce 1 2 0; announce 1 2 2; load 1; load 2; place 1; step 0 *6; place 2; step 2 *6; tick 1")
	try := func(text string, code int, lock impl.Lock) {
		t.Helper()
		want := cloneNetwork(n)
		want.Parcels[0].Lock = lock
		after, got := impl.Apply(n, commandFor(n, text))
		if got != code || code == impl.NtCode && !sameNetwork(after, want) || after.Parcels[0].Lock != lock {
			t.Errorf("%s: %d, %+v", text, got, after)
		}
		checkSound(t, after)
		n = after
	}
	lock := impl.Lock{Secret: 8920}
	change := func(next int, tries int, pauses int, until int) impl.Lock {
		lock.Next, lock.Tries, lock.Pauses, lock.Until = next, tries, pauses, until
		return lock
	}
	try("take 1 1 +5", impl.NtCode, change(0, 1, 0, 0))
	try("take 1 1 000000", impl.NtCode, change(0, 2, 0, 0))
	try("take 1 1 +4", impl.NtOk, change(5, 0, 0, 0))
	n = do(t, n, "step 0; relent 0; step 0 *2")
	// The codes that were shown before are of no use now, and one of another parcel's lock is none.
	for range 2 {
		try("take 1 1 "+codeBy(secretBy(1000, 1), 4), impl.NtCode, change(5, 1, lock.Pauses, lock.Until))
		try("take 1 1 "+codeBy(secretBy(1000, 2), 0), impl.NtCode, change(5, 2, lock.Pauses, lock.Until))
		try("take 1 1 "+codeBy(secretBy(1000, 1), 0), impl.NtCode, change(5, 0, lock.Pauses+1, n.Now+1<<lock.Pauses))
		// As long as the pause lasts, not even the right code is heard.
		for n.Now < lock.Until {
			try("take 1 1 +0", impl.NtCode, lock)
			try("take 1 1 000000", impl.NtCode, lock)
			n = do(t, n, "tick 1")
		}
	}
	try("take 1 1 x", impl.NtCode, change(5, 1, 2, 4))
	try("take 1 1 +0", impl.NtOk, change(6, 0, 0, 4))
	n = do(t, n, "step 0 *6; tick 1; take 2 1 +4; step 2 *6")
	if where(n) != "taken 1, taken 1" || n.Parcels[0].Lock != lock {
		t.Error("unexpected network", where(n), n.Parcels)
	}
}

func TestTextsThatAreNoCodes(t *testing.T) {
	n := do(t, town(), "announce 1 2 0; load 1; place 1; step 0 *6")
	for _, text := range append(badCodes(), strings.Repeat("9", 5000), "８９２０", "+0", "-1", "1e5", " "+codeBy(8920, 0), codeBy(8920, 0)+"\n", codeBy(8920, 0)[:5]) {
		after, code := impl.Apply(n, impl.Command{Kind: impl.CmTake, A: 1, B: 1, Code: text})
		want := cloneNetwork(n)
		want.Parcels[0].Lock.Tries = 1
		if code != impl.NtCode || !sameNetwork(after, want) {
			t.Errorf("the code %q: %d, %+v", text, code, after)
		}
	}
	// Where the counts have ended, no code opens, and an empty one does not either.
	n.Parcels[0].Lock.Next = 1000001
	for _, text := range []string{"", codeBy(8920, 1000000), codeBy(8920, 1000001)} {
		if after, code := impl.Apply(n, impl.Command{Kind: impl.CmTake, A: 1, B: 1, Code: text}); code != impl.NtCode || after.Parcels[0].Lock.Tries != 1 {
			t.Errorf("the code %q at the end: %d, %+v", text, code, after)
		}
	}
	n.Parcels[0].Lock.Next = 999998
	if after, code := impl.Apply(n, commandFor(n, "take 1 1 +2")); code != impl.NtOk || after.Parcels[0].Lock.Next != 1000001 {
		t.Errorf("the last code: %d, %+v", code, after)
	}
}

func TestRunNetwork(t *testing.T) {
	n := town()
	list := []impl.Command{}
	for _, one := range parts("announce 1 2 0; load 2; load 1; step 0; place 1; place 1; step 0 *5; fetch 1; step 0 *2; tick 0; tick 5; revoke 0; take 1 2 1; take 1 1 1") {
		list = append(list, command(one))
	}
	list = append(list, impl.Command{}, command("announce 2 1 1"))
	codes := []int{0, 2, 0, 3, 0, 3, 0, 0, 0, 0, 0, 3, 0, 3, 1, 0, 2, 6, 9, 1, 0}
	after, got := impl.RunNetwork(n, list)
	if !slices.Equal(got, codes) || where(after) != "box 0 1 0, hub" || after.Parcels[0].Lock.Tries != 1 || after.Now != 5 {
		t.Errorf("many commands: %v, %+v", got, after)
	}
	// It is the same as one command after the other.
	for i, c := range list {
		before := n
		one, code := impl.Apply(n, c)
		first, some := impl.RunNetwork(town(), list[:i+1])
		last, single := impl.RunNetwork(before, list[i:i+1])
		n = one
		if code != codes[i] || !slices.Equal(some, codes[:i+1]) || !slices.Equal(single, codes[i:i+1]) || !sameNetwork(first, one) || !sameNetwork(last, one) {
			t.Errorf("the commands up to %d: %v, %v, %+v, %+v", i, some, single, first, last)
		}
		checkSound(t, n)
	}
	if !sameNetwork(n, after) {
		t.Errorf("the commands one after the other: %+v", n)
	}
}

func TestRunNetworkWithManyCommands(t *testing.T) {
	n := crowd(t)
	for _, count := range []int{0, 1, 2, 99, 100, 101, 102, 1000, 5000} {
		after, codes := impl.RunNetwork(n, slices.Repeat([]impl.Command{command("tick 1")}, count))
		want := cloneNetwork(n)
		if count <= 100 {
			want.Now += count
			if len(codes) != count || slices.ContainsFunc(codes, func(code int) bool { return code != impl.NtOk }) {
				t.Errorf("%d commands: %v", count, codes)
			}
		} else if len(codes) != 0 {
			t.Errorf("%d commands: %v", count, codes)
		}
		if !sameNetwork(after, want) {
			t.Errorf("the network after %d commands: %+v", count, after)
		}
		_, codes = impl.RunNetwork(n, make([]impl.Command, count))
		if count <= 100 && !slices.Equal(codes, slices.Repeat([]int{impl.NtBad}, count)) || count > 100 && len(codes) != 0 {
			t.Errorf("%d bad commands: %v", count, codes)
		}
	}
	if after, codes := impl.RunNetwork(n, nil); len(codes) != 0 || !sameNetwork(after, n) {
		t.Error("no commands:", codes, after)
	}
}
