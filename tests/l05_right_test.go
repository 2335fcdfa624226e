package tests

import (
	"fmt"
	"math"
	"slices"
	"strings"
	"testing"

	"loop.example/g03318/impl"
)

// grant reads a grant from its persons, its parcel, its depth, its times and the word off, such as "1>2 #5 d1 0-12 off".
func grant(text string) impl.Grant {
	g := impl.Grant{Off: strings.HasSuffix(text, " off")}
	_, err := fmt.Sscanf(strings.TrimSuffix(text, " off"), "%d>%d #%d d%d %d-%d", &g.From, &g.To, &g.Parcel, &g.Depth, &g.Start, &g.End)
	if err != nil {
		panic("no grant: " + text)
	}
	return g
}

// grants reads a list of grants.
func grants(texts ...string) []impl.Grant {
	list := []impl.Grant{}
	for _, text := range texts {
		list = append(list, grant(text))
	}
	return list
}

// sameGrants returns a list with the same grant so many times.
func sameGrants(n int, text string) []impl.Grant {
	return slices.Repeat(grants(text), n)
}

// goodGrants returns valid grants, some of them at the ends of the ranges.
func goodGrants() []impl.Grant {
	return grants(
		"1>2 #0 d0 0-1", "2>1 #0 d0 0-1", "1>40 #1 d1 0-20000", "40>1 #999 d5 19999-20000", "39>40 #998 d4 1-2",
		"7>3 #5 d2 100-168", "7>3 #5 d2 100-168 off", "40>39 #0 d5 0-20000 off", "20>21 #500 d3 10000-10001",
	)
}

// badGrants returns grants of which one field is out of its range or does not agree with another one, or all are.
func badGrants() []impl.Grant {
	list := []impl.Grant{{}, {Off: true}}
	add := func(set func(g *impl.Grant, n int), values ...int) {
		for _, n := range append(values, -1, -2, math.MinInt, math.MinInt+1, math.MaxInt, math.MaxInt-1, 1<<32, 1<<32+1) {
			for _, off := range []bool{false, true} {
				g := grant("7>3 #5 d2 100-168")
				g.Off = off
				set(&g, n)
				list = append(list, g)
			}
		}
	}
	add(func(g *impl.Grant, n int) { g.From = n }, 0, 3, 41, 1000)
	add(func(g *impl.Grant, n int) { g.To = n }, 0, 7, 41, 1000)
	add(func(g *impl.Grant, n int) { g.From, g.To = n, n }, 0, 1, 7, 40, 41)
	add(func(g *impl.Grant, n int) { g.Parcel = n }, 1000, 1001, 20000)
	add(func(g *impl.Grant, n int) { g.Depth = n }, 6, 7, 30)
	add(func(g *impl.Grant, n int) { g.Start = n }, 168, 169, 20000, 20001)
	add(func(g *impl.Grant, n int) { g.End = n }, 0, 99, 100, 20001)
	add(func(g *impl.Grant, n int) { g.Start, g.End = n, n }, 0, 100, 20000, 20001)
	add(func(g *impl.Grant, n int) { g.Start, g.End = 20000, n }, 20000, 20001)
	add(func(g *impl.Grant, n int) { *g = impl.Grant{From: n, To: n, Parcel: n, Depth: n, Start: n, End: n} })
	return list
}

// badLists returns lists of grants that are not valid: one grant of them is bad, or there are too many.
func badLists() [][]impl.Grant {
	lists := [][]impl.Grant{}
	for i, g := range badGrants() {
		list := append(grants("1>2 #0 d5 0-20000", "2>3 #0 d5 0-20000", "1>3 #0 d5 0-20000"), sameGrants(i%28, "1>4 #0 d5 0-20000")...)
		list = slices.Insert(list, i%4, g)
		lists = append(lists, list[:min(len(list), 30)], []impl.Grant{g})
	}
	for _, n := range []int{31, 32, 60, 1000} {
		lists = append(lists, sameGrants(n, "1>2 #0 d5 0-20000"), sameGrants(n, "1>3 #0 d5 0-20000 off"))
	}
	return lists
}

// farPersons, farParcels and farTimes are numbers just outside their ranges and far from them.
func farPersons() []int {
	return []int{0, 41, -1, -2, 42, 256, 1<<32 + 1, math.MinInt, math.MaxInt, math.MinInt + 1, math.MaxInt - 1}
}

func farParcels() []int {
	return []int{0, 1000, -1, -5, 1001, 1<<32 + 5, math.MinInt, math.MaxInt, math.MinInt + 1, math.MaxInt - 1}
}

func farTimes() []int {
	return []int{-1, 20001, -2, 20002, 1<<32 + 5, math.MinInt, math.MaxInt, math.MinInt + 1, math.MaxInt - 1}
}

func TestConstantsOfChapter5(t *testing.T) {
	if impl.MaxPerson != 40 || impl.MaxGrants != 30 || impl.MaxDepth != 5 {
		t.Error("unexpected constants", impl.MaxPerson, impl.MaxGrants, impl.MaxDepth)
	}
}

func TestGrantOk(t *testing.T) {
	for _, g := range goodGrants() {
		if !impl.GrantOk(g) {
			t.Errorf("a valid grant is rejected: %+v", g)
		}
	}
	for _, g := range badGrants() {
		if impl.GrantOk(g) {
			t.Errorf("a bad grant is accepted: %+v", g)
		}
	}
}

func TestGrantsOk(t *testing.T) {
	for _, list := range [][]impl.Grant{nil, {}, goodGrants()} {
		if !impl.GrantsOk(list) {
			t.Error("a valid list is rejected", list)
		}
	}
	for n := range 31 {
		if !impl.GrantsOk(sameGrants(n, "7>3 #5 d2 100-168")) || !impl.GrantsOk(sameGrants(n, "7>3 #5 d2 100-168 off")) {
			t.Error("a valid list is rejected, with so many grants:", n)
		}
	}
	for _, list := range badLists() {
		if impl.GrantsOk(list) {
			t.Error("a bad list is accepted", list)
		}
	}
	// A bad grant is found wherever it stands.
	for i := range 30 {
		list := sameGrants(30, "7>3 #5 d2 100-168")
		list[i].To = 7
		if impl.GrantsOk(list) {
			t.Error("a bad grant is accepted at the index", i)
		}
	}
}

func TestApplies(t *testing.T) {
	for _, c := range []struct {
		grant       string
		parcel, now int
		want        bool
	}{
		{"1>2 #5 d1 10-12", 5, 10, true},
		{"1>2 #5 d1 10-12", 5, 11, true},
		{"1>2 #5 d1 10-12", 5, 9, false},
		{"1>2 #5 d1 10-12", 5, 12, false},
		{"1>2 #5 d1 10-12", 5, 13, false},
		{"1>2 #5 d1 10-12", 4, 10, false},
		{"1>2 #5 d1 10-12", 6, 11, false},
		{"1>2 #5 d1 10-12", 0, 11, false},
		{"1>2 #5 d1 10-12", -5, 11, false},
		{"1>2 #5 d1 10-12 off", 5, 10, false},
		{"1>2 #5 d1 10-12 off", 5, 12, false},

		{"1>2 #0 d0 10-12", 1, 10, true},
		{"1>2 #0 d5 10-12", 999, 11, true},
		{"1>2 #0 d5 10-12", 5, 9, false},
		{"1>2 #0 d5 10-12", 5, 12, false},
		{"1>2 #0 d5 10-12 off", 5, 11, false},

		{"40>39 #999 d0 0-20000", 999, 0, true},
		{"40>39 #999 d0 0-20000", 999, 19999, true},
		{"40>39 #999 d0 0-20000", 999, 20000, false},
		{"40>39 #999 d0 0-20000", 998, 19999, false},
		{"40>39 #999 d0 0-20000", 999, -1, false},
		{"1>2 #1 d0 0-1", 1, 0, true},
		{"1>2 #1 d0 0-1", 1, 1, false},
		{"1>2 #1 d0 19999-20000", 1, 19998, false},
		{"1>2 #1 d0 19999-20000", 1, 19999, true},

		// Parcel of the grant is 0 or not, whatever parcel is.
		{"1>2 #0 d0 10-12", 0, 10, true},
		{"1>2 #0 d0 10-12", -1, 10, true},
		{"1>2 #0 d0 10-12", 1000, 10, true},
	} {
		if got := impl.Applies(grant(c.grant), c.parcel, c.now); got != c.want {
			t.Errorf("Applies of %s for %d at %d: %v", c.grant, c.parcel, c.now, got)
		}
	}
	for _, now := range farTimes() {
		if impl.Applies(grant("1>2 #0 d0 0-20000"), 5, now) {
			t.Error("a grant applies at a time that there is not", now)
		}
	}
}

func TestAppliesWithBadGrants(t *testing.T) {
	for _, g := range badGrants() {
		for _, now := range []int{g.Start, g.Start + 1, g.End - 1, 0, 100, 150, 167, 20000} {
			for _, parcel := range []int{g.Parcel, 5, 0} {
				if impl.Applies(g, parcel, now) {
					t.Errorf("a bad grant applies to %d at %d: %+v", parcel, now, g)
				}
			}
		}
	}
}

func TestAddGrant(t *testing.T) {
	list := []impl.Grant{}
	for i := range 31 {
		g := goodGrants()[i%6]
		before := slices.Clone(list)
		got, ok := impl.AddGrant(list, g)
		want := append(slices.Clone(list), g)
		if i == 30 {
			want = before
		}
		if ok != (i < 30) || !slices.Equal(got, want) {
			t.Errorf("a grant added to %d: %v, %v", i, got, ok)
		}
		if !slices.Equal(list, before) {
			t.Error("AddGrant changes its list", i)
		}
		list = got
	}
	if got, ok := impl.AddGrant(nil, grant("1>2 #0 d0 0-1")); !ok || !slices.Equal(got, grants("1>2 #0 d0 0-1")) {
		t.Error("a grant added to none", got, ok)
	}
	// The same grant may be added twice, and beside one that is revoked.
	if got, ok := impl.AddGrant(grants("1>2 #0 d0 0-1", "3>4 #0 d0 0-1 off"), grant("1>2 #0 d0 0-1")); !ok || !slices.Equal(got, grants("1>2 #0 d0 0-1", "3>4 #0 d0 0-1 off", "1>2 #0 d0 0-1")) {
		t.Error("a grant added once more", got, ok)
	}
}

func TestAddGrantRejects(t *testing.T) {
	good := grant("1>2 #0 d0 0-1")
	for _, list := range [][]impl.Grant{nil, goodGrants(), sameGrants(29, "7>3 #5 d2 100-168"), sameGrants(30, "7>3 #5 d2 100-168")} {
		for _, g := range append(badGrants(), grant("1>2 #0 d0 0-1 off"), grant("7>3 #5 d2 100-168 off")) {
			if got, ok := impl.AddGrant(list, g); ok || !slices.Equal(got, list) {
				t.Errorf("AddGrant of %+v to %v: %v, %v", g, list, got, ok)
			}
		}
	}
	for _, list := range badLists() {
		for _, g := range []impl.Grant{good, {}, grant("1>2 #0 d0 0-1 off")} {
			if got, ok := impl.AddGrant(list, g); ok || !slices.Equal(got, list) {
				t.Errorf("AddGrant of %+v to a bad list %v: %v, %v", g, list, got, ok)
			}
		}
	}
}

func TestRevoke(t *testing.T) {
	for _, list := range [][]impl.Grant{nil, goodGrants(), sameGrants(30, "7>3 #5 d2 100-168"), grants("1>2 #0 d0 0-1", "1>2 #0 d0 0-1")} {
		for index := range list {
			want := slices.Clone(list)
			want[index].Off = true
			possible := !list[index].Off
			before := slices.Clone(list)
			if got, ok := impl.Revoke(list, index); ok != possible || !slices.Equal(got, want) {
				t.Errorf("Revoke of %d in %v: %v, %v", index, list, got, ok)
			}
			if !slices.Equal(list, before) {
				t.Error("Revoke changes its list", before)
			}
			if got, ok := impl.Revoke(want, index); ok || !slices.Equal(got, want) {
				t.Errorf("Revoke of %d once more in %v: %v, %v", index, want, got, ok)
			}
		}
		for _, index := range []int{-1, len(list), -2, len(list) + 1, -len(list), 30, 31, 1 << 32, math.MinInt, math.MaxInt} {
			if index >= 0 && index < len(list) {
				continue
			}
			if got, ok := impl.Revoke(list, index); ok || !slices.Equal(got, list) {
				t.Errorf("Revoke of %d in %v: %v, %v", index, list, got, ok)
			}
		}
	}
	for _, list := range badLists() {
		for _, index := range []int{0, 1, 2, len(list) - 1, -1, len(list)} {
			if got, ok := impl.Revoke(list, index); ok || !slices.Equal(got, list) {
				t.Errorf("Revoke of %d in a bad list %v: %v, %v", index, list, got, ok)
			}
		}
	}
}

// Whatever becomes of a result, the list of which it was made and the spare capacity behind it stay as they are.
func TestGrantsOwnTheirMemory(t *testing.T) {
	results := func(list []impl.Grant) [][]impl.Grant {
		added, _ := impl.AddGrant(list, grant("1>2 #0 d0 0-1"))
		refused, _ := impl.AddGrant(list, grant("1>2 #0 d0 0-1 off"))
		revoked, _ := impl.Revoke(list, 0)
		unchanged, _ := impl.Revoke(list, -1)
		return [][]impl.Grant{added, refused, revoked, unchanged}
	}
	lists := append(badLists(), goodGrants(), sameGrants(30, "7>3 #5 d2 100-168"), nil)
	for _, given := range lists {
		behind := grant("9>8 #7 d1 3-4")
		room := append(slices.Clone(given), behind, behind)
		list := room[:len(given)]
		for _, result := range results(list) {
			for i := range result {
				result[i].From = 99
			}
			_ = append(result, impl.Grant{From: 77})
		}
		if !slices.Equal(list, given) || room[len(given)] != behind || room[len(given)+1] != behind {
			t.Error("a list of grants is changed", given, room)
		}
	}
}
