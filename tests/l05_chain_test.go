package tests

import (
	"math/rand"
	"slices"
	"testing"

	"loop.example/g03318/impl"
)

// claim asks for a right: who may take this parcel of owner now?
type claim struct{ owner, who, parcel, now int }

// circle has three persons, each of whom lets the next one take everything.
var circle = []string{"1>2 #0 d5 0-100", "2>3 #0 d5 0-100", "3>1 #0 d5 0-100"}

// line has persons in a row; the last of them has no right from the first one, whose grant has only 5 as Depth.
var line = []string{"1>2 #0 d5 0-100", "2>3 #0 d5 0-100", "3>4 #0 d5 0-100", "4>5 #0 d5 0-100", "5>6 #0 d5 0-100", "6>7 #0 d5 0-100", "7>8 #0 d5 0-100"}

// strict is the row in which each grant has just the Depth that the chain to 7 needs.
var strict = []string{"1>2 #0 d5 0-100", "2>3 #0 d4 0-100", "3>4 #0 d3 0-100", "4>5 #0 d2 0-100", "5>6 #0 d1 0-100", "6>7 #0 d0 0-100"}

// rights has lists of grants, claims, and what the functions return for them.
var rights = []struct {
	grants []string
	claim  claim
	chain  []int // nil if there is none
	spare  int
	needed []int
	end    int
}{
	// The owner has a chain without grants, and everybody else has none without grants.
	{nil, claim{1, 1, 5, 3}, []int{}, 5, nil, 20001},
	{nil, claim{40, 40, 999, 20000}, []int{}, 5, nil, 20001},
	{nil, claim{1, 1, 1, 0}, []int{}, 5, nil, 20001},
	{nil, claim{1, 2, 5, 3}, nil, -1, nil, -1},
	{[]string{"1>2 #0 d0 0-100"}, claim{1, 1, 5, 3}, []int{}, 5, nil, 20001},
	{[]string{"2>1 #0 d0 0-4"}, claim{1, 1, 5, 3}, []int{}, 5, nil, 20001},
	{[]string{"1>2 #0 d0 0-100"}, claim{1, 3, 5, 3}, nil, -1, nil, -1},
	{[]string{"1>2 #0 d0 0-100"}, claim{2, 1, 5, 3}, nil, -1, nil, -1},
	{[]string{"1>2 #0 d0 0-100"}, claim{3, 2, 5, 3}, nil, -1, nil, -1},
	{circle, claim{1, 40, 5, 3}, nil, -1, nil, -1},

	// The times of a grant.
	{[]string{"1>2 #5 d0 10-12"}, claim{1, 2, 5, 9}, nil, -1, nil, -1},
	{[]string{"1>2 #5 d0 10-12"}, claim{1, 2, 5, 10}, []int{0}, 0, []int{0}, 12},
	{[]string{"1>2 #5 d0 10-12"}, claim{1, 2, 5, 11}, []int{0}, 0, []int{0}, 12},
	{[]string{"1>2 #5 d0 10-12"}, claim{1, 2, 5, 12}, nil, -1, nil, -1},
	{[]string{"1>2 #5 d0 0-20000"}, claim{1, 2, 5, 0}, []int{0}, 0, []int{0}, 20000},
	{[]string{"1>2 #5 d0 0-20000"}, claim{1, 2, 5, 19999}, []int{0}, 0, []int{0}, 20000},
	{[]string{"1>2 #5 d0 0-20000"}, claim{1, 2, 5, 20000}, nil, -1, nil, -1},

	// A grant for one parcel, and for all.
	{[]string{"1>2 #5 d1 0-100"}, claim{1, 2, 4, 3}, nil, -1, nil, -1},
	{[]string{"1>2 #5 d1 0-100"}, claim{1, 2, 5, 3}, []int{0}, 1, []int{0}, 100},
	{[]string{"1>2 #5 d1 0-100"}, claim{1, 2, 6, 3}, nil, -1, nil, -1},
	{[]string{"1>2 #0 d1 0-100"}, claim{1, 2, 999, 3}, []int{0}, 1, []int{0}, 100},
	{[]string{"1>2 #5 d1 0-100", "2>3 #0 d0 0-100"}, claim{1, 3, 5, 3}, []int{0, 1}, 0, []int{0, 1}, 100},
	{[]string{"1>2 #5 d1 0-100", "2>3 #0 d0 0-100"}, claim{1, 3, 6, 3}, nil, -1, nil, -1},
	{[]string{"1>2 #0 d1 0-100", "2>3 #5 d0 0-100"}, claim{1, 3, 5, 3}, []int{0, 1}, 0, []int{0, 1}, 100},
	{[]string{"1>2 #0 d1 0-100", "2>3 #5 d0 0-100"}, claim{1, 3, 6, 3}, nil, -1, nil, -1},
	{[]string{"1>2 #6 d0 0-100", "1>2 #5 d0 0-50"}, claim{1, 2, 5, 3}, []int{1}, 0, []int{1}, 50},

	// Depth of the one grant is what may be handed on, from the owner too.
	{[]string{"1>2 #0 d0 0-100"}, claim{1, 2, 5, 3}, []int{0}, 0, []int{0}, 100},
	{[]string{"1>2 #0 d3 0-100"}, claim{1, 2, 5, 3}, []int{0}, 3, []int{0}, 100},
	{[]string{"1>2 #0 d5 0-100"}, claim{1, 2, 5, 3}, []int{0}, 5, []int{0}, 100},
	{[]string{"1>2 #0 d0 0-100", "2>3 #0 d5 0-100"}, claim{1, 3, 5, 3}, nil, -1, nil, -1},
	{[]string{"1>2 #0 d1 0-100", "2>3 #0 d5 0-100"}, claim{1, 3, 5, 3}, []int{0, 1}, 0, []int{0, 1}, 100},
	{[]string{"1>2 #0 d5 0-100", "2>3 #0 d0 0-100"}, claim{1, 3, 5, 3}, []int{0, 1}, 0, []int{0, 1}, 100},
	{[]string{"1>2 #0 d5 0-100", "2>3 #0 d5 0-100"}, claim{1, 3, 5, 3}, []int{0, 1}, 4, []int{0, 1}, 100},
	{[]string{"2>3 #0 d2 0-100", "1>2 #0 d3 0-90"}, claim{1, 3, 5, 3}, []int{1, 0}, 2, []int{0, 1}, 90},
	{[]string{"3>4 #0 d0 0-100", "2>3 #0 d1 0-100", "1>2 #0 d1 0-100"}, claim{1, 4, 5, 3}, nil, -1, nil, -1},
	{[]string{"3>4 #0 d0 0-100", "2>3 #0 d0 0-100", "1>2 #0 d2 0-100"}, claim{1, 4, 5, 3}, nil, -1, nil, -1},
	{[]string{"3>4 #0 d0 0-100", "2>3 #0 d1 0-100", "1>2 #0 d2 0-100"}, claim{1, 4, 5, 3}, []int{2, 1, 0}, 0, []int{0, 1, 2}, 100},

	// As often as Depth allows: 5 hand on what 1 grants, and no more.
	{line, claim{1, 6, 5, 3}, []int{0, 1, 2, 3, 4}, 1, []int{0, 1, 2, 3, 4}, 100},
	{line, claim{1, 7, 5, 3}, []int{0, 1, 2, 3, 4, 5}, 0, []int{0, 1, 2, 3, 4, 5}, 100},
	{line, claim{1, 8, 5, 3}, nil, -1, nil, -1},
	{line, claim{2, 8, 5, 3}, []int{1, 2, 3, 4, 5, 6}, 0, []int{1, 2, 3, 4, 5, 6}, 100},
	{line, claim{3, 8, 5, 3}, []int{2, 3, 4, 5, 6}, 1, []int{2, 3, 4, 5, 6}, 100},
	{line, claim{8, 1, 5, 3}, nil, -1, nil, -1},
	{strict, claim{1, 7, 5, 3}, []int{0, 1, 2, 3, 4, 5}, 0, []int{0, 1, 2, 3, 4, 5}, 100},
	{strict, claim{1, 4, 5, 3}, []int{0, 1, 2}, 3, []int{0, 1, 2}, 100},
	{append(slices.Clone(strict[:3]), "4>5 #0 d1 0-100", "5>6 #0 d1 0-100", "6>7 #0 d0 0-100"), claim{1, 7, 5, 3}, nil, -1, nil, -1},
	{append(slices.Clone(strict[1:]), "1>2 #0 d4 0-100"), claim{1, 7, 5, 3}, nil, -1, nil, -1},
	{append(slices.Clone(strict[1:]), "1>2 #0 d4 0-100"), claim{1, 6, 5, 3}, []int{5, 0, 1, 2, 3}, 0, []int{0, 1, 2, 3, 5}, 100},

	// Of several chains, the shortest one counts, though a longer one has lesser indices, ends later and may be handed on further.
	{[]string{"1>3 #0 d5 0-100", "3>2 #0 d5 0-100", "1>2 #0 d0 0-10"}, claim{1, 2, 5, 3}, []int{2}, 4, nil, 100},
	{[]string{"1>3 #0 d3 0-100", "3>2 #0 d1 0-100", "1>2 #0 d0 0-10"}, claim{1, 2, 5, 3}, []int{2}, 1, nil, 100},
	{[]string{"1>3 #0 d1 0-100", "3>2 #0 d5 0-5", "1>2 #0 d0 0-10"}, claim{1, 2, 5, 3}, []int{2}, 0, nil, 10},
	{[]string{"1>2 #0 d0 0-100", "1>3 #0 d1 0-100", "3>2 #0 d5 0-100"}, claim{1, 2, 5, 3}, []int{0}, 0, nil, 100},
	{[]string{"1>2 #0 d1 0-100", "2>3 #0 d0 0-100", "1>4 #0 d5 0-100", "4>2 #0 d5 0-100"}, claim{1, 3, 5, 3}, []int{0, 1}, 0, []int{1}, 100},
	{[]string{"2>9 #0 d0 0-100", "3>9 #0 d0 0-100", "4>2 #0 d1 0-100", "5>4 #0 d2 0-100", "5>3 #0 d1 0-100"}, claim{5, 9, 5, 3}, []int{4, 1}, 0, nil, 100},
	{[]string{"8>1 #0 d0 0-100", "7>1 #0 d0 0-100", "6>8 #0 d1 0-100", "5>6 #0 d2 0-100", "5>7 #0 d1 0-100"}, claim{5, 1, 5, 3}, []int{4, 1}, 0, nil, 100},
	{[]string{"2>9 #0 d0 0-100", "3>9 #0 d0 0-100", "4>2 #0 d1 0-100", "5>4 #0 d2 0-100", "5>3 #0 d1 0-100", "6>5 #0 d2 0-100"}, claim{6, 9, 5, 3}, []int{5, 4, 1}, 0, []int{1, 4, 5}, 100},
	// The way to 2 is longer if the right is to be handed on to 3, as the short one has no Depth.
	{[]string{"1>2 #0 d0 0-100", "2>3 #0 d0 0-100", "1>4 #0 d2 0-100", "4>2 #0 d1 0-100"}, claim{1, 3, 5, 3}, []int{2, 3, 1}, 0, []int{1, 2, 3}, 100},
	{[]string{"1>2 #0 d0 0-100", "2>3 #0 d0 0-100", "1>4 #0 d2 0-100", "4>2 #0 d1 0-100"}, claim{1, 2, 5, 3}, []int{0}, 1, nil, 100},
	{[]string{"1>2 #0 d0 0-100", "2>3 #0 d0 0-100", "1>4 #0 d2 0-100", "4>2 #0 d0 0-100"}, claim{1, 3, 5, 3}, nil, -1, nil, -1},

	// Of several shortest chains, the lexicographically least list counts.
	{[]string{"2>4 #0 d0 0-100", "1>3 #0 d1 0-100", "3>4 #0 d0 0-100", "1>2 #0 d1 0-100"}, claim{1, 4, 5, 3}, []int{1, 2}, 0, nil, 100},
	{[]string{"3>4 #0 d0 0-100", "1>2 #0 d1 0-100", "2>4 #0 d0 0-100", "1>3 #0 d1 0-100"}, claim{1, 4, 5, 3}, []int{1, 2}, 0, nil, 100},
	{[]string{"1>2 #0 d0 0-100", "1>3 #0 d1 0-100", "2>4 #0 d0 0-100", "3>4 #0 d0 0-100"}, claim{1, 4, 5, 3}, []int{1, 3}, 0, []int{1, 3}, 100},
	{[]string{"1>2 #0 d1 0-100", "1>2 #0 d5 0-100", "2>3 #0 d0 0-100", "2>3 #0 d5 0-100"}, claim{1, 3, 5, 3}, []int{0, 2}, 4, nil, 100},
	{[]string{"2>3 #0 d0 0-100", "1>2 #0 d0 0-100", "1>2 #0 d1 0-100"}, claim{1, 3, 5, 3}, []int{2, 0}, 0, []int{0, 2}, 100},
	{[]string{"3>5 #0 d0 0-100", "2>4 #0 d1 0-100", "4>5 #0 d0 0-100", "2>3 #0 d1 0-100", "1>2 #0 d2 0-100"}, claim{1, 5, 5, 3}, []int{4, 1, 2}, 0, []int{4}, 100},

	// The same grant twice: neither is needed, and the first one counts.
	{[]string{"1>2 #0 d2 0-100", "1>2 #0 d2 0-100"}, claim{1, 2, 5, 3}, []int{0}, 2, nil, 100},
	{[]string{"1>2 #0 d2 0-100 off", "1>2 #0 d2 0-100"}, claim{1, 2, 5, 3}, []int{1}, 2, []int{1}, 100},
	{[]string{"1>2 #0 d2 0-100", "2>3 #0 d2 0-100", "2>3 #0 d2 0-100"}, claim{1, 3, 5, 3}, []int{0, 1}, 1, []int{0}, 100},

	// Grants that are revoked.
	{[]string{"1>2 #0 d2 0-100 off"}, claim{1, 2, 5, 3}, nil, -1, nil, -1},
	{[]string{"1>2 #0 d2 0-100 off"}, claim{1, 1, 5, 3}, []int{}, 5, nil, 20001},
	{[]string{"1>2 #0 d2 0-100", "2>3 #0 d2 0-100 off"}, claim{1, 3, 5, 3}, nil, -1, nil, -1},
	{[]string{"1>2 #0 d2 0-100 off", "2>3 #0 d2 0-100"}, claim{1, 3, 5, 3}, nil, -1, nil, -1},
	{[]string{"1>2 #0 d0 0-100 off", "1>3 #0 d1 0-80", "3>2 #0 d0 0-90"}, claim{1, 2, 5, 3}, []int{1, 2}, 0, []int{1, 2}, 80},

	// Chains in a circle.
	{circle, claim{1, 1, 5, 3}, []int{}, 5, nil, 20001},
	{circle, claim{1, 2, 5, 3}, []int{0}, 5, []int{0}, 100},
	{circle, claim{1, 3, 5, 3}, []int{0, 1}, 4, []int{0, 1}, 100},
	{circle, claim{2, 1, 5, 3}, []int{1, 2}, 4, []int{1, 2}, 100},
	{circle, claim{3, 2, 5, 3}, []int{2, 0}, 4, []int{0, 2}, 100},
	{append(slices.Clone(circle), "2>4 #0 d0 0-100"), claim{3, 4, 5, 3}, []int{2, 0, 3}, 0, []int{0, 2, 3}, 100},
	{[]string{"1>2 #0 d1 0-100", "2>1 #0 d1 0-100", "2>3 #0 d1 0-100"}, claim{1, 3, 5, 3}, []int{0, 2}, 0, []int{0, 2}, 100},
	{[]string{"2>3 #0 d5 0-100", "3>2 #0 d5 0-100"}, claim{1, 3, 5, 3}, nil, -1, nil, -1},

	// When a right ends: with the first of its grants, unless another one goes on, or begins just then.
	{[]string{"1>2 #0 d1 0-20", "2>3 #0 d0 0-10"}, claim{1, 3, 5, 3}, []int{0, 1}, 0, []int{0, 1}, 10},
	{[]string{"1>2 #0 d1 0-10", "2>3 #0 d0 0-20"}, claim{1, 3, 5, 3}, []int{0, 1}, 0, []int{0, 1}, 10},
	{[]string{"1>2 #0 d0 0-10", "1>2 #0 d0 10-20"}, claim{1, 2, 5, 3}, []int{0}, 0, []int{0}, 20},
	{[]string{"1>2 #0 d0 10-20", "1>2 #0 d0 0-10"}, claim{1, 2, 5, 9}, []int{1}, 0, []int{1}, 20},
	{[]string{"1>2 #0 d0 0-10", "1>2 #0 d0 11-20"}, claim{1, 2, 5, 3}, []int{0}, 0, []int{0}, 10},
	{[]string{"1>2 #0 d0 0-10", "1>2 #0 d0 9-20"}, claim{1, 2, 5, 3}, []int{0}, 0, []int{0}, 20},
	{[]string{"1>2 #0 d0 0-10", "1>2 #6 d0 10-20"}, claim{1, 2, 5, 3}, []int{0}, 0, []int{0}, 10},
	{[]string{"1>2 #0 d0 0-10", "1>2 #0 d0 10-20 off"}, claim{1, 2, 5, 3}, []int{0}, 0, []int{0}, 10},
	{[]string{"1>2 #0 d0 0-10", "1>2 #0 d0 10-20", "1>2 #0 d0 20-20000"}, claim{1, 2, 5, 0}, []int{0}, 0, []int{0}, 20000},
	{[]string{"1>2 #0 d0 20-30", "1>2 #0 d0 0-10", "1>2 #0 d0 10-19"}, claim{1, 2, 5, 0}, []int{1}, 0, []int{1}, 19},
	{[]string{"1>2 #0 d0 0-10", "1>3 #0 d1 10-20", "3>2 #0 d0 5-30"}, claim{1, 2, 5, 3}, []int{0}, 0, []int{0}, 20},
	{[]string{"1>2 #0 d0 0-10", "1>3 #0 d0 10-20", "3>2 #0 d0 5-30"}, claim{1, 2, 5, 3}, []int{0}, 0, []int{0}, 10},
	{[]string{"1>2 #0 d5 0-10", "1>2 #0 d0 10-20", "2>3 #0 d0 0-20"}, claim{1, 3, 5, 3}, []int{0, 2}, 0, []int{0, 2}, 10},
}

func TestRights(t *testing.T) {
	for _, c := range rights {
		list, q := grants(c.grants...), c.claim
		may := c.chain != nil
		chain, ok := impl.ChainOf(list, q.owner, q.who, q.parcel, q.now)
		if ok != may || !slices.Equal(chain, c.chain) {
			t.Errorf("ChainOf of %v in %v: %v, %v", q, c.grants, chain, ok)
		}
		if got := impl.MayTake(list, q.owner, q.who, q.parcel, q.now); got != may {
			t.Errorf("MayTake of %v in %v: %v", q, c.grants, got)
		}
		if got := impl.HoldersOf(list, q.owner, q.parcel, q.now); slices.Contains(got, q.who) != may {
			t.Errorf("HoldersOf of %v in %v: %v", q, c.grants, got)
		}
		if got := impl.SpareOf(list, q.owner, q.who, q.parcel, q.now); got != c.spare {
			t.Errorf("SpareOf of %v in %v: %d", q, c.grants, got)
		}
		if got := impl.NeededFor(list, q.owner, q.who, q.parcel, q.now); !slices.Equal(got, c.needed) {
			t.Errorf("NeededFor of %v in %v: %v", q, c.grants, got)
		}
		if got := impl.EndOf(list, q.owner, q.who, q.parcel, q.now); got != c.end {
			t.Errorf("EndOf of %v in %v: %d", q, c.grants, got)
		}
		if !slices.Equal(list, grants(c.grants...)) {
			t.Errorf("a list of grants is changed: %v", list)
		}
	}
}

func TestHoldersOf(t *testing.T) {
	star := []string{}
	for who := 40; who > 10; who-- {
		star = append(star, grantText(1, who))
	}
	behind := append(slices.Clone(star[1:]), "40>1 #0 d0 0-100")
	all := []int{}
	for who := 11; who <= 40; who++ {
		all = append(all, who)
	}
	for _, c := range []struct {
		grants             []string
		owner, parcel, now int
		want               []int
	}{
		{nil, 1, 1, 0, []int{1}},
		{nil, 40, 999, 20000, []int{40}},
		{circle, 1, 5, 3, []int{1, 2, 3}},
		{circle, 3, 5, 99, []int{1, 2, 3}},
		{circle, 3, 5, 100, []int{3}},
		{circle, 4, 5, 3, []int{4}},
		{line, 1, 5, 3, []int{1, 2, 3, 4, 5, 6, 7}},
		{line, 2, 5, 3, []int{2, 3, 4, 5, 6, 7, 8}},
		{line, 8, 5, 3, []int{8}},
		{strict, 1, 5, 3, []int{1, 2, 3, 4, 5, 6, 7}},
		{strict, 2, 5, 3, []int{2, 3, 4, 5, 6, 7}},
		{strict, 6, 5, 3, []int{6, 7}},
		{star, 1, 5, 3, append([]int{1}, all...)},
		{star, 2, 5, 3, []int{2}},
		{behind, 40, 5, 3, []int{1, 40}},
		{behind, 1, 5, 3, append([]int{1}, all[:29]...)},
		{[]string{"9>3 #5 d1 0-10", "3>20 #0 d0 5-20", "9>30 #6 d5 0-10", "30>1 #0 d5 0-20"}, 9, 5, 4, []int{3, 9}},
		{[]string{"9>3 #5 d1 0-10", "3>20 #0 d0 5-20", "9>30 #6 d5 0-10", "30>1 #0 d5 0-20"}, 9, 5, 5, []int{3, 9, 20}},
		{[]string{"9>3 #5 d1 0-10", "3>20 #0 d0 5-20", "9>30 #6 d5 0-10", "30>1 #0 d5 0-20"}, 9, 6, 5, []int{1, 9, 30}},
		{[]string{"9>3 #5 d1 0-10", "3>20 #0 d0 5-20", "9>30 #6 d5 0-10", "30>1 #0 d5 0-20"}, 9, 7, 5, []int{9}},
	} {
		if got := impl.HoldersOf(grants(c.grants...), c.owner, c.parcel, c.now); !slices.Equal(got, c.want) {
			t.Errorf("HoldersOf %d, %d at %d in %v: %v", c.owner, c.parcel, c.now, c.grants, got)
		}
	}
}

// grantText returns the text of a grant with no Depth.
func grantText(from int, to int) string {
	return impl.FormatInt(from) + ">" + impl.FormatInt(to) + " #0 d0 0-100"
}

// checkNoRight checks that all functions return what they do if somebody may not take a parcel.
func checkNoRight(t *testing.T, list []impl.Grant, q claim) {
	t.Helper()
	if chain, ok := impl.ChainOf(list, q.owner, q.who, q.parcel, q.now); ok || len(chain) != 0 {
		t.Errorf("ChainOf of %v in %v: %v, %v", q, list, chain, ok)
	}
	if impl.MayTake(list, q.owner, q.who, q.parcel, q.now) {
		t.Errorf("MayTake of %v in %v", q, list)
	}
	if got := impl.SpareOf(list, q.owner, q.who, q.parcel, q.now); got != -1 {
		t.Errorf("SpareOf of %v in %v: %d", q, list, got)
	}
	if got := impl.NeededFor(list, q.owner, q.who, q.parcel, q.now); len(got) != 0 {
		t.Errorf("NeededFor of %v in %v: %v", q, list, got)
	}
	if got := impl.EndOf(list, q.owner, q.who, q.parcel, q.now); got != -1 {
		t.Errorf("EndOf of %v in %v: %d", q, list, got)
	}
}

// checkNoHolders checks that nobody may take a parcel, the owner included.
func checkNoHolders(t *testing.T, list []impl.Grant, owner int, parcel int, now int) {
	t.Helper()
	if got := impl.HoldersOf(list, owner, parcel, now); len(got) != 0 {
		t.Errorf("HoldersOf %d, %d at %d in %v: %v", owner, parcel, now, list, got)
	}
	for _, who := range []int{owner, 1, 2, 3} {
		checkNoRight(t, list, claim{owner, who, parcel, now})
	}
}

func TestRightsOfBadClaims(t *testing.T) {
	for _, texts := range [][]string{nil, circle, {"1>2 #0 d5 0-20000", "40>39 #0 d5 0-20000", "1>3 #5 d5 0-20000"}} {
		list := grants(texts...)
		for _, bad := range farPersons() {
			checkNoHolders(t, list, bad, 5, 3)
			for _, owner := range []int{1, 40, bad} {
				checkNoRight(t, list, claim{owner, bad, 5, 3})
			}
		}
		for _, bad := range farParcels() {
			checkNoHolders(t, list, 1, bad, 3)
		}
		for _, bad := range farTimes() {
			checkNoHolders(t, list, 1, 5, bad)
		}
		checkNoHolders(t, list, 0, 0, -1)
		checkNoHolders(t, list, 41, 1000, 20001)
	}
}

func TestRightsOfBadLists(t *testing.T) {
	for _, list := range badLists() {
		checkNoHolders(t, list, 1, 5, 3)
		checkNoHolders(t, list, 7, 5, 120)
	}
	// A list of MaxGrants grants is valid still.
	full := append(sameGrants(29, "3>4 #0 d5 0-100"), grant("1>2 #0 d3 0-100"))
	if chain, ok := impl.ChainOf(full, 1, 2, 5, 3); !ok || !slices.Equal(chain, []int{29}) {
		t.Error("the chain in a full list", chain, ok)
	}
	checkNoHolders(t, append(full, full[0]), 1, 5, 3)
}

// A grant that does not apply counts for the validity of the list nevertheless.
func TestRightsBesideABadGrant(t *testing.T) {
	for _, bad := range badGrants() {
		bad.Off = true
		list := append(grants("1>2 #0 d0 0-100"), bad)
		checkNoRight(t, list, claim{1, 2, 5, 3})
		checkNoRight(t, list, claim{1, 1, 5, 3})
	}
}

// chainsBy returns all chains of a claim, as the document defines them, found by trying all grants one after the other.
func chainsBy(list []impl.Grant, q claim) [][]int {
	chains := [][]int{}
	var follow func(person int, chain []int)
	follow = func(person int, chain []int) {
		if person == q.who && depthsLeft(list, chain) >= 0 {
			chains = append(chains, slices.Clone(chain))
		}
		if len(chain) == impl.MaxDepth+1 { // the first grant would need a greater Depth
			return
		}
		for i, g := range list {
			now := g.Start <= q.now && q.now < g.End
			if g.From == person && !g.Off && now && (g.Parcel == 0 || g.Parcel == q.parcel) {
				follow(g.To, append(slices.Clone(chain), i))
			}
		}
	}
	follow(q.owner, nil)
	return chains
}

// depthsLeft returns by how much the grants of a chain have a greater Depth than it needs, at most MaxDepth; less than 0 if one has a lesser one.
func depthsLeft(list []impl.Grant, chain []int) int {
	left := impl.MaxDepth
	for i, at := range chain {
		left = min(left, list[at].Depth-(len(chain)-1-i))
	}
	return left
}

// firstChain returns the shortest of some chains, and of several the lexicographically least one.
func firstChain(chains [][]int) []int {
	return slices.MinFunc(chains, func(a []int, b []int) int {
		if len(a) != len(b) {
			return len(a) - len(b)
		}
		return slices.Compare(a, b)
	})
}

// endBy returns what EndOf does, hour by hour, for a claim that has a chain.
func endBy(list []impl.Grant, q claim) int {
	if q.owner == q.who {
		return impl.MaxTime + 1
	}
	for q.now < impl.MaxTime {
		q.now++
		if len(chainsBy(list, q)) == 0 {
			return q.now
		}
	}
	return impl.MaxTime + 1
}

// neededBy returns what NeededFor does, for a claim that has a chain.
func neededBy(list []impl.Grant, q claim) []int {
	needed := []int{}
	for i := range list {
		rest := slices.Clone(list)
		rest[i].Off = true
		if len(chainsBy(rest, q)) == 0 {
			needed = append(needed, i)
		}
	}
	return needed
}

// someGrants returns a valid list of at most so many grants among a few persons, within the first hours.
func someGrants(r *rand.Rand, most int) []impl.Grant {
	persons := r.Perm(impl.MaxPerson)[:2+r.Intn(7)]
	list := []impl.Grant{}
	deep, long := r.Intn(2) == 0, r.Intn(2) == 0
	for range r.Intn(most + 1) {
		who := r.Perm(len(persons))
		g := impl.Grant{From: persons[who[0]] + 1, To: persons[who[1]] + 1, Depth: r.Intn(impl.MaxDepth + 1), Start: r.Intn(6), Off: r.Intn(8) == 0}
		if deep {
			g.Depth = max(g.Depth, r.Intn(impl.MaxDepth+1))
		}
		g.End = g.Start + 1 + r.Intn(8)
		if long {
			g.Start, g.End = r.Intn(3), 8+r.Intn(4)
		}
		if r.Intn(4) == 0 {
			g.Parcel = 5 + r.Intn(2)
		}
		list = append(list, g)
	}
	return list
}

// someClaim returns a claim of persons whom a list names, if it names some.
func someClaim(r *rand.Rand, list []impl.Grant) claim {
	q := claim{1 + r.Intn(impl.MaxPerson), 1 + r.Intn(impl.MaxPerson), 5 + r.Intn(2), r.Intn(10)}
	if len(list) > 0 {
		q.owner, q.who = list[r.Intn(len(list))].From, list[r.Intn(len(list))].To
	}
	return q
}

// Promise 5: somebody may take a parcel just if a chain of grants leads to them.
func TestRightsFollowTheChains(t *testing.T) {
	r := rand.New(rand.NewSource(5))
	lengths := map[int]int{}
	for range 6000 {
		list := someGrants(r, 14)
		q := someClaim(r, list)
		chains := chainsBy(list, q)
		if len(chains) == 0 {
			checkNoRight(t, list, q)
			continue
		}
		want := firstChain(chains)
		lengths[len(want)]++
		if chain, ok := impl.ChainOf(list, q.owner, q.who, q.parcel, q.now); !ok || !slices.Equal(chain, want) {
			t.Fatalf("ChainOf of %v in %v: %v, %v instead of %v", q, list, chain, ok, want)
		}
		if !impl.MayTake(list, q.owner, q.who, q.parcel, q.now) {
			t.Fatalf("MayTake of %v in %v", q, list)
		}
		spare := -1
		for _, chain := range chains {
			spare = max(spare, depthsLeft(list, chain))
		}
		if got := impl.SpareOf(list, q.owner, q.who, q.parcel, q.now); got != spare {
			t.Fatalf("SpareOf of %v in %v: %d instead of %d", q, list, got, spare)
		}
		if got, want := impl.NeededFor(list, q.owner, q.who, q.parcel, q.now), neededBy(list, q); !slices.Equal(got, want) {
			t.Fatalf("NeededFor of %v in %v: %v instead of %v", q, list, got, want)
		}
		if got, want := impl.EndOf(list, q.owner, q.who, q.parcel, q.now), endBy(list, q); got != want {
			t.Fatalf("EndOf of %v in %v: %d instead of %d", q, list, got, want)
		}
	}
	for n := range 6 {
		if lengths[n] == 0 {
			t.Error("no chain of this length was found:", n)
		}
	}
}

func TestHoldersFollowTheChains(t *testing.T) {
	r := rand.New(rand.NewSource(55))
	for range 300 {
		list := someGrants(r, 14)
		q := someClaim(r, list)
		want := []int{}
		for q.who = 1; q.who <= impl.MaxPerson; q.who++ {
			if len(chainsBy(list, q)) > 0 {
				want = append(want, q.who)
			}
		}
		if got := impl.HoldersOf(list, q.owner, q.parcel, q.now); !slices.Equal(got, want) {
			t.Fatalf("HoldersOf %v in %v: %v instead of %v", q, list, got, want)
		}
	}
}

// holds reports whether each person of some is one of others.
func holds(others []int, some []int) bool {
	for _, who := range some {
		if !slices.Contains(others, who) {
			return false
		}
	}
	return true
}

// Promise 5: a grant that is added takes no right away, and one that is revoked gives none.
func TestGrantsAddedAndRevoked(t *testing.T) {
	r := rand.New(rand.NewSource(555))
	given, lost := 0, 0
	for range 400 {
		list := someGrants(r, 29)
		q := someClaim(r, list)
		before := impl.HoldersOf(list, q.owner, q.parcel, q.now)
		if more := someGrants(r, 1); len(more) == 1 {
			after, ok := impl.AddGrant(list, more[0])
			if ok == more[0].Off {
				t.Fatal("a grant that is not added", more, ok)
			}
			now := impl.HoldersOf(after, q.owner, q.parcel, q.now)
			if !holds(now, before) {
				t.Fatalf("%v added to %v for %v: %v, %v", more, list, q, before, now)
			}
			given += len(now) - len(before)
		}
		for i, g := range list {
			after, ok := impl.Revoke(list, i)
			if ok == g.Off {
				t.Fatal("a grant that is not revoked", g, ok)
			}
			now := impl.HoldersOf(after, q.owner, q.parcel, q.now)
			if !holds(before, now) {
				t.Fatalf("%d revoked in %v for %v: %v, %v", i, list, q, before, now)
			}
			lost += len(before) - len(now)
			if needed := impl.NeededFor(list, q.owner, q.who, q.parcel, q.now); slices.Contains(needed, i) != (slices.Contains(before, q.who) && !slices.Contains(now, q.who)) {
				t.Fatalf("%d revoked in %v for %v: %v was needed", i, list, q, needed)
			}
		}
	}
	if given == 0 || lost == 0 {
		t.Error("no right was given or lost", given, lost)
	}
}

// The results are the same in each call, and each has memory of its own.
func TestRightsAreNewEachTime(t *testing.T) {
	list := grants("1>2 #0 d5 0-100", "2>3 #0 d5 0-100", "1>4 #0 d5 0-100", "4>3 #0 d5 0-100", "3>5 #0 d5 0-100")
	for range 200 {
		chain, _ := impl.ChainOf(list, 1, 5, 5, 3)
		holders := impl.HoldersOf(list, 1, 5, 3)
		needed := impl.NeededFor(list, 1, 5, 5, 3)
		if !slices.Equal(chain, []int{0, 1, 4}) || !slices.Equal(holders, []int{1, 2, 3, 4, 5}) || !slices.Equal(needed, []int{4}) {
			t.Fatal("unexpected rights", chain, holders, needed)
		}
		clear(chain)
		clear(holders)
		clear(needed)
	}
}
