package tests

import (
	"math"
	"math/rand"
	"slices"
	"testing"
	"time"

	"loop.example/g03318/impl"
)

// someBank returns a valid bank of at most so many columns.
func someBank(r *rand.Rand, most int) []impl.Column {
	bank := []impl.Column{}
	for i := range 1 + r.Intn(most) {
		bank = append(bank, someColumn(r, 1+100*i))
	}
	return bank
}

// splitBank returns a bank with gaps of these sizes: boxes between fixed walls, in as few columns as hold them.
func splitBank(sizes ...int) []impl.Column {
	bank := []impl.Column{{}}
	for _, size := range sizes {
		if bank[len(bank)-1].Height+size > impl.MaxHeight {
			bank = append(bank, impl.Column{})
		}
		c := &bank[len(bank)-1]
		if c.Height > 0 {
			c.Fixed = append(c.Fixed, c.Height)
		}
		c.Boxes = append(c.Boxes, impl.Box{Low: c.Height, Size: size})
		c.Height += size
	}
	return bank
}

// badBanks returns banks that are not valid.
func badBanks() [][]impl.Column {
	one := columnWith(nil, [2]int{3, 7}, [2]int{4, 0})
	empty := columnWith(nil, [2]int{4, 0})
	banks := [][]impl.Column{
		nil,
		{},
		slices.Repeat([]impl.Column{empty}, 7),
		slices.Repeat([]impl.Column{empty}, 500),
		{one, one},
		{one, empty, columnWith(nil, [2]int{1, 0}, [2]int{1, 7})},
		{empty, columnWith(nil, [2]int{1, 1}, [2]int{2, 999}), empty, columnWith(nil, [2]int{1, 999}, [2]int{1, 0})},
	}
	for _, bad := range badColumns() {
		banks = append(banks, []impl.Column{bad}, []impl.Column{empty, bad}, []impl.Column{bad, empty})
	}
	return banks
}

func gapsOfBank(bank []impl.Column) []impl.Gap {
	gaps := []impl.Gap{}
	for i, c := range bank {
		gaps = append(gaps, gapsOf(c, i)...)
	}
	return gaps
}

func TestBankOk(t *testing.T) {
	empty := columnWith(nil, [2]int{4, 0})
	for i, bank := range [][]impl.Column{
		{empty},
		{empty, empty},
		slices.Repeat([]impl.Column{empty}, 6),
		{columnWith(nil, [2]int{4, 7}), columnWith(nil, [2]int{4, 8}), columnWith(nil, [2]int{4, 999})},
		{columnWith(nil, [2]int{4, -1}), columnWith(nil, [2]int{4, -1})},
	} {
		if !impl.BankOk(bank) {
			t.Errorf("valid bank %d is rejected", i)
		}
	}
	for i, bank := range badBanks() {
		if impl.BankOk(bank) {
			t.Errorf("bad bank %d is accepted", i)
		}
	}
}

func TestBankGapsAndFit(t *testing.T) {
	bank := []impl.Column{
		columnWith([]int{3}, [2]int{3, 0}, [2]int{5, 0}),
		columnWith(nil, [2]int{2, 0}, [2]int{1, 4}, [2]int{3, 0}),
		columnWith(nil, [2]int{6, -1}),
		columnWith(nil, [2]int{2, 0}),
	}
	if got := impl.BankGaps(bank); !slices.Equal(got, []impl.Gap{{Column: 0, Low: 0, Size: 3}, {Column: 0, Low: 3, Size: 5}, {Column: 1, Low: 0, Size: 2}, {Column: 1, Low: 3, Size: 3}, {Column: 3, Low: 0, Size: 2}}) {
		t.Error("unexpected gaps", got)
	}
	for size, want := range map[int]impl.Gap{
		1: {Column: 1, Low: 0, Size: 2}, 2: {Column: 1, Low: 0, Size: 2}, 3: {Column: 0, Low: 0, Size: 3}, 4: {Column: 0, Low: 3, Size: 5}, 5: {Column: 0, Low: 3, Size: 5},
		6: {}, 0: {}, -1: {}, math.MinInt: {}, math.MaxInt: {},
	} {
		if got, ok := impl.BankFit(bank, size); got != want || ok != (want.Size > 0) {
			t.Errorf("BankFit for size %d: %v, %v", size, got, ok)
		}
	}
	for i, bank := range badBanks() {
		if got := impl.BankGaps(bank); len(got) != 0 {
			t.Errorf("bad bank %d has gaps %v", i, got)
		}
		if got, ok := impl.BankFit(bank, 1); ok || got != (impl.Gap{}) {
			t.Errorf("bad bank %d: %v, %v", i, got, ok)
		}
	}
	r := rand.New(rand.NewSource(26))
	for range 500 {
		bank := someBank(r, 6)
		if got := impl.BankGaps(bank); !slices.Equal(got, gapsOfBank(bank)) {
			t.Fatal("unexpected gaps", bank, got)
		}
		for size := -1; size <= 26; size++ {
			want, fits := bestGap(gapsOfBank(bank), size)
			if got, ok := impl.BankFit(bank, size); got != want || ok != fits {
				t.Fatalf("BankFit for %v and size %d: %v, %v", bank, size, got, ok)
			}
		}
	}
}

func TestBankPut(t *testing.T) {
	bank := []impl.Column{columnWith(nil, [2]int{5, 0}), columnWith(nil, [2]int{2, 7}, [2]int{1, 0}, [2]int{2, 0}), columnWith(nil, [2]int{3, 0})}
	for i, c := range []struct {
		parcel, size int
		want         impl.Gap
		column       impl.Column
	}{
		{1, 3, impl.Gap{Column: 1, Low: 2, Size: 3}, columnWith(nil, [2]int{2, 7}, [2]int{3, 1})},
		{999, 2, impl.Gap{Column: 1, Low: 2, Size: 2}, columnWith(nil, [2]int{2, 7}, [2]int{2, 999}, [2]int{1, 0})},
		{1, 4, impl.Gap{Column: 0, Low: 0, Size: 4}, columnWith(nil, [2]int{4, 1}, [2]int{1, 0})},
		{1, 5, impl.Gap{Column: 0, Low: 0, Size: 5}, columnWith(nil, [2]int{5, 1})},
		{1, 6, impl.Gap{}, impl.Column{}}, {1, 0, impl.Gap{}, impl.Column{}}, {1, -3, impl.Gap{}, impl.Column{}}, {1, math.MaxInt, impl.Gap{}, impl.Column{}}, {1, math.MinInt, impl.Gap{}, impl.Column{}},
		{7, 3, impl.Gap{}, impl.Column{}}, {7, 5, impl.Gap{}, impl.Column{}}, {0, 3, impl.Gap{}, impl.Column{}}, {-1, 3, impl.Gap{}, impl.Column{}}, {1000, 3, impl.Gap{}, impl.Column{}},
		{math.MaxInt, 3, impl.Gap{}, impl.Column{}}, {math.MinInt, 3, impl.Gap{}, impl.Column{}},
	} {
		want := slices.Clone(bank)
		if c.want.Size > 0 {
			want[c.want.Column] = c.column
		}
		got, g, ok := impl.BankPut(bank, c.parcel, c.size)
		if !sameBank(got, want) || g != c.want || ok != (c.want.Size > 0) {
			t.Errorf("BankPut, case %d: %v, %v, %v", i, got, g, ok)
		}
	}
	for i, bad := range badBanks() {
		if got, g, ok := impl.BankPut(bad, 1, 1); ok || g != (impl.Gap{}) || !sameBank(got, bad) {
			t.Errorf("bad bank %d: %v, %v, %v", i, got, g, ok)
		}
	}
}

func TestBankTakeAndBoxOf(t *testing.T) {
	bank := []impl.Column{columnWith(nil, [2]int{5, 0}), columnWith(nil, [2]int{2, 7}, [2]int{1, 5}, [2]int{2, 0}), columnWith([]int{3}, [2]int{3, 0}, [2]int{2, 999})}
	bank[1].Boxes[1].Jammed = true
	for _, c := range []struct {
		parcel, column, low int
		ok                  bool
		taken               impl.Column
	}{
		{7, 1, 0, true, columnWith(nil, [2]int{2, 0}, [2]int{1, 5}, [2]int{2, 0})},
		{5, 1, 2, false, bank[1]},
		{999, 2, 3, true, columnWith([]int{3}, [2]int{3, 0}, [2]int{2, 0})},
		{0, -1, -1, false, impl.Column{}}, {-1, -1, -1, false, impl.Column{}}, {1, -1, -1, false, impl.Column{}}, {1000, -1, -1, false, impl.Column{}},
		{math.MaxInt, -1, -1, false, impl.Column{}}, {math.MinInt, -1, -1, false, impl.Column{}},
	} {
		if column, low := impl.BoxOf(bank, c.parcel); column != c.column || low != c.low {
			t.Errorf("BoxOf of parcel %d: %d, %d", c.parcel, column, low)
		}
		want := slices.Clone(bank)
		if c.column >= 0 {
			want[c.column] = c.taken
		}
		if c.column == 1 {
			want[1].Boxes[1].Jammed = true
		}
		if got, ok := impl.BankTake(bank, c.parcel); ok != c.ok || !sameBank(got, want) {
			t.Errorf("BankTake of parcel %d: %v, %v", c.parcel, got, ok)
		}
	}
	for i, bad := range badBanks() {
		for _, parcel := range []int{-1, 0, 7, 999, 1000} {
			if got, ok := impl.BankTake(bad, parcel); ok || !sameBank(got, bad) {
				t.Errorf("bad bank %d: %v, %v", i, got, ok)
			}
			if column, low := impl.BoxOf(bad, parcel); column != -1 || low != -1 {
				t.Errorf("bad bank %d: %d, %d", i, column, low)
			}
		}
	}
}

// A parcel goes into a gap of the least size that is enough, and all others stay where they are.
func TestBankPutAndTakeOneAfterTheOther(t *testing.T) {
	r := rand.New(rand.NewSource(27))
	for range 200 {
		bank := someBank(r, 6)
		for step := range 40 {
			parcel, size := 700+step, r.Intn(9)
			if r.Intn(8) == 0 {
				parcel = r.Intn(740)
			}
			column, _ := impl.BoxOf(bank, parcel)
			g, fits := bestGap(gapsOfBank(bank), size)
			want, wantGap, wantOk := slices.Clone(bank), impl.Gap{}, parcel > 0 && column < 0 && fits
			if wantOk {
				want[g.Column], wantGap = withParcel(bank[g.Column], g, parcel, size), impl.Gap{Column: g.Column, Low: g.Low, Size: size}
			}
			got, gap, ok := impl.BankPut(bank, parcel, size)
			if !sameBank(got, want) || gap != wantGap || ok != wantOk || !impl.BankOk(got) {
				t.Fatalf("BankPut for %v, %d and %d: %v, %v, %v", bank, parcel, size, got, gap, ok)
			}
			if column, low := impl.BoxOf(got, parcel); ok && (column != gap.Column || low != gap.Low) {
				t.Fatalf("BoxOf parcel %d in %v: %d, %d", parcel, got, column, low)
			}
			for _, c := range bank {
				for _, b := range c.Boxes {
					column, low := impl.BoxOf(bank, b.Parcel)
					if now, nowLow := impl.BoxOf(got, b.Parcel); now != column || nowLow != low {
						t.Fatalf("parcel %d was moved to %d, %d", b.Parcel, now, nowLow)
					}
				}
			}
			bank = got
			if out := 700 + r.Intn(40); r.Intn(2) == 0 {
				column, low := impl.BoxOf(bank, out)
				rest, taken := impl.BankTake(bank, out)
				jammed := column >= 0 && slices.ContainsFunc(bank[column].Boxes, func(b impl.Box) bool { return b.Low == low && b.Jammed })
				if now, _ := impl.BoxOf(rest, out); taken != (column >= 0 && !jammed) || taken && now != -1 || !taken && !sameBank(rest, bank) {
					t.Fatalf("BankTake of %d from %v: %v, %v", out, bank, rest, taken)
				}
				bank = rest
			}
			if i := r.Intn(len(bank)); r.Intn(6) == 0 {
				bank[i], _ = impl.SetJam(bank[i], r.Intn(bank[i].Height), r.Intn(3) == 0)
			}
		}
	}
}

func TestMostOf(t *testing.T) {
	bank := splitBank(1, 2, 3, 8, 10, 15, 9)
	for size, want := range map[int]int{1: 48, 2: 22, 3: 1 + 2 + 3 + 5 + 3, 8: 1 + 1 + 1 + 1, 9: 3, 15: 1, 16: 0, math.MaxInt: 0, 0: 0, -1: 0, -8: 0, math.MinInt: 0} {
		if got := impl.MostOf(bank, size); got != want {
			t.Errorf("MostOf for size %d: %d", size, got)
		}
	}
	for i, bad := range badBanks() {
		if got := impl.MostOf(bad, 1); got != 0 {
			t.Errorf("bad bank %d: %d", i, got)
		}
	}
}

// firstPlaces tries all lists of indexes in lexicographic order.
func firstPlaces(gaps []impl.Gap, sizes []int) ([]int, bool) {
	left := []int{}
	for _, g := range gaps {
		left = append(left, g.Size)
	}
	places := []int{}
	var try func() bool
	try = func() bool {
		if len(places) == len(sizes) {
			return true
		}
		size := sizes[len(places)]
		for i := range left {
			if left[i] >= size {
				left[i] -= size
				places = append(places, i)
				if try() {
					return true
				}
				places = places[:len(places)-1]
				left[i] += size
			}
		}
		return false
	}
	if !try() {
		return nil, false
	}
	return places, true
}

func TestPlacesFor(t *testing.T) {
	full := []impl.Column{columnWith(nil, [2]int{4, 7})}
	for i, c := range []struct {
		bank        []impl.Column
		sizes, want []int
		ok          bool
	}{
		{splitBank(4), nil, nil, true}, {full, nil, nil, true}, {full, []int{}, nil, true}, {full, []int{1}, nil, false},
		{splitBank(4), []int{4}, []int{0}, true}, {splitBank(4), []int{5}, nil, false}, {splitBank(4), []int{3, 1}, []int{0, 0}, true}, {splitBank(4), []int{3, 2}, nil, false},
		{splitBank(2, 3), []int{2, 3}, []int{0, 1}, true}, {splitBank(2, 3), []int{3, 2}, []int{1, 0}, true}, {splitBank(2, 3), []int{1, 2}, []int{0, 1}, true},
		{splitBank(3, 2), []int{1, 3}, []int{1, 0}, true}, {splitBank(3, 2), []int{3, 3}, nil, false}, {splitBank(3, 2), []int{1, 1, 3}, []int{1, 1, 0}, true}, {splitBank(3, 2), []int{2, 2}, []int{0, 1}, true},
		{splitBank(24), []int{24}, []int{0}, true}, {splitBank(24), []int{25}, nil, false}, {splitBank(24, 24), []int{24, 24}, []int{0, 1}, true},
		{splitBank(24), []int{1, 1, 1, 1, 1, 1, 1, 17}, []int{0, 0, 0, 0, 0, 0, 0, 0}, true}, {splitBank(24), []int{1, 1, 1, 1, 1, 1, 1, 1, 1}, nil, false},
		{splitBank(24), []int{1, 1, 1, 1, 1, 1, 1, 18}, nil, false},
		{splitBank(4), []int{0}, nil, false}, {splitBank(4), []int{1, 0}, nil, false}, {splitBank(4), []int{0, 1}, nil, false}, {splitBank(4), []int{-1}, nil, false}, {splitBank(4), []int{4, -4, 4}, nil, false},
		{splitBank(4), []int{math.MaxInt}, nil, false}, {splitBank(4), []int{math.MinInt}, nil, false}, {splitBank(4), []int{1, math.MaxInt}, nil, false},
		{splitBank(4), []int{math.MaxInt, math.MaxInt, 2}, nil, false}, {splitBank(4), []int{1, math.MaxInt, math.MaxInt, 2}, nil, false},
		{splitBank(4, 4), slices.Repeat([]int{1 << 61}, 8), nil, false}, {splitBank(4, 4), append([]int{1}, slices.Repeat([]int{1 << 62}, 4)...), nil, false},
		{splitBank(3, 3, 3), []int{2, 2, 2, 1, 1, 1}, []int{0, 1, 2, 0, 1, 2}, true}, {splitBank(3, 3, 3), []int{2, 2, 2, 2}, nil, false},
		{splitBank(5, 6), []int{2, 3, 3, 2}, []int{0, 0, 1, 1}, true}, {splitBank(5, 6), []int{2, 2, 3, 3}, []int{0, 0, 1, 1}, true}, {splitBank(6, 5), []int{2, 2, 3, 3}, []int{0, 1, 0, 1}, true},
		{splitBank(6, 5), []int{2, 3, 3, 3}, []int{1, 0, 0, 1}, true}, {splitBank(10, 10), []int{3, 3, 3, 3, 4, 4}, []int{0, 0, 1, 1, 0, 1}, true},
	} {
		got, ok := impl.PlacesFor(c.bank, c.sizes)
		if !slices.Equal(got, c.want) || ok != c.ok || !ok && got != nil {
			t.Errorf("PlacesFor, case %d: %v, %v", i, got, ok)
		}
		if impl.CanHold(c.bank, c.sizes) != c.ok {
			t.Errorf("CanHold, case %d: not %v", i, c.ok)
		}
	}
	for i, bad := range badBanks() {
		for _, sizes := range [][]int{nil, {1}} {
			if got, ok := impl.PlacesFor(bad, sizes); ok || got != nil || impl.CanHold(bad, sizes) {
				t.Errorf("bad bank %d: %v, %v", i, got, ok)
			}
		}
	}
}

func someSizes(r *rand.Rand, most int, greatest int) []int {
	sizes := []int{}
	for range r.Intn(most + 1) {
		sizes = append(sizes, 1+r.Intn(greatest))
	}
	return sizes
}

func TestPlacesForFindsTheFirstPlaces(t *testing.T) {
	r := rand.New(rand.NewSource(28))
	found := 0
	for range 4000 {
		bank := someBank(r, 1+r.Intn(3))
		gaps := gapsOfBank(bank)
		if len(gaps) > 6 {
			continue
		}
		sizes := someSizes(r, 6, 1+r.Intn(8))
		want, wantOk := firstPlaces(gaps, sizes)
		got, ok := impl.PlacesFor(bank, sizes)
		if ok != wantOk || !slices.Equal(got, want) || impl.CanHold(bank, sizes) != ok {
			t.Fatalf("PlacesFor for %v and %v: %v, %v instead of %v", gaps, sizes, got, ok, want)
		}
		if ok {
			found++
		}
	}
	if found < 500 || found > 3500 {
		t.Error("the banks are too full or too empty", found)
	}
}

// Sizes that just fill the gaps need a choice that looks ahead.
func TestPlacesForFillsAllGaps(t *testing.T) {
	r := rand.New(rand.NewSource(29))
	for range 2000 {
		whole, sizes := []int{}, []int{}
		for range 1 + r.Intn(3) {
			whole = append(whole, 0)
		}
		for range 6 {
			size := 1 + r.Intn(7)
			sizes = append(sizes, size)
			whole[r.Intn(len(whole))] += size
		}
		whole = slices.DeleteFunc(whole, func(n int) bool { return n == 0 || n > impl.MaxHeight })
		bank := splitBank(whole...)
		if !impl.BankOk(bank) {
			continue
		}
		want, wantOk := firstPlaces(gapsOfBank(bank), sizes)
		if got, ok := impl.PlacesFor(bank, sizes); ok != wantOk || !slices.Equal(got, want) {
			t.Fatalf("PlacesFor for %v and %v: %v, %v instead of %v", whole, sizes, got, ok, want)
		}
	}
}

func TestPlacesForEndsSoon(t *testing.T) {
	start := time.Now()
	many := splitBank(1, 2, 3, 4, 5, 6, 3, 7, 8, 9, 10, 14, 11, 13, 12, 12, 15, 8, 1)
	for _, sizes := range [][]int{{1, 2, 3, 4, 5, 6, 7, 16}, {7, 6, 5, 4, 3, 2, 1, 24}, {1, 1, 1, 1, 1, 1, 1, 16}, {15, 15, 1, 2, 3, 4, 5, 6}, {1, 2, 3, 4, 5, 6, 15, 15}} {
		if impl.CanHold(many, sizes) {
			t.Error("sizes that do not fit", sizes)
		}
	}
	if units := splitBank(slices.Repeat([]int{1}, 144)...); impl.CanHold(units, []int{1, 1, 1, 1, 1, 1, 1, 2}) || !impl.CanHold(units, slices.Repeat([]int{1}, 8)) {
		t.Error("unexpected sizes in gaps of one unit")
	}
	if took := time.Since(start); took > 10*time.Second {
		t.Error("the search took", took)
	}
}

// Sizes that are all 1, 2, 4 or 8 fit just if, for each of these, those that are at least as great have not more units than fit
// as boxes of it.
func TestPowersOfTwoFit(t *testing.T) {
	r := rand.New(rand.NewSource(30))
	fits := 0
	for range 4000 {
		bank := someBank(r, 1+r.Intn(2))
		sizes := []int{}
		for range r.Intn(9) {
			sizes = append(sizes, 1<<r.Intn(4))
		}
		want := true
		for _, d := range []int{1, 2, 4, 8} {
			units := 0
			for _, size := range sizes {
				if size >= d {
					units += size
				}
			}
			want = want && units <= d*impl.MostOf(bank, d)
		}
		if impl.CanHold(bank, sizes) != want {
			t.Fatalf("CanHold for %v and %v is not %v", gapsOfBank(bank), sizes, want)
		}
		if want {
			fits++
		}
	}
	if fits < 500 || fits > 3500 {
		t.Error("the banks are too full or too empty", fits)
	}
}

func TestHeldInOrder(t *testing.T) {
	full := []impl.Column{columnWith(nil, [2]int{4, 7})}
	for i, c := range []struct {
		bank  []impl.Column
		sizes []int
		want  int
	}{
		{splitBank(4), nil, 0}, {full, []int{1}, 0}, {splitBank(4), []int{4}, 1}, {splitBank(4), []int{5, 1}, 0}, {splitBank(4), []int{3, 1, 1}, 2}, {splitBank(4), []int{3, 2, 1}, 1},
		{splitBank(3, 2), []int{1, 1, 3}, 3}, {splitBank(2, 2), []int{1, 2, 1}, 3}, {splitBank(2, 2), []int{1, 1, 2}, 3}, {splitBank(3, 3), []int{1, 1, 3, 1}, 4}, {splitBank(3, 3), []int{1, 2, 3, 1}, 3},
		{splitBank(6, 5), []int{3, 3, 3}, 3}, {splitBank(6, 5), []int{3, 3, 3, 3}, 3}, {splitBank(4, 4), []int{3, 2, 3}, 2}, {splitBank(24), []int{1, 1, 1, 1, 1, 1, 1, 1}, 8}, {splitBank(24), []int{1, 1, 1, 1, 1, 1, 1, 1, 1}, 0},
		{splitBank(4), []int{1, 0}, 0}, {splitBank(4), []int{1, 1, -1}, 0}, {splitBank(4), []int{1, math.MinInt}, 0}, {splitBank(4), []int{1, math.MaxInt}, 1}, {splitBank(4), []int{math.MaxInt}, 0},
	} {
		if got := impl.HeldInOrder(c.bank, c.sizes); got != c.want {
			t.Errorf("HeldInOrder, case %d: %d", i, got)
		}
	}
	for i, bad := range badBanks() {
		if got := impl.HeldInOrder(bad, []int{1}); got != 0 {
			t.Errorf("bad bank %d: %d", i, got)
		}
	}
}

func TestHeldInOrderCountsPuts(t *testing.T) {
	r := rand.New(rand.NewSource(31))
	for range 2000 {
		bank := someBank(r, 1+r.Intn(3))
		sizes := someSizes(r, 8, 1+r.Intn(10))
		want := 0
		for put, ok := bank, true; want < len(sizes); want++ {
			if put, _, ok = impl.BankPut(put, 900+want, sizes[want]); !ok {
				break
			}
		}
		got := impl.HeldInOrder(bank, sizes)
		if got != want || got == len(sizes) && !impl.CanHold(bank, sizes) {
			t.Fatalf("HeldInOrder for %v and %v: %d instead of %d", gapsOfBank(bank), sizes, got, want)
		}
	}
}

func TestBanksOwnTheirMemory(t *testing.T) {
	good := []impl.Column{
		columnWith([]int{2, 4}, [2]int{1, 0}, [2]int{1, 0}, [2]int{2, 3}, [2]int{1, 0}, [2]int{2, 0}, [2]int{1, -1}),
		columnWith([]int{2}, [2]int{2, 9}, [2]int{6, 0}),
	}
	sizes := append(make([]int, 0, 4), 1, 3)
	for _, keep := range append(badBanks(), good) {
		bank := make([]impl.Column, 0, len(keep)+2)
		for _, c := range keep {
			bank = append(bank, copyOf(c))
		}
		for i, do := range []func() []impl.Column{
			func() []impl.Column { x, _, _ := impl.BankPut(bank, 1, 2); return x },
			func() []impl.Column { x, _, _ := impl.BankPut(bank, 1, 20); return x },
			func() []impl.Column { x, _, _ := impl.BankPut(bank, 0, 2); return x },
			func() []impl.Column { x, _ := impl.BankTake(bank, 3); return x },
			func() []impl.Column { x, _ := impl.BankTake(bank, 8); return x },
			func() []impl.Column { x, _ := impl.BankTake(bank, 0); return x },
			func() []impl.Column {
				impl.BankOk(bank)
				impl.BankGaps(bank)
				impl.BankFit(bank, 2)
				impl.BoxOf(bank, 3)
				impl.MostOf(bank, 2)
				impl.PlacesFor(bank, sizes)
				impl.HeldInOrder(bank, sizes)
				return nil
			},
		} {
			x := do()
			for k := range x {
				spoil(x[k])
			}
			for k := range x[:cap(x)] {
				x[:cap(x)][k] = impl.Column{Height: -7}
			}
			if !sameBank(bank, keep) || slices.ContainsFunc(bank, func(c impl.Column) bool { return !spares(c) }) || !sameColumn(bank[:cap(bank)][len(bank)], impl.Column{}) {
				t.Fatalf("call %d changed %v to %v", i, keep, bank)
			}
			if !slices.Equal(sizes[:4], []int{1, 3, 0, 0}) {
				t.Fatal("the sizes were changed", sizes[:4])
			}
		}
	}
}
