package tests

import (
	"math"
	"math/rand"
	"slices"
	"testing"

	"loop.example/g03318/impl"
)

func TestLimitsOfChapter2(t *testing.T) {
	limits := []int{impl.MaxHeight, impl.MaxColumns, impl.MaxParcel, impl.MaxSizes}
	if !slices.Equal(limits, []int{24, 6, 999, 8}) {
		t.Error("unexpected limits", limits)
	}
}

func sameColumn(a, b impl.Column) bool {
	return a.Height == b.Height && slices.Equal(a.Fixed, b.Fixed) && slices.Equal(a.Boxes, b.Boxes)
}

func sameBank(a, b []impl.Column) bool { return slices.EqualFunc(a, b, sameColumn) }

// columnWith returns the column with these boxes, one above the other: each has a size, and a parcel if it is above 0, or is
// jammed and empty if it is -1.
func columnWith(fixed []int, boxes ...[2]int) impl.Column {
	c := impl.Column{Fixed: fixed}
	for _, b := range boxes {
		c.Boxes = append(c.Boxes, impl.Box{Low: c.Height, Size: b[0], Parcel: max(0, b[1]), Jammed: b[1] < 0})
		c.Height += b[0]
	}
	return c
}

// copyOf returns a copy with spare capacity behind its slices.
func copyOf(c impl.Column) impl.Column {
	return impl.Column{Height: c.Height, Fixed: append(make([]int, 0, len(c.Fixed)+3), c.Fixed...), Boxes: append(make([]impl.Box, 0, len(c.Boxes)+3), c.Boxes...)}
}

// ones returns the column of n boxes of one unit.
func ones(n int) impl.Column {
	c := impl.Column{Height: n}
	for i := range n {
		c.Boxes = append(c.Boxes, impl.Box{Low: i, Size: 1})
	}
	return c
}

// someColumn returns a valid column with parcels from first on.
func someColumn(r *rand.Rand, first int) impl.Column {
	c := impl.Column{Height: 1 + r.Intn(impl.MaxHeight)}
	longest, taken, jammed, fixed := 1+r.Intn(6), r.Intn(5), r.Intn(3), r.Intn(4)
	for low := 0; low < c.Height; {
		b := impl.Box{Low: low, Size: min(1+r.Intn(longest), c.Height-low), Jammed: r.Intn(10) < jammed}
		if r.Intn(8) < taken {
			b.Parcel = first
			first++
		}
		if low > 0 && r.Intn(6) < fixed {
			c.Fixed = append(c.Fixed, low)
		}
		c.Boxes = append(c.Boxes, b)
		low += b.Size
	}
	return c
}

// badColumns returns columns that are not valid.
func badColumns() []impl.Column {
	whole := []impl.Box{{Size: 4}}
	return []impl.Column{
		{},
		{Height: 0, Boxes: []impl.Box{{}}},
		{Height: 4},
		{Height: -1},
		{Height: -4, Boxes: []impl.Box{{Size: -4}}},
		{Height: 25, Boxes: []impl.Box{{Size: 25}}},
		{Height: 25, Boxes: []impl.Box{{Size: 24}, {Low: 24, Size: 1}}},
		ones(25),
		{Height: math.MaxInt, Boxes: []impl.Box{{Size: math.MaxInt}}},
		{Height: math.MinInt, Boxes: []impl.Box{{Size: math.MinInt}}},
		{Height: 4, Boxes: []impl.Box{{Size: 3}}},
		{Height: 4, Boxes: []impl.Box{{Size: 5}}},
		{Height: 4, Boxes: []impl.Box{{Low: 1, Size: 3}}},
		{Height: 4, Boxes: []impl.Box{{Low: -1, Size: 5}}},
		{Height: 4, Boxes: []impl.Box{{Size: 2}, {Low: 3, Size: 1}}},
		{Height: 4, Boxes: []impl.Box{{Size: 2}, {Low: 1, Size: 3}}},
		{Height: 4, Boxes: []impl.Box{{Size: 2}, {Low: 2, Size: 0}, {Low: 2, Size: 2}}},
		{Height: 4, Boxes: []impl.Box{{Size: 0}, {Size: 4}}},
		{Height: 4, Boxes: []impl.Box{{Size: 4}, {Low: 4, Size: 0}}},
		{Height: 4, Boxes: []impl.Box{{Size: 5}, {Low: 5, Size: -1}}},
		{Height: 4, Boxes: []impl.Box{{Size: 2}, {Low: 2, Size: 3}, {Low: 5, Size: -1}}},
		{Height: 4, Boxes: []impl.Box{{Low: 2, Size: 2}, {Low: 0, Size: 2}}},
		{Height: 4, Boxes: []impl.Box{{Size: math.MaxInt}, {Low: math.MaxInt, Size: math.MaxInt}, {Low: -2, Size: 6}}},
		{Height: 4, Boxes: []impl.Box{{Size: 2}, {Low: 2, Size: math.MaxInt}, {Low: math.MinInt + 1, Size: math.MaxInt}, {Low: 0, Size: 4}}},
		{Height: 4, Boxes: []impl.Box{{Size: 2}, {Low: 2, Size: 2}, {Low: 4, Size: 2}}},
		{Height: 4, Boxes: []impl.Box{{Size: 4, Parcel: -1}}},
		{Height: 4, Boxes: []impl.Box{{Size: 4, Parcel: 1000}}},
		{Height: 4, Boxes: []impl.Box{{Size: 4, Parcel: math.MaxInt}}},
		{Height: 4, Boxes: []impl.Box{{Size: 4, Parcel: math.MinInt}}},
		{Height: 4, Boxes: []impl.Box{{Size: 2, Parcel: 7}, {Low: 2, Size: 2, Parcel: 7}}},
		{Height: 4, Boxes: []impl.Box{{Size: 2, Parcel: 1}, {Low: 2, Size: 2, Parcel: 1}}},
		{Height: 4, Boxes: []impl.Box{{Size: 2, Parcel: 999}, {Low: 2, Size: 2, Parcel: 999}}},
		{Height: 4, Boxes: []impl.Box{{Size: 1, Parcel: 7}, {Low: 1, Size: 1}, {Low: 2, Size: 2, Parcel: 7, Jammed: true}}},
		{Height: 4, Boxes: whole, Fixed: []int{2}},
		{Height: 4, Boxes: whole, Fixed: []int{0}},
		{Height: 4, Boxes: whole, Fixed: []int{4}},
		{Height: 4, Boxes: whole, Fixed: []int{-1}},
		{Height: 4, Boxes: whole, Fixed: []int{math.MaxInt}},
		{Height: 4, Boxes: whole, Fixed: []int{math.MinInt}},
		{Height: 4, Boxes: ones(4).Boxes, Fixed: []int{2, 2}},
		{Height: 4, Boxes: ones(4).Boxes, Fixed: []int{3, 1}},
		{Height: 4, Boxes: ones(4).Boxes, Fixed: []int{1, 4}},
		{Height: 4, Boxes: ones(4).Boxes, Fixed: []int{0, 1}},
		{Height: 4, Boxes: ones(4).Boxes, Fixed: []int{1, 2, 3, 4}},
		{Height: 4, Boxes: []impl.Box{{Size: 2}, {Low: 2, Size: 2}}, Fixed: []int{1, 2}},
		{Height: 4, Boxes: []impl.Box{{Size: 2}, {Low: 2, Size: 2}}, Fixed: []int{3}},
	}
}

func TestColumnOk(t *testing.T) {
	for i, c := range []impl.Column{
		{Height: 1, Boxes: []impl.Box{{Size: 1}}},
		{Height: 24, Boxes: []impl.Box{{Size: 24}}},
		ones(24),
		{Height: 24, Boxes: ones(24).Boxes, Fixed: []int{1, 2, 3, 4, 5, 6, 7, 8, 9, 10, 11, 12, 13, 14, 15, 16, 17, 18, 19, 20, 21, 22, 23}},
		{Height: 4, Boxes: ones(4).Boxes, Fixed: []int{}},
		{Height: 4, Boxes: ones(4).Boxes, Fixed: []int{1, 3}},
		{Height: 4, Boxes: []impl.Box{{Size: 1}, {Low: 1, Size: 2}, {Low: 3, Size: 1}}, Fixed: []int{1, 3}},
		{Height: 4, Boxes: []impl.Box{{Size: 4, Parcel: 1}}},
		{Height: 4, Boxes: []impl.Box{{Size: 4, Parcel: 999}}},
		{Height: 4, Boxes: []impl.Box{{Size: 3, Parcel: 999, Jammed: true}, {Low: 3, Size: 1, Jammed: true}}},
		{Height: 4, Boxes: []impl.Box{{Size: 1, Parcel: 5}, {Low: 1, Size: 1}, {Low: 2, Size: 1, Parcel: 4}, {Low: 3, Size: 1}}},
	} {
		if !impl.ColumnOk(c) {
			t.Errorf("valid column %d is rejected", i)
		}
	}
	for i, c := range badColumns() {
		if impl.ColumnOk(c) {
			t.Errorf("bad column %d is accepted", i)
		}
	}
	r := rand.New(rand.NewSource(20))
	for range 2000 {
		if c := someColumn(r, 1); !impl.ColumnOk(c) {
			t.Fatal("a valid column is rejected", c)
		}
	}
}

func TestNewColumn(t *testing.T) {
	for i, c := range []struct {
		height int
		fixed  []int
		sizes  []int
	}{
		{1, nil, []int{1}}, {24, nil, []int{24}}, {10, []int{4}, []int{4, 6}}, {10, []int{1}, []int{1, 9}}, {10, []int{9}, []int{9, 1}},
		{10, []int{1, 9}, []int{1, 8, 1}}, {3, []int{1, 2}, []int{1, 1, 1}}, {2, []int{1}, []int{1, 1}}, {24, []int{23}, []int{23, 1}}, {5, []int{}, []int{5}},
		{0, nil, nil}, {-1, nil, nil}, {25, nil, nil}, {math.MinInt, nil, nil}, {math.MaxInt, nil, nil}, {1, []int{1}, nil}, {1, []int{0}, nil},
		{10, []int{0}, nil}, {10, []int{10}, nil}, {10, []int{11}, nil}, {10, []int{-1}, nil}, {10, []int{4, 4}, nil}, {10, []int{5, 4}, nil}, {10, []int{0, 4}, nil},
		{10, []int{4, 10}, nil}, {10, []int{math.MinInt}, nil}, {10, []int{math.MaxInt}, nil}, {25, []int{4}, nil}, {0, []int{0}, nil},
		{10, []int{math.MinInt, math.MaxInt}, nil}, {math.MaxInt, []int{4, math.MaxInt - 1}, nil}, {4, []int{1, 2, 3, 4, 5, 6}, nil},
	} {
		want := impl.Column{}
		if c.sizes != nil {
			want.Fixed = c.fixed
		}
		for _, size := range c.sizes {
			want.Boxes = append(want.Boxes, impl.Box{Low: want.Height, Size: size})
			want.Height += size
		}
		if got, ok := impl.NewColumn(c.height, c.fixed); ok != (c.sizes != nil) || !sameColumn(got, want) {
			t.Errorf("NewColumn, case %d: %v, %v", i, got, ok)
		}
	}
	fixed := append(make([]int, 0, 5), 2, 3)
	c, _ := impl.NewColumn(8, fixed)
	c.Fixed[0] = 1
	_ = append(c.Fixed[:1], 7)
	if !slices.Equal(fixed[:5], []int{2, 3, 0, 0, 0}) {
		t.Error("the fixed walls were changed", fixed[:5])
	}
}

// gapsOf finds gaps unit by unit.
func gapsOf(c impl.Column, number int) []impl.Gap {
	free := make([]bool, c.Height+1)
	for _, b := range c.Boxes {
		for unit := b.Low; unit < b.Low+b.Size; unit++ {
			free[unit] = b.Parcel == 0 && !b.Jammed
		}
	}
	gaps := []impl.Gap{}
	for unit := range c.Height {
		switch {
		case !free[unit]:
		case unit == 0 || !free[unit-1] || slices.Contains(c.Fixed, unit):
			gaps = append(gaps, impl.Gap{Column: number, Low: unit, Size: 1})
		default:
			gaps[len(gaps)-1].Size++
		}
	}
	return gaps
}

// bestGap returns the gap with the least size from size on, the first one of several.
func bestGap(gaps []impl.Gap, size int) (impl.Gap, bool) {
	for enough := max(1, size); size >= 1 && enough <= impl.MaxHeight; enough++ {
		for _, g := range gaps {
			if g.Size == enough {
				return g, true
			}
		}
	}
	return impl.Gap{}, false
}

func TestGapsOf(t *testing.T) {
	for i, c := range []struct {
		column impl.Column
		want   []impl.Gap
	}{
		{columnWith(nil, [2]int{5, 0}), []impl.Gap{{Low: 0, Size: 5}}},
		{columnWith(nil, [2]int{5, 1}), nil},
		{columnWith(nil, [2]int{5, -1}), nil},
		{columnWith(nil, [2]int{2, 0}, [2]int{3, 0}, [2]int{1, 0}), []impl.Gap{{Low: 0, Size: 6}}},
		{columnWith([]int{2}, [2]int{2, 0}, [2]int{3, 0}, [2]int{1, 0}), []impl.Gap{{Low: 0, Size: 2}, {Low: 2, Size: 4}}},
		{columnWith([]int{2, 5}, [2]int{2, 0}, [2]int{3, 0}, [2]int{1, 0}), []impl.Gap{{Low: 0, Size: 2}, {Low: 2, Size: 3}, {Low: 5, Size: 1}}},
		{columnWith([]int{1, 5}, [2]int{1, 0}, [2]int{4, 0}, [2]int{1, 0}), []impl.Gap{{Low: 0, Size: 1}, {Low: 1, Size: 4}, {Low: 5, Size: 1}}},
		{columnWith(nil, [2]int{2, 0}, [2]int{3, 9}, [2]int{1, 0}), []impl.Gap{{Low: 0, Size: 2}, {Low: 5, Size: 1}}},
		{columnWith(nil, [2]int{2, 0}, [2]int{3, -1}, [2]int{1, 0}), []impl.Gap{{Low: 0, Size: 2}, {Low: 5, Size: 1}}},
		{columnWith([]int{2, 3}, [2]int{2, 9}, [2]int{1, 0}, [2]int{1, 0}, [2]int{1, 0}, [2]int{1, -1}), []impl.Gap{{Low: 2, Size: 1}, {Low: 3, Size: 2}}},
		{impl.Column{Height: 2, Boxes: []impl.Box{{Size: 1, Parcel: 4, Jammed: true}, {Low: 1, Size: 1}}}, []impl.Gap{{Low: 1, Size: 1}}},
	} {
		if got := impl.GapsOf(c.column); !slices.Equal(got, c.want) {
			t.Errorf("GapsOf, case %d: %v", i, got)
		}
	}
	for i, c := range badColumns() {
		if got := impl.GapsOf(c); len(got) != 0 {
			t.Errorf("bad column %d has gaps %v", i, got)
		}
	}
	r := rand.New(rand.NewSource(21))
	for range 3000 {
		if c := someColumn(r, 1); !slices.Equal(impl.GapsOf(c), gapsOf(c, 0)) {
			t.Fatal("unexpected gaps", c, impl.GapsOf(c))
		}
	}
}

func TestFitOf(t *testing.T) {
	c := columnWith([]int{7}, [2]int{4, 0}, [2]int{1, 8}, [2]int{2, 0}, [2]int{2, 0}, [2]int{1, -1}, [2]int{4, 0}, [2]int{1, 9})
	for _, f := range []struct{ size, low, all int }{
		{1, 5, 2}, {2, 5, 2}, {3, 0, 4}, {4, 0, 4}, {5, 0, 0}, {15, 0, 0}, {0, 0, 0}, {-1, 0, 0}, {math.MinInt, 0, 0}, {math.MaxInt, 0, 0},
	} {
		got, ok := impl.FitOf(c, f.size)
		if want := (impl.Gap{Low: f.low, Size: f.all}); got != want || ok != (f.all > 0) {
			t.Errorf("FitOf for size %d: %v, %v", f.size, got, ok)
		}
	}
	for i, c := range badColumns() {
		if got, ok := impl.FitOf(c, 1); ok || got != (impl.Gap{}) {
			t.Errorf("bad column %d: %v, %v", i, got, ok)
		}
	}
	r := rand.New(rand.NewSource(22))
	for range 1000 {
		c := someColumn(r, 1)
		for size := -1; size <= 26; size++ {
			want, fits := bestGap(gapsOf(c, 0), size)
			if got, ok := impl.FitOf(c, size); got != want || ok != fits {
				t.Fatalf("FitOf for %v and size %d: %v, %v", c, size, got, ok)
			}
		}
	}
}

func TestPutIn(t *testing.T) {
	empty := columnWith(nil, [2]int{5, 0})
	walls := columnWith([]int{3, 7}, [2]int{3, 0}, [2]int{2, 0}, [2]int{2, 0}, [2]int{3, 0})
	rest := columnWith(nil, [2]int{3, 2}, [2]int{4, 0}, [2]int{2, 3}, [2]int{1, 0}, [2]int{1, 0}, [2]int{2, -1}, [2]int{2, 0}, [2]int{1, 4})
	for i, c := range []struct {
		column       impl.Column
		parcel, size int
		want         impl.Column
		low          int
	}{
		{empty, 1, 5, columnWith(nil, [2]int{5, 1}), 0},
		{empty, 999, 4, columnWith(nil, [2]int{4, 999}, [2]int{1, 0}), 0},
		{empty, 1, 1, columnWith(nil, [2]int{1, 1}, [2]int{4, 0}), 0},
		{empty, 1, 6, empty, -1},
		{empty, 1, math.MaxInt, empty, -1},
		{empty, 1, 0, empty, -1},
		{empty, 1, -1, empty, -1},
		{empty, 1, math.MinInt, empty, -1},
		{empty, 0, 3, empty, -1},
		{empty, -1, 3, empty, -1},
		{empty, 1000, 3, empty, -1},
		{empty, math.MaxInt, 3, empty, -1},
		{empty, math.MinInt, 3, empty, -1},
		{walls, 1, 3, columnWith([]int{3, 7}, [2]int{3, 1}, [2]int{2, 0}, [2]int{2, 0}, [2]int{3, 0}), 0},
		{walls, 1, 2, columnWith([]int{3, 7}, [2]int{2, 1}, [2]int{1, 0}, [2]int{2, 0}, [2]int{2, 0}, [2]int{3, 0}), 0},
		{walls, 1, 4, columnWith([]int{3, 7}, [2]int{3, 0}, [2]int{4, 1}, [2]int{3, 0}), 3},
		{walls, 1, 5, walls, -1},
		{rest, 1, 1, columnWith(nil, [2]int{3, 2}, [2]int{4, 0}, [2]int{2, 3}, [2]int{1, 1}, [2]int{1, 0}, [2]int{2, -1}, [2]int{2, 0}, [2]int{1, 4}), 9},
		{rest, 1, 2, columnWith(nil, [2]int{3, 2}, [2]int{4, 0}, [2]int{2, 3}, [2]int{2, 1}, [2]int{2, -1}, [2]int{2, 0}, [2]int{1, 4}), 9},
		{rest, 1, 3, columnWith(nil, [2]int{3, 2}, [2]int{3, 1}, [2]int{1, 0}, [2]int{2, 3}, [2]int{1, 0}, [2]int{1, 0}, [2]int{2, -1}, [2]int{2, 0}, [2]int{1, 4}), 3},
		{rest, 1, 4, columnWith(nil, [2]int{3, 2}, [2]int{4, 1}, [2]int{2, 3}, [2]int{1, 0}, [2]int{1, 0}, [2]int{2, -1}, [2]int{2, 0}, [2]int{1, 4}), 3},
		{rest, 3, 1, rest, -1},
		{rest, 4, 2, rest, -1},
		{rest, 1, 16, rest, -1},
		{columnWith(nil, [2]int{2, -1}, [2]int{2, 5}), 1, 1, columnWith(nil, [2]int{2, -1}, [2]int{2, 5}), -1},
	} {
		got, low, ok := impl.PutIn(c.column, c.parcel, c.size)
		if !sameColumn(got, c.want) || low != c.low || ok != (c.low >= 0) {
			t.Errorf("PutIn, case %d: %v, %d, %v", i, got, low, ok)
		}
	}
	for i, c := range badColumns() {
		if got, low, ok := impl.PutIn(c, 1, 1); ok || low != -1 || !sameColumn(got, c) {
			t.Errorf("bad column %d: %v, %d, %v", i, got, low, ok)
		}
	}
}

// withParcel returns the column after a parcel was put into the lowest units of a gap.
func withParcel(c impl.Column, g impl.Gap, parcel int, size int) impl.Column {
	want := impl.Column{Height: c.Height, Fixed: c.Fixed}
	for _, b := range c.Boxes {
		switch {
		case b.Low == g.Low:
			want.Boxes = append(want.Boxes, impl.Box{Low: g.Low, Size: size, Parcel: parcel})
			if g.Size > size {
				want.Boxes = append(want.Boxes, impl.Box{Low: g.Low + size, Size: g.Size - size})
			}
		case b.Low < g.Low || b.Low >= g.Low+g.Size:
			want.Boxes = append(want.Boxes, b)
		}
	}
	return want
}

func TestPutInOneAfterTheOther(t *testing.T) {
	r := rand.New(rand.NewSource(23))
	for range 500 {
		c := someColumn(r, 1)
		for step := range 40 {
			parcel, size := 500+step, r.Intn(8)
			if r.Intn(8) == 0 {
				parcel = r.Intn(540)
			}
			has := slices.ContainsFunc(c.Boxes, func(b impl.Box) bool { return b.Parcel == parcel })
			g, fits := bestGap(gapsOf(c, 0), size)
			want, wantLow, wantOk := c, -1, parcel > 0 && !has && fits
			if wantOk {
				want, wantLow = withParcel(c, g, parcel, size), g.Low
			}
			got, low, ok := impl.PutIn(c, parcel, size)
			if !sameColumn(got, want) || low != wantLow || ok != wantOk || !impl.ColumnOk(got) {
				t.Fatalf("PutIn for %v, %d and %d: %v, %d, %v", c, parcel, size, got, low, ok)
			}
			c = got
			if r.Intn(3) == 0 {
				c, _ = impl.TakeOut(c, c.Boxes[r.Intn(len(c.Boxes))].Parcel)
			}
			if r.Intn(6) == 0 {
				c, _ = impl.SetJam(c, r.Intn(c.Height), r.Intn(3) == 0)
			}
		}
	}
}

func TestTakeOut(t *testing.T) {
	c := columnWith([]int{3}, [2]int{3, 2}, [2]int{4, 0}, [2]int{2, 999}, [2]int{1, -1}, [2]int{1, 5}, [2]int{2, 1})
	c.Boxes[4].Jammed = true
	first := columnWith([]int{3}, [2]int{3, 0}, [2]int{4, 0}, [2]int{2, 999}, [2]int{1, -1}, [2]int{1, 5}, [2]int{2, 1})
	third := columnWith([]int{3}, [2]int{3, 2}, [2]int{4, 0}, [2]int{2, 0}, [2]int{1, -1}, [2]int{1, 5}, [2]int{2, 1})
	last := columnWith([]int{3}, [2]int{3, 2}, [2]int{4, 0}, [2]int{2, 999}, [2]int{1, -1}, [2]int{1, 5}, [2]int{2, 0})
	first.Boxes[4].Jammed, third.Boxes[4].Jammed, last.Boxes[4].Jammed = true, true, true
	for _, k := range []struct {
		parcel int
		want   impl.Column
		ok     bool
	}{{2, first, true}, {999, third, true}, {1, last, true}, {5, c, false}, {0, c, false}, {-1, c, false}, {3, c, false}, {1000, c, false}, {math.MaxInt, c, false}, {math.MinInt, c, false}} {
		if got, ok := impl.TakeOut(c, k.parcel); ok != k.ok || !sameColumn(got, k.want) {
			t.Errorf("TakeOut of parcel %d: %v, %v", k.parcel, got, ok)
		}
	}
	for i, bad := range badColumns() {
		for _, parcel := range []int{-1, 0, 7, 1000} {
			if got, ok := impl.TakeOut(bad, parcel); ok || !sameColumn(got, bad) {
				t.Errorf("bad column %d: %v, %v", i, got, ok)
			}
		}
	}
}

func TestSetJam(t *testing.T) {
	r := rand.New(rand.NewSource(24))
	for range 500 {
		c := someColumn(r, 1)
		for _, jammed := range []bool{false, true} {
			for unit := -2; unit < c.Height+2; unit++ {
				want, found := copyOf(c), false
				for i, b := range want.Boxes {
					if b.Low <= unit && unit < b.Low+b.Size {
						want.Boxes[i].Jammed, found = jammed, true
					}
				}
				if got, ok := impl.SetJam(c, unit, jammed); ok != found || !sameColumn(got, want) {
					t.Fatalf("SetJam for %v, unit %d: %v, %v", c, unit, got, ok)
				}
			}
		}
		for _, unit := range []int{math.MinInt, math.MaxInt} {
			if got, ok := impl.SetJam(c, unit, true); ok || !sameColumn(got, c) {
				t.Fatalf("SetJam for %v, unit %d: %v, %v", c, unit, got, ok)
			}
		}
	}
	for i, bad := range badColumns() {
		for unit := range 2 {
			if got, ok := impl.SetJam(bad, unit, true); ok || !sameColumn(got, bad) {
				t.Errorf("bad column %d: %v, %v", i, got, ok)
			}
		}
	}
}

func TestCleared(t *testing.T) {
	c := columnWith([]int{5}, [2]int{1, 0}, [2]int{2, 0}, [2]int{2, 0}, [2]int{1, 0}, [2]int{2, 0}, [2]int{1, 7}, [2]int{1, -1}, [2]int{1, 0})
	if got := impl.Cleared(c); !sameColumn(got, columnWith([]int{5}, [2]int{5, 0}, [2]int{3, 0}, [2]int{1, 7}, [2]int{1, -1}, [2]int{1, 0})) {
		t.Error("unexpected boxes", got)
	}
	for i, bad := range badColumns() {
		if got := impl.Cleared(bad); !sameColumn(got, bad) {
			t.Errorf("bad column %d: %v", i, got)
		}
	}
	r := rand.New(rand.NewSource(25))
	for range 1000 {
		c := someColumn(r, 1)
		want := c
		for _, g := range gapsOf(c, 0) {
			want = withParcel(want, g, 0, g.Size)
		}
		if got := impl.Cleared(c); !sameColumn(got, want) || !slices.Equal(impl.GapsOf(got), impl.GapsOf(c)) || !sameColumn(impl.Cleared(got), got) {
			t.Fatal("unexpected boxes", c, got)
		}
	}
}

// spoil writes into all memory of a column, also behind its slices.
func spoil(c impl.Column) {
	for i := range c.Fixed[:cap(c.Fixed)] {
		c.Fixed[:cap(c.Fixed)][i] = -7
	}
	for i := range c.Boxes[:cap(c.Boxes)] {
		c.Boxes[:cap(c.Boxes)][i] = impl.Box{Low: -7, Size: -7, Parcel: -7, Jammed: true}
	}
}

// spares tells whether a column made by copyOf has nothing behind its slices still.
func spares(c impl.Column) bool {
	boxes := c.Boxes[len(c.Boxes):cap(c.Boxes)]
	fixed := c.Fixed[len(c.Fixed):cap(c.Fixed)]
	return !slices.ContainsFunc(boxes, func(b impl.Box) bool { return b != impl.Box{} }) && !slices.ContainsFunc(fixed, func(n int) bool { return n != 0 })
}

func TestColumnsOwnTheirMemory(t *testing.T) {
	good := columnWith([]int{2, 4}, [2]int{1, 0}, [2]int{1, 0}, [2]int{2, 3}, [2]int{1, 0}, [2]int{2, 0}, [2]int{1, -1})
	for _, keep := range append(badColumns(), good) {
		c := copyOf(keep)
		for i, do := range []func() impl.Column{
			func() impl.Column { x, _, _ := impl.PutIn(c, 1, 2); return x },
			func() impl.Column { x, _, _ := impl.PutIn(c, 1, 20); return x },
			func() impl.Column { x, _, _ := impl.PutIn(c, 0, 2); return x },
			func() impl.Column { x, _ := impl.TakeOut(c, 3); return x },
			func() impl.Column { x, _ := impl.TakeOut(c, 8); return x },
			func() impl.Column { x, _ := impl.TakeOut(c, 0); return x },
			func() impl.Column { x, _ := impl.SetJam(c, 2, true); return x },
			func() impl.Column { x, _ := impl.SetJam(c, 99, true); return x },
			func() impl.Column { return impl.Cleared(c) },
			func() impl.Column { impl.ColumnOk(c); impl.GapsOf(c); impl.FitOf(c, 1); return impl.Column{} },
		} {
			x := do()
			if !sameColumn(c, keep) || !spares(c) {
				t.Fatalf("call %d changed %v to %v", i, keep, c)
			}
			spoil(x)
			if !sameColumn(c, keep) || !spares(c) {
				t.Fatalf("call %d shares memory with %v", i, keep)
			}
		}
	}
}
