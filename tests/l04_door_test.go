package tests

import (
	"fmt"
	"math"
	"slices"
	"strings"
	"testing"

	"loop.example/g03318/impl"
)

var stepNames = []string{"none", "meant", "loose", "open", "moved", "shut", "fast"}

var verdictNames = []string{"idle", "ask", "open", "done", "undone"}

// door reads a door from its kind, its step and the first letters of what is set (or -), such as "put moved LOF".
func door(text string) impl.Door {
	f := strings.Fields(text)
	kind := slices.Index([]string{"idle", "put", "take"}, f[0])
	step := slices.Index(stepNames, f[1])
	if len(f) != 3 || kind < 0 || step < 0 || strings.Trim(f[2], "LOF-") != "" {
		panic("no door: " + text)
	}
	return impl.Door{Kind: kind, Step: step, Loose: strings.Contains(f[2], "L"), Open: strings.Contains(f[2], "O"), Full: strings.Contains(f[2], "F")}
}

// validDoors has all doors that there are.
var validDoors = []string{
	"idle none -", "idle none F",

	"put none -", "put none F", "put none L", "put none LF", "put none LO", "put none LOF",
	"put meant -",
	"put loose L",
	"put open LO",
	"put moved LOF",
	"put shut L", "put shut LF",
	"put fast -", "put fast F",

	"take none -", "take none F", "take none L", "take none LF", "take none LO", "take none LOF",
	"take meant F",
	"take loose LF",
	"take open LOF",
	"take moved LO",
	"take shut L", "take shut LF",
	"take fast -", "take fast F",
}

// goodDoors returns the doors of validDoors.
func goodDoors() []impl.Door {
	list := []impl.Door{}
	for _, text := range validDoors {
		list = append(list, door(text))
	}
	return list
}

// farNumbers are numbers that are out of every range.
func farNumbers() []int {
	return []int{-2, -1, 10, 100, 256, 1 << 32, 1<<32 + 1, -1 << 32, math.MaxInt, math.MinInt, math.MaxInt - 1, math.MinInt + 1}
}

// badDoors returns doors that are not valid: all others with a kind and step in the range, and those with one out of it.
func badDoors() []impl.Door {
	good := goodDoors()
	list := []impl.Door{}
	add := func(kind int, step int) {
		for bits := range 8 {
			d := impl.Door{Kind: kind, Step: step, Loose: bits&1 != 0, Open: bits&2 != 0, Full: bits&4 != 0}
			if !slices.Contains(good, d) {
				list = append(list, d)
			}
		}
	}
	for _, kind := range append(farNumbers(), 0, 1, 2, 3) {
		for _, step := range append(farNumbers(), 0, 1, 2, 3, 4, 5, 6, 7) {
			add(kind, step)
		}
	}
	return list
}

func TestConstantsOfChapter4(t *testing.T) {
	for i, c := range []struct {
		got, want []int
	}{
		{[]int{impl.KindPut, impl.KindTake}, []int{1, 2}},
		{[]int{impl.StepNone, impl.StepMeant, impl.StepLoose, impl.StepOpen, impl.StepMoved, impl.StepShut, impl.StepFast}, []int{0, 1, 2, 3, 4, 5, 6}},
		{[]int{impl.ActOpen, impl.ActMove, impl.ActShut}, []int{1, 2, 3}},
		{[]int{impl.VdIdle, impl.VdAsk, impl.VdOpen, impl.VdDone, impl.VdUndone}, []int{0, 1, 2, 3, 4}},
		{[]int{impl.DoAdvance, impl.DoRelent, impl.DoCut, impl.DoOpen, impl.DoMove, impl.DoShut, impl.DoRecover, impl.DoPut, impl.DoTake}, []int{1, 2, 3, 4, 5, 6, 7, 8, 9}},
		{[]int{impl.MaxActs}, []int{200}},
	} {
		if !slices.Equal(c.got, c.want) {
			t.Error("unexpected constants", i, c.got)
		}
	}
}

func TestDoorOk(t *testing.T) {
	for _, text := range validDoors {
		if !impl.DoorOk(door(text)) {
			t.Error("a valid door is rejected:", text)
		}
	}
	bad := badDoors()
	for _, d := range bad {
		if impl.DoorOk(d) {
			t.Errorf("a bad door is accepted: %+v", d)
		}
	}
	// Every combination of the numbers and of the three, but the valid ones.
	if want := 16*20*8 - len(validDoors); len(bad) != want {
		t.Errorf("%d bad doors instead of %d", len(bad), want)
	}
}

func TestStepName(t *testing.T) {
	for step, want := range stepNames {
		if got := impl.StepName(step); got != want {
			t.Errorf("StepName(%d): %q instead of %q", step, got, want)
		}
	}
	for _, step := range append(farNumbers(), 7) {
		if got := impl.StepName(step); got != "" {
			t.Errorf("StepName(%d): %q", step, got)
		}
	}
}

// follow checks what a function does to each door: the doors in wanted become those behind them, and all others stay, with false.
func follow(t *testing.T, name string, do func(d impl.Door) (impl.Door, bool), wanted map[string]string) {
	t.Helper()
	for _, text := range validDoors {
		next, possible := wanted[text]
		want := door(text)
		if possible {
			want = door(next)
		}
		if got, ok := do(door(text)); got != want || ok != possible {
			t.Errorf("%s of %s: %+v, %v", name, text, got, ok)
		}
	}
	for text := range wanted {
		if !slices.Contains(validDoors, text) {
			t.Errorf("%s is expected of a door that is not valid: %s", name, text)
		}
	}
	for _, d := range badDoors() {
		if got, ok := do(d); got != d || ok {
			t.Errorf("%s of a bad door %+v: %+v, %v", name, d, got, ok)
		}
	}
}

func TestBeginDoor(t *testing.T) {
	begin := func(kind int) func(d impl.Door) (impl.Door, bool) {
		return func(d impl.Door) (impl.Door, bool) { return impl.BeginDoor(d, kind) }
	}
	follow(t, "BeginDoor to put", begin(impl.KindPut), map[string]string{"idle none -": "put meant -"})
	follow(t, "BeginDoor to take", begin(impl.KindTake), map[string]string{"idle none F": "take meant F"})
	for _, kind := range append(farNumbers(), 0, 3) {
		follow(t, fmt.Sprint("BeginDoor for ", kind), begin(kind), nil)
	}
}

func TestAdvance(t *testing.T) {
	follow(t, "Advance", impl.Advance, map[string]string{
		"put meant -":   "put loose L",
		"put loose L":   "put open LO",
		"put open LO":   "put moved LOF",
		"put moved LOF": "put shut LF",
		"put shut LF":   "put fast F",
		"put shut L":    "put fast -",
		"put fast F":    "idle none F",
		"put fast -":    "idle none -",

		"take meant F":  "take loose LF",
		"take loose LF": "take open LOF",
		"take open LOF": "take moved LO",
		"take moved LO": "take shut L",
		"take shut L":   "take fast -",
		"take shut LF":  "take fast F",
		"take fast -":   "idle none -",
		"take fast F":   "idle none F",
	})
}

func TestRelent(t *testing.T) {
	follow(t, "Relent", impl.Relent, map[string]string{
		"put moved LOF": "put open LO",
		"put open LO":   "put shut L",
		"put loose L":   "put shut L",

		"take moved LO": "take open LOF",
		"take open LOF": "take shut LF",
		"take loose LF": "take shut LF",
	})
}

func TestCutPower(t *testing.T) {
	for _, text := range validDoors {
		f := strings.Fields(text)
		if got, want := impl.CutPower(door(text)), door(f[0]+" none "+f[2]); got != want {
			t.Errorf("CutPower of %s: %+v", text, got)
		}
	}
	for _, d := range badDoors() {
		if got := impl.CutPower(d); got != d {
			t.Errorf("CutPower of a bad door %+v: %+v", d, got)
		}
	}
}

func TestHand(t *testing.T) {
	hand := func(act int) func(d impl.Door) (impl.Door, bool) {
		return func(d impl.Door) (impl.Door, bool) { return impl.Hand(d, act) }
	}
	follow(t, "Hand that opens", hand(impl.ActOpen), map[string]string{
		"put none L": "put none LO", "put none LF": "put none LOF",
		"take none L": "take none LO", "take none LF": "take none LOF",
	})
	follow(t, "Hand that moves", hand(impl.ActMove), map[string]string{
		"put none LO": "put none LOF", "put none LOF": "put none LO",
		"take none LO": "take none LOF", "take none LOF": "take none LO",
	})
	follow(t, "Hand that shuts", hand(impl.ActShut), map[string]string{
		"put none LO": "put none L", "put none LOF": "put none LF",
		"take none LO": "take none L", "take none LOF": "take none LF",
	})
	for _, act := range append(farNumbers(), 0, 4) {
		follow(t, fmt.Sprint("Hand with the act ", act), hand(act), nil)
	}
}

// wholeOperations has the doors of operations, from the beginning to the end, and the acts that lead from each to the next.
var wholeOperations = []struct {
	acts  []int
	doors []string
}{
	{
		[]int{impl.DoPut, impl.DoAdvance, impl.DoAdvance, impl.DoAdvance, impl.DoAdvance, impl.DoAdvance, impl.DoAdvance},
		[]string{"idle none -", "put meant -", "put loose L", "put open LO", "put moved LOF", "put shut LF", "put fast F", "idle none F"},
	},
	{
		[]int{impl.DoTake, impl.DoAdvance, impl.DoAdvance, impl.DoAdvance, impl.DoAdvance, impl.DoAdvance, impl.DoAdvance},
		[]string{"idle none F", "take meant F", "take loose LF", "take open LOF", "take moved LO", "take shut L", "take fast -", "idle none -"},
	},
	{ // a change of mind before the door is opened
		[]int{impl.DoPut, impl.DoAdvance, impl.DoRelent, impl.DoAdvance, impl.DoAdvance},
		[]string{"idle none -", "put meant -", "put loose L", "put shut L", "put fast -", "idle none -"},
	},
	{
		[]int{impl.DoTake, impl.DoAdvance, impl.DoRelent, impl.DoAdvance, impl.DoAdvance},
		[]string{"idle none F", "take meant F", "take loose LF", "take shut LF", "take fast F", "idle none F"},
	},
	{ // at the open door
		[]int{impl.DoPut, impl.DoAdvance, impl.DoAdvance, impl.DoRelent, impl.DoAdvance, impl.DoAdvance},
		[]string{"idle none -", "put meant -", "put loose L", "put open LO", "put shut L", "put fast -", "idle none -"},
	},
	{
		[]int{impl.DoTake, impl.DoAdvance, impl.DoAdvance, impl.DoRelent, impl.DoAdvance, impl.DoAdvance},
		[]string{"idle none F", "take meant F", "take loose LF", "take open LOF", "take shut LF", "take fast F", "idle none F"},
	},
	{ // after the move, and once more
		[]int{impl.DoPut, impl.DoAdvance, impl.DoAdvance, impl.DoAdvance, impl.DoRelent, impl.DoAdvance, impl.DoRelent, impl.DoRelent, impl.DoAdvance, impl.DoAdvance},
		[]string{"idle none -", "put meant -", "put loose L", "put open LO", "put moved LOF", "put open LO", "put moved LOF", "put open LO", "put shut L", "put fast -", "idle none -"},
	},
	{
		[]int{impl.DoTake, impl.DoAdvance, impl.DoAdvance, impl.DoAdvance, impl.DoRelent, impl.DoAdvance, impl.DoAdvance, impl.DoAdvance, impl.DoAdvance},
		[]string{"idle none F", "take meant F", "take loose LF", "take open LOF", "take moved LO", "take open LOF", "take moved LO", "take shut L", "take fast -", "idle none -"},
	},
}

// acted performs one act of DoActs with the function that it stands for.
func acted(d impl.Door, act int) impl.Door {
	switch act {
	case 1:
		d, _ = impl.Advance(d)
	case 2:
		d, _ = impl.Relent(d)
	case 3:
		d = impl.CutPower(d)
	case 4, 5, 6:
		d, _ = impl.Hand(d, act-3)
	case 7:
		d, _, _ = impl.Recover(d, impl.Faults{})
	case 8, 9:
		d, _ = impl.BeginDoor(d, act-7)
	}
	return d
}

func TestWholeOperations(t *testing.T) {
	for i, o := range wholeOperations {
		if len(o.doors) != len(o.acts)+1 {
			t.Fatal("an operation with a wrong number of doors", i)
		}
		d := door(o.doors[0])
		for j, act := range o.acts {
			d = acted(d, act)
			if d != door(o.doors[j+1]) {
				t.Fatalf("operation %d, act %d: %+v instead of %s", i, j, d, o.doors[j+1])
			}
			part, changes := impl.DoActs(door(o.doors[0]), o.acts[:j+1])
			if part != d || len(changes) != j+1 {
				t.Errorf("operation %d up to act %d: %+v, %v", i, j, part, changes)
			}
		}
	}
}

// After a power cut at any step, the door comes back as it was left, and the operation is settled as what is inside tells.
func TestOperationsWithAPowerCut(t *testing.T) {
	for i, o := range wholeOperations {
		for j, text := range o.doors {
			before := door(text)
			acts := append(slices.Clone(o.acts[:j]), impl.DoCut)
			cut, _ := impl.DoActs(door(o.doors[0]), acts)
			if want := (impl.Door{Kind: before.Kind, Loose: before.Loose, Open: before.Open, Full: before.Full}); cut != want {
				t.Errorf("operation %d, cut after %d acts: %+v", i, j, cut)
			}
			if _, ok := impl.Advance(cut); ok {
				t.Errorf("operation %d leads on without power after %d acts", i, j)
			}
			if _, ok := impl.Relent(cut); ok {
				t.Errorf("operation %d leads back without power after %d acts", i, j)
			}
			want := cut
			if before.Kind != 0 && !before.Open {
				want = impl.Door{Full: before.Full}
			}
			if got, _ := impl.DoActs(cut, []int{impl.DoRecover}); got != want {
				t.Errorf("operation %d, recovered after %d acts: %+v", i, j, got)
			}
		}
	}
}

func TestDoActs(t *testing.T) {
	for _, c := range []struct {
		door    string
		acts    []int
		want    string
		changes []int
	}{
		{"idle none -", nil, "idle none -", nil},
		{"take open LOF", []int{}, "take open LOF", nil},
		{"idle none -", []int{1}, "idle none -", nil},
		{"idle none -", []int{2, 3, 4, 5, 6, 7, 9, 1}, "idle none -", nil},
		{"idle none F", []int{2, 3, 4, 5, 6, 7, 8, 1}, "idle none F", nil},
		{"idle none -", []int{9, 8, 8, 2, 1, 9, 1, 4, 1}, "put moved LOF", []int{1, 4, 6, 8}},
		{"put moved LOF", []int{4, 3, 7, 6, 6, 7, 7}, "idle none F", []int{1, 3, 5}},
		{"take none L", []int{1, 2, 3, 4, 4, 5, 7, 6, 5, 7, 8, 9}, "take meant F", []int{3, 5, 7, 9, 11}},
		{"take loose LF", []int{3, 3, 4, 7, 5, 5, 5, 7, 6, 7, 9, 8}, "put meant -", []int{0, 2, 4, 5, 6, 8, 9, 11}},
		{"put none -", []int{4, 5, 6, 3, 1, 2, 8, 9, 7}, "idle none -", []int{8}},
		{"put shut LF", []int{1, 2, 1, 1, 8, 9}, "take meant F", []int{0, 2, 5}},
		{"put fast F", []int{4, 5, 6, 7, 2, 8, 9, 1}, "idle none F", []int{7}},
		{"put open LO", []int{1, 2, 1, 2, 1, 2}, "put open LO", []int{0, 1, 2, 3, 4, 5}},
	} {
		given := slices.Clone(c.acts)
		got, changes := impl.DoActs(door(c.door), c.acts)
		if got != door(c.want) || !slices.Equal(changes, c.changes) {
			t.Errorf("DoActs of %s for %v: %+v, %v", c.door, c.acts, got, changes)
		}
		if !slices.Equal(c.acts, given) {
			t.Error("DoActs changes its acts", given, c.acts)
		}
	}
}

// All lists of few acts, from all doors, against the functions for which the acts stand.
func TestDoActsFollowsItsActs(t *testing.T) {
	var try func(start impl.Door, d impl.Door, acts []int, changes []int)
	try = func(start impl.Door, d impl.Door, acts []int, changes []int) {
		if got, list := impl.DoActs(start, acts); got != d || !slices.Equal(list, changes) {
			t.Fatalf("DoActs of %+v for %v: %+v, %v", start, acts, got, list)
		}
		if len(acts) == 4 {
			return
		}
		for act := 1; act <= 9; act++ {
			next := acted(d, act)
			now := slices.Clone(changes)
			if next != d {
				now = append(now, len(acts))
			}
			try(start, next, append(slices.Clone(acts), act), now)
		}
	}
	for _, d := range goodDoors() {
		try(d, d, nil, nil)
	}
}

// manyActs returns a list of this length: rounds in which something is put in and taken out again.
func manyActs(n int) []int {
	list := []int{}
	for i := range n {
		list = append(list, []int{8, 1, 1, 1, 1, 1, 1, 9, 1, 1, 1, 1, 1, 1}[i%14])
	}
	return list
}

func TestDoActsWithManyActs(t *testing.T) {
	all := []int{}
	for i := range 200 {
		all = append(all, i)
	}
	// 200 acts are 14 rounds of 14 acts, and 4 more.
	if got, changes := impl.DoActs(impl.Door{}, manyActs(200)); got != door("put moved LOF") || !slices.Equal(changes, all) {
		t.Errorf("200 acts: %+v, %v", got, changes)
	}
	if got, changes := impl.DoActs(impl.Door{}, manyActs(199)); got != door("put open LO") || !slices.Equal(changes, all[:199]) {
		t.Errorf("199 acts: %+v, %v", got, changes)
	}
	for _, n := range []int{201, 202, 400, 5000} {
		for _, d := range append(goodDoors(), badDoors()[0]) {
			if got, changes := impl.DoActs(d, manyActs(n)); got != d || len(changes) != 0 {
				t.Errorf("%d acts of %+v: %+v, %v", n, d, got, changes)
			}
		}
	}
}

func TestDoActsWithUnknownActs(t *testing.T) {
	for _, act := range append(farNumbers(), 0) {
		for _, acts := range [][]int{{act}, {8, 1, act}, {act, 8, 1}, {8, act, 1}, append(manyActs(199), act)} {
			for _, d := range goodDoors() {
				if got, changes := impl.DoActs(d, acts); got != d || len(changes) != 0 {
					t.Errorf("DoActs of %+v for %v: %+v, %v", d, acts, got, changes)
				}
			}
		}
	}
}

func TestDoActsWithBadDoors(t *testing.T) {
	for _, d := range badDoors() {
		for _, acts := range [][]int{nil, {1}, {3}, {3, 7}, {8}, {9}, {2, 4, 5, 6}, {1, 2, 3, 4, 5, 6, 7, 8, 9}, {0}} {
			if got, changes := impl.DoActs(d, acts); got != d || len(changes) != 0 {
				t.Errorf("DoActs of a bad door %+v for %v: %+v, %v", d, acts, got, changes)
			}
		}
	}
}

// Promise 4: whatever is done to a valid door, it is valid afterwards, and what is inside changes only while it is open.
func TestValidDoorsStayValid(t *testing.T) {
	check := func(name string, d impl.Door, next impl.Door) {
		if !impl.DoorOk(next) {
			t.Errorf("%s of %+v is not valid: %+v", name, d, next)
		}
		if next.Full != d.Full && (!d.Open || !next.Open) {
			t.Errorf("%s of %+v changes what is inside: %+v", name, d, next)
		}
	}
	for _, d := range goodDoors() {
		for act := 1; act <= 9; act++ {
			check(fmt.Sprint("act ", act), d, acted(d, act))
			next, _ := impl.DoActs(d, []int{act})
			check(fmt.Sprint("DoActs with ", act), d, next)
		}
		for _, act := range append(farNumbers(), 0, 4) {
			next, _ := impl.Hand(d, act)
			check(fmt.Sprint("Hand with ", act), d, next)
			next, _ = impl.BeginDoor(d, act)
			check(fmt.Sprint("BeginDoor with ", act), d, next)
		}
		for _, f := range allFaults() {
			next, _, _ := impl.Recover(d, f)
			check(fmt.Sprint("Recover with ", f), d, next)
		}
		next, _, _ := impl.Inspect(d)
		check("Inspect", d, next)
	}
}
