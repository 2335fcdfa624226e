package tests

import (
	"slices"
	"strings"
	"testing"

	"loop.example/g03318/impl"
)

// allFaults returns all valid faults.
func allFaults() []impl.Faults {
	list := []impl.Faults{}
	for n := range 81 {
		list = append(list, impl.Faults{Switch: n % 3, Hook: n / 3 % 3, Scale: n / 9 % 3, Eye: n / 27})
	}
	return list
}

// faultsFrom returns faults from four numbers.
func faultsFrom(list []int) impl.Faults {
	return impl.Faults{Switch: list[0], Hook: list[1], Scale: list[2], Eye: list[3]}
}

// badFaults returns faults of which one, two or all are out of their range.
func badFaults() []impl.Faults {
	list := []impl.Faults{}
	for _, n := range append(farNumbers(), 3) {
		for i := range 4 {
			for _, other := range []int{0, 1, 2} {
				f := []int{other, 0, 0, 0}
				f[i] = n
				list = append(list, faultsFrom(f))
			}
			f := []int{n, n, n, n}
			f[i] = 0
			list = append(list, faultsFrom(f))
		}
		list = append(list, faultsFrom([]int{n, n, n, n}))
	}
	return list
}

// faultCount counts the faults that are not 0.
func faultCount(f impl.Faults) int {
	count := 0
	for _, n := range []int{f.Switch, f.Hook, f.Scale, f.Eye} {
		if n != 0 {
			count++
		}
	}
	return count
}

func TestFaultsOk(t *testing.T) {
	for _, f := range allFaults() {
		if !impl.FaultsOk(f) {
			t.Error("valid faults are rejected", f)
		}
	}
	for _, f := range badFaults() {
		if impl.FaultsOk(f) {
			t.Error("bad faults are accepted", f)
		}
	}
}

func TestCountFaults(t *testing.T) {
	for _, c := range []struct {
		faults impl.Faults
		want   int
	}{
		{impl.Faults{}, 0},
		{impl.Faults{Switch: 1}, 1}, {impl.Faults{Hook: 1}, 1}, {impl.Faults{Scale: 1}, 1}, {impl.Faults{Eye: 1}, 1},
		{impl.Faults{Switch: 2}, 1}, {impl.Faults{Hook: 2}, 1}, {impl.Faults{Scale: 2}, 1}, {impl.Faults{Eye: 2}, 1},
		{impl.Faults{Switch: 1, Hook: 2}, 2}, {impl.Faults{Scale: 2, Eye: 2}, 2}, {impl.Faults{Hook: 1, Eye: 1}, 2},
		{impl.Faults{Switch: 1, Scale: 2, Eye: 1}, 3}, {impl.Faults{Switch: 2, Hook: 2, Scale: 2, Eye: 2}, 4},
		{impl.Faults{Switch: -1}, 1}, {impl.Faults{Hook: 3, Eye: 1}, 2},
	} {
		if got := impl.CountFaults(c.faults); got != c.want {
			t.Errorf("CountFaults of %+v: %d", c.faults, got)
		}
	}
	// The count does not depend on the range.
	for _, f := range append(allFaults(), badFaults()...) {
		if got := impl.CountFaults(f); got != faultCount(f) {
			t.Errorf("CountFaults of %+v: %d", f, got)
		}
	}
}

// signs reads signs from the letters of those that are set: w for Switch, h for Hook, s for Scale and e for Eye (or -).
func signs(text string) impl.Signs {
	if strings.Trim(text, "whse-") != "" {
		panic("no signs: " + text)
	}
	return impl.Signs{Switch: strings.Contains(text, "w"), Hook: strings.Contains(text, "h"), Scale: strings.Contains(text, "s"), Eye: strings.Contains(text, "e")}
}

func TestSignsOf(t *testing.T) {
	for _, c := range []struct {
		door   string
		faults impl.Faults
		want   string
	}{
		{"idle none -", impl.Faults{}, "wh"},
		{"idle none F", impl.Faults{}, "whse"},
		{"put none L", impl.Faults{}, "wh"},
		{"put none LF", impl.Faults{}, "whse"},
		{"put none LO", impl.Faults{}, "-"},
		{"put none LOF", impl.Faults{}, "se"},
		{"take moved LO", impl.Faults{}, "-"},
		{"take meant F", impl.Faults{}, "whse"},

		{"put shut LF", impl.Faults{Switch: 1}, "hse"},
		{"put shut LF", impl.Faults{Hook: 1}, "wse"},
		{"put shut LF", impl.Faults{Scale: 1}, "whe"},
		{"put shut LF", impl.Faults{Eye: 1}, "whs"},
		{"put shut LF", impl.Faults{Switch: 2}, "whse"},
		{"put shut LF", impl.Faults{Hook: 2}, "whse"},
		{"put shut LF", impl.Faults{Scale: 2}, "whse"},
		{"put shut LF", impl.Faults{Eye: 2}, "whse"},

		{"take moved LO", impl.Faults{Switch: 1}, "-"},
		{"take moved LO", impl.Faults{Hook: 1}, "-"},
		{"take moved LO", impl.Faults{Scale: 1}, "-"},
		{"take moved LO", impl.Faults{Eye: 1}, "-"},
		{"take moved LO", impl.Faults{Switch: 2}, "w"},
		{"take moved LO", impl.Faults{Hook: 2}, "h"},
		{"take moved LO", impl.Faults{Scale: 2}, "s"},
		{"take moved LO", impl.Faults{Eye: 2}, "e"},

		{"idle none F", impl.Faults{Switch: 1, Eye: 1}, "hs"},
		{"put none LO", impl.Faults{Switch: 2, Hook: 1, Scale: 2, Eye: 1}, "ws"},
		{"take fast -", impl.Faults{Switch: 1, Hook: 1, Scale: 2, Eye: 2}, "se"},
		{"put moved LOF", impl.Faults{Switch: 2, Hook: 2, Scale: 1, Eye: 1}, "wh"},
	} {
		if got, ok := impl.SignsOf(door(c.door), c.faults); got != signs(c.want) || !ok {
			t.Errorf("SignsOf %s with %+v: %+v, %v", c.door, c.faults, got, ok)
		}
	}
}

func TestSignsOfAllDoors(t *testing.T) {
	for _, d := range goodDoors() {
		for _, f := range allFaults() {
			tells := func(truth bool, fault int) bool { return []bool{truth, false, true}[fault] }
			want := impl.Signs{Switch: tells(!d.Open, f.Switch), Hook: tells(!d.Open, f.Hook), Scale: tells(d.Full, f.Scale), Eye: tells(d.Full, f.Eye)}
			if got, ok := impl.SignsOf(d, f); got != want || !ok {
				t.Errorf("SignsOf %+v with %+v: %+v, %v", d, f, got, ok)
			}
		}
		for _, f := range badFaults() {
			if got, ok := impl.SignsOf(d, f); got != (impl.Signs{}) || ok {
				t.Errorf("SignsOf %+v with bad faults %+v: %+v, %v", d, f, got, ok)
			}
		}
	}
	for _, d := range badDoors() {
		for _, f := range []impl.Faults{{}, {Switch: 1}, {Switch: 2, Hook: 2, Scale: 2, Eye: 2}, {Eye: 3}} {
			if got, ok := impl.SignsOf(d, f); got != (impl.Signs{}) || ok {
				t.Errorf("SignsOf a bad door %+v with %+v: %+v, %v", d, f, got, ok)
			}
		}
	}
}

// verdicts has what each combination of signs tells, for putting in and for taking out.
var verdicts = map[string][2]int{
	"-": {impl.VdOpen, impl.VdOpen}, "s": {impl.VdOpen, impl.VdOpen}, "e": {impl.VdOpen, impl.VdOpen}, "se": {impl.VdOpen, impl.VdOpen},
	"w": {impl.VdAsk, impl.VdAsk}, "ws": {impl.VdAsk, impl.VdAsk}, "we": {impl.VdAsk, impl.VdAsk}, "wse": {impl.VdAsk, impl.VdAsk},
	"h": {impl.VdAsk, impl.VdAsk}, "hs": {impl.VdAsk, impl.VdAsk}, "he": {impl.VdAsk, impl.VdAsk}, "hse": {impl.VdAsk, impl.VdAsk},
	"wh":  {impl.VdUndone, impl.VdDone},
	"whs": {impl.VdAsk, impl.VdAsk}, "whe": {impl.VdAsk, impl.VdAsk},
	"whse": {impl.VdDone, impl.VdUndone},
}

func TestVerdict(t *testing.T) {
	if len(verdicts) != 16 {
		t.Fatal("not all signs", len(verdicts))
	}
	for text, want := range verdicts {
		for i, kind := range []int{impl.KindPut, impl.KindTake} {
			if got := impl.Verdict(kind, signs(text)); got != want[i] {
				t.Errorf("Verdict of %s for the kind %d: %d", text, kind, got)
			}
		}
		for _, kind := range append(farNumbers(), 0, 3) {
			if got := impl.Verdict(kind, signs(text)); got != impl.VdIdle {
				t.Errorf("Verdict of %s for the bad kind %d: %d", text, kind, got)
			}
		}
	}
}

func TestVerdictName(t *testing.T) {
	for verdict, want := range verdictNames {
		if got := impl.VerdictName(verdict); got != want {
			t.Errorf("VerdictName(%d): %q instead of %q", verdict, got, want)
		}
	}
	for _, verdict := range append(farNumbers(), 5) {
		if got := impl.VerdictName(verdict); got != "" {
			t.Errorf("VerdictName(%d): %q", verdict, got)
		}
	}
}

// truths has the truth of each valid door with a kind.
var truths = map[string]string{
	"put none -": "undone", "put none F": "done", "put none L": "undone", "put none LF": "done", "put none LO": "open", "put none LOF": "open",
	"put meant -": "undone", "put loose L": "undone", "put open LO": "open", "put moved LOF": "open",
	"put shut L": "undone", "put shut LF": "done", "put fast -": "undone", "put fast F": "done",

	"take none -": "done", "take none F": "undone", "take none L": "done", "take none LF": "undone", "take none LO": "open", "take none LOF": "open",
	"take meant F": "undone", "take loose LF": "undone", "take open LOF": "open", "take moved LO": "open",
	"take shut L": "done", "take shut LF": "undone", "take fast -": "done", "take fast F": "undone",
}

func TestTruthOf(t *testing.T) {
	for _, text := range validDoors {
		want, ok := truths[text]
		if !ok {
			want = "idle"
		}
		if got := impl.TruthOf(door(text)); got != slices.Index(verdictNames, want) {
			t.Errorf("TruthOf %s: %d instead of %s", text, got, want)
		}
	}
	if len(truths) != len(validDoors)-2 {
		t.Error("not all doors have a truth", len(truths))
	}
	for _, d := range badDoors() {
		if got := impl.TruthOf(d); got != impl.VdIdle {
			t.Errorf("TruthOf a bad door %+v: %d", d, got)
		}
	}
}

func TestRecover(t *testing.T) {
	for _, c := range []struct {
		door   string
		faults impl.Faults
		want   string
		result int
	}{
		{"put none -", impl.Faults{}, "idle none -", impl.VdUndone},
		{"put none F", impl.Faults{}, "idle none F", impl.VdDone},
		{"put none L", impl.Faults{}, "idle none -", impl.VdUndone},
		{"put none LF", impl.Faults{}, "idle none F", impl.VdDone},
		{"put none LO", impl.Faults{}, "put none LO", impl.VdOpen},
		{"put none LOF", impl.Faults{}, "put none LOF", impl.VdOpen},
		{"take none -", impl.Faults{}, "idle none -", impl.VdDone},
		{"take none F", impl.Faults{}, "idle none F", impl.VdUndone},
		{"take none L", impl.Faults{}, "idle none -", impl.VdDone},
		{"take none LF", impl.Faults{}, "idle none F", impl.VdUndone},
		{"take none LO", impl.Faults{}, "take none LO", impl.VdOpen},
		{"take none LOF", impl.Faults{}, "take none LOF", impl.VdOpen},

		{"put none LF", impl.Faults{Switch: 1}, "put none LF", impl.VdAsk},
		{"put none LF", impl.Faults{Switch: 2}, "idle none F", impl.VdDone},
		{"put none LF", impl.Faults{Hook: 1}, "put none LF", impl.VdAsk},
		{"put none LF", impl.Faults{Hook: 2}, "idle none F", impl.VdDone},
		{"put none LF", impl.Faults{Scale: 1}, "put none LF", impl.VdAsk},
		{"put none LF", impl.Faults{Scale: 2}, "idle none F", impl.VdDone},
		{"put none LF", impl.Faults{Eye: 1}, "put none LF", impl.VdAsk},
		{"put none LF", impl.Faults{Eye: 2}, "idle none F", impl.VdDone},

		{"take none -", impl.Faults{Switch: 1}, "take none -", impl.VdAsk},
		{"take none -", impl.Faults{Hook: 2}, "idle none -", impl.VdDone},
		{"take none -", impl.Faults{Scale: 1}, "idle none -", impl.VdDone},
		{"take none -", impl.Faults{Scale: 2}, "take none -", impl.VdAsk},
		{"take none -", impl.Faults{Eye: 1}, "idle none -", impl.VdDone},
		{"take none -", impl.Faults{Eye: 2}, "take none -", impl.VdAsk},

		{"put none LO", impl.Faults{Switch: 1}, "put none LO", impl.VdOpen},
		{"put none LO", impl.Faults{Switch: 2}, "put none LO", impl.VdAsk},
		{"take none LOF", impl.Faults{Hook: 1}, "take none LOF", impl.VdOpen},
		{"take none LOF", impl.Faults{Hook: 2}, "take none LOF", impl.VdAsk},
		{"take none LOF", impl.Faults{Scale: 1}, "take none LOF", impl.VdOpen},
		{"put none LO", impl.Faults{Eye: 2}, "put none LO", impl.VdOpen},
	} {
		if got, result, ok := impl.Recover(door(c.door), c.faults); got != door(c.want) || result != c.result || !ok {
			t.Errorf("Recover of %s with %+v: %+v, %d, %v", c.door, c.faults, got, result, ok)
		}
	}
}

// cutDoors are the doors that a power cut leaves with an operation.
func cutDoors() []string {
	list := []string{}
	for _, text := range validDoors {
		if strings.Contains(text, "none") && !strings.HasPrefix(text, "idle") {
			list = append(list, text)
		}
	}
	return list
}

// Promise 4: after a power cut, what the signs tell is the truth or a question, if at most one of them has a fault.
func TestRecoverTellsTheTruthOrAsks(t *testing.T) {
	asked := 0
	for _, text := range cutDoors() {
		d := door(text)
		truth := slices.Index(verdictNames, truths[text])
		for _, f := range allFaults() {
			got, verdict, ok := impl.Recover(d, f)
			if faultCount(f) > 1 {
				if got != d || verdict != impl.VdIdle || ok {
					t.Errorf("Recover of %s with the faults %+v: %+v, %d, %v", text, f, got, verdict, ok)
				}
				continue
			}
			want := d
			if verdict == impl.VdDone || verdict == impl.VdUndone {
				want = impl.Door{Full: d.Full}
			}
			if !ok || got != want || verdict != truth && (verdict != impl.VdAsk || f == impl.Faults{}) {
				t.Errorf("Recover of %s with %+v: %+v, %d, %v", text, f, got, verdict, ok)
			}
			if verdict == impl.VdAsk {
				asked++
			}
		}
	}
	// Each of the 8 shut doors is asked for with the wrong fault of each of the 4 signs, each of the 4 open ones with that of 2.
	if asked != 8*4+4*2 {
		t.Error("unexpected number of questions", asked)
	}
}

func TestRecoverOfOtherDoors(t *testing.T) {
	faults := []impl.Faults{{}, {Switch: 1}, {Hook: 2}, {Scale: 1}, {Eye: 2}, {Switch: 1, Hook: 1}, {Eye: 3}}
	cut := cutDoors()
	check := func(d impl.Door, f impl.Faults) {
		if got, verdict, ok := impl.Recover(d, f); got != d || verdict != impl.VdIdle || ok {
			t.Errorf("Recover of %+v with %+v: %+v, %d, %v", d, f, got, verdict, ok)
		}
	}
	for _, text := range validDoors {
		if slices.Contains(cut, text) {
			for _, f := range badFaults() {
				check(door(text), f)
			}
			continue
		}
		for _, f := range faults {
			check(door(text), f)
		}
	}
	for _, d := range badDoors() {
		for _, f := range faults {
			check(d, f)
		}
	}
}

func TestInspect(t *testing.T) {
	wanted := map[string]int{
		"put none -": impl.VdUndone, "put none L": impl.VdUndone, "put none LO": impl.VdUndone,
		"put none F": impl.VdDone, "put none LF": impl.VdDone, "put none LOF": impl.VdDone,
		"take none -": impl.VdDone, "take none L": impl.VdDone, "take none LO": impl.VdDone,
		"take none F": impl.VdUndone, "take none LF": impl.VdUndone, "take none LOF": impl.VdUndone,
	}
	for _, text := range validDoors {
		d := door(text)
		want, verdict, possible := d, impl.VdIdle, false
		if v, ok := wanted[text]; ok {
			want, verdict, possible = impl.Door{Full: d.Full}, v, true
		}
		if got, v, ok := impl.Inspect(d); got != want || v != verdict || ok != possible {
			t.Errorf("Inspect of %s: %+v, %d, %v", text, got, v, ok)
		}
	}
	for _, d := range badDoors() {
		if got, v, ok := impl.Inspect(d); got != d || v != impl.VdIdle || ok {
			t.Errorf("Inspect of a bad door %+v: %+v, %d, %v", d, got, v, ok)
		}
	}
}
