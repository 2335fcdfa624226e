/- Chapter 5: the model's l05Good; rows of flags (gen_grt.py). -/
import Derived.Test.YtdaeljjjcgpcoaaGraF
import Derived.Deep.Onto
import Derived.Deep.RegionHeld3
namespace Go.Proofs.Ytdaeljjjcgpcoaa
open Go.RowKit
set_option linter.unusedVariables false

set_option maxRecDepth 100000 in
set_option maxHeartbeats 2000000 in
theorem goodS_0 (w : World) (B : Nat) (A : Option Addr) (c : Nat) (l : List Gr) (owner who p t : Int) (hl : l.length ≤ 1048576) (hB : B ≤ w.heap.size) (hS : grL w B A l) (hq : grantsB l = false) : Calls Try.prog 22 #[.slice A l.length c, .int .i64 owner, .int .i64 who, .int .i64 p, .int .i64 t] w fun e w' => e = .returned (.bool (goodB l owner who p t)) ∧ Below w.heap.size w w' := by
  have hlm : l.length ≤ maxLen := by unfold maxLen; omega
  have HV := Lib.hid (show goodB l owner who p t = false by unfold goodB; simp [hq])
  have HS := Lib.hid hS; clear hS
  have Hq := Lib.hid hq; clear hq
  go_enter Try.func22, Try.ntmps22
  go_wp2_with (first | (go_at_call 10; refine (grantsS_any w B A c l hlm hB HS.out).mono ?_; rintro e w1 ⟨rfl, hb1⟩; rw [Hq.out]))
  go_ret
  exact ⟨rbool HV.out.symm, hb1⟩
set_option maxRecDepth 100000 in
set_option maxHeartbeats 2000000 in
theorem goodS_1 (w : World) (B : Nat) (A : Option Addr) (c : Nat) (l : List Gr) (owner who p t : Int) (hl : l.length ≤ 1048576) (hB : B ≤ w.heap.size) (hS : grL w B A l) (hq : grantsB l = true) (ho : perB owner = false) : Calls Try.prog 22 #[.slice A l.length c, .int .i64 owner, .int .i64 who, .int .i64 p, .int .i64 t] w fun e w' => e = .returned (.bool (goodB l owner who p t)) ∧ Below w.heap.size w w' := by
  have hlm : l.length ≤ maxLen := by unfold maxLen; omega
  have HV := Lib.hid (show goodB l owner who p t = false by unfold goodB; simp [hq, ho])
  have HS := Lib.hid hS; clear hS
  have Hq := Lib.hid hq; clear hq
  have Ho := Lib.hid ho; clear ho
  go_enter Try.func22, Try.ntmps22
  go_wp2_with (first | (go_at_call 10; refine (grantsS_any w B A c l hlm hB HS.out).mono ?_; rintro e w1 ⟨rfl, hb1⟩; rw [Hq.out]) | (go_at_call 36; (with_reducible refine (perS_any _ owner).mono ?_); rintro e w2 ⟨rfl, hw⟩; rw [hw, Ho.out]; clear hw))
  go_ret
  exact ⟨rbool HV.out.symm, hb1⟩
set_option maxRecDepth 100000 in
set_option maxHeartbeats 2000000 in
theorem goodS_2 (w : World) (B : Nat) (A : Option Addr) (c : Nat) (l : List Gr) (owner who p t : Int) (hl : l.length ≤ 1048576) (hB : B ≤ w.heap.size) (hS : grL w B A l) (hq : grantsB l = true) (ho : perB owner = true) (hh : perB who = false) : Calls Try.prog 22 #[.slice A l.length c, .int .i64 owner, .int .i64 who, .int .i64 p, .int .i64 t] w fun e w' => e = .returned (.bool (goodB l owner who p t)) ∧ Below w.heap.size w w' := by
  have hlm : l.length ≤ maxLen := by unfold maxLen; omega
  have HV := Lib.hid (show goodB l owner who p t = false by unfold goodB; simp [hq, ho, hh])
  have HS := Lib.hid hS; clear hS
  have Hq := Lib.hid hq; clear hq
  have Ho := Lib.hid ho; clear ho
  have Hh := Lib.hid hh; clear hh
  go_enter Try.func22, Try.ntmps22
  go_wp2_with (first | (go_at_call 10; refine (grantsS_any w B A c l hlm hB HS.out).mono ?_; rintro e w1 ⟨rfl, hb1⟩; rw [Hq.out]) | (go_at_call 36; (with_reducible refine (perS_any _ owner).mono ?_); rintro e w2 ⟨rfl, hw⟩; rw [hw, Ho.out]; clear hw) | (go_at_call 36; (with_reducible refine (perS_any _ who).mono ?_); rintro e w2 ⟨rfl, hw⟩; rw [hw, Hh.out]; clear hw))
  go_ret
  exact ⟨rbool HV.out.symm, hb1⟩
set_option maxRecDepth 100000 in
set_option maxHeartbeats 2000000 in
theorem goodS_3 (w : World) (B : Nat) (A : Option Addr) (c : Nat) (l : List Gr) (owner who p t : Int) (hl : l.length ≤ 1048576) (hB : B ≤ w.heap.size) (hS : grL w B A l) (hq : grantsB l = true) (ho : perB owner = true) (hh : perB who = true) (hp : inR p 1 999 = false) : Calls Try.prog 22 #[.slice A l.length c, .int .i64 owner, .int .i64 who, .int .i64 p, .int .i64 t] w fun e w' => e = .returned (.bool (goodB l owner who p t)) ∧ Below w.heap.size w w' := by
  have hlm : l.length ≤ maxLen := by unfold maxLen; omega
  have HV := Lib.hid (show goodB l owner who p t = false by unfold goodB; simp [hq, ho, hh, hp])
  have HS := Lib.hid hS; clear hS
  have Hq := Lib.hid hq; clear hq
  have Ho := Lib.hid ho; clear ho
  have Hh := Lib.hid hh; clear hh
  have Hp := Lib.hid hp; clear hp
  go_enter Try.func22, Try.ntmps22
  go_wp2_with (first | (go_at_call 10; refine (grantsS_any w B A c l hlm hB HS.out).mono ?_; rintro e w1 ⟨rfl, hb1⟩; rw [Hq.out]) | (go_at_call 36; (with_reducible refine (perS_any _ owner).mono ?_); rintro e w2 ⟨rfl, hw⟩; rw [hw, Ho.out]; clear hw) | (go_at_call 36; (with_reducible refine (perS_any _ who).mono ?_); rintro e w2 ⟨rfl, hw⟩; rw [hw, Hh.out]; clear hw) | (go_at_call 37; refine (inR_any _ p 1 999).mono ?_; rintro e w2 ⟨rfl, hw⟩; rw [hw, Hp.out]; clear hw))
  go_ret
  exact ⟨rbool HV.out.symm, hb1⟩
set_option maxRecDepth 100000 in
set_option maxHeartbeats 2000000 in
theorem goodS_4 (w : World) (B : Nat) (A : Option Addr) (c : Nat) (l : List Gr) (owner who p t : Int) (hl : l.length ≤ 1048576) (hB : B ≤ w.heap.size) (hS : grL w B A l) (hq : grantsB l = true) (ho : perB owner = true) (hh : perB who = true) (hp : inR p 1 999 = true) (ht : timB t = false) : Calls Try.prog 22 #[.slice A l.length c, .int .i64 owner, .int .i64 who, .int .i64 p, .int .i64 t] w fun e w' => e = .returned (.bool (goodB l owner who p t)) ∧ Below w.heap.size w w' := by
  have hlm : l.length ≤ maxLen := by unfold maxLen; omega
  have HV := Lib.hid (show goodB l owner who p t = false by unfold goodB; simp [hq, ho, hh, hp, ht])
  have HS := Lib.hid hS; clear hS
  have Hq := Lib.hid hq; clear hq
  have Ho := Lib.hid ho; clear ho
  have Hh := Lib.hid hh; clear hh
  have Hp := Lib.hid hp; clear hp
  have Ht := Lib.hid ht; clear ht
  go_enter Try.func22, Try.ntmps22
  go_wp2_with (first | (go_at_call 10; refine (grantsS_any w B A c l hlm hB HS.out).mono ?_; rintro e w1 ⟨rfl, hb1⟩; rw [Hq.out]) | (go_at_call 36; (with_reducible refine (perS_any _ owner).mono ?_); rintro e w2 ⟨rfl, hw⟩; rw [hw, Ho.out]; clear hw) | (go_at_call 36; (with_reducible refine (perS_any _ who).mono ?_); rintro e w2 ⟨rfl, hw⟩; rw [hw, Hh.out]; clear hw) | (go_at_call 37; refine (inR_any _ p 1 999).mono ?_; rintro e w2 ⟨rfl, hw⟩; rw [hw, Hp.out]; clear hw) | (go_at_call 38; refine (timS_any _ t).mono ?_; rintro e w2 ⟨rfl, hw⟩; rw [hw, Ht.out]; clear hw))
  go_ret
  exact ⟨rbool HV.out.symm, hb1⟩
set_option maxRecDepth 100000 in
set_option maxHeartbeats 2000000 in
theorem goodS_5 (w : World) (B : Nat) (A : Option Addr) (c : Nat) (l : List Gr) (owner who p t : Int) (hl : l.length ≤ 1048576) (hB : B ≤ w.heap.size) (hS : grL w B A l) (hq : grantsB l = true) (ho : perB owner = true) (hh : perB who = true) (hp : inR p 1 999 = true) (ht : timB t = true) : Calls Try.prog 22 #[.slice A l.length c, .int .i64 owner, .int .i64 who, .int .i64 p, .int .i64 t] w fun e w' => e = .returned (.bool (goodB l owner who p t)) ∧ Below w.heap.size w w' := by
  have hlm : l.length ≤ maxLen := by unfold maxLen; omega
  have HV := Lib.hid (show goodB l owner who p t = true by unfold goodB; simp [hq, ho, hh, hp, ht])
  have HS := Lib.hid hS; clear hS
  have Hq := Lib.hid hq; clear hq
  have Ho := Lib.hid ho; clear ho
  have Hh := Lib.hid hh; clear hh
  have Hp := Lib.hid hp; clear hp
  have Ht := Lib.hid ht; clear ht
  go_enter Try.func22, Try.ntmps22
  go_wp2_with (first | (go_at_call 10; refine (grantsS_any w B A c l hlm hB HS.out).mono ?_; rintro e w1 ⟨rfl, hb1⟩; rw [Hq.out]) | (go_at_call 36; (with_reducible refine (perS_any _ owner).mono ?_); rintro e w2 ⟨rfl, hw⟩; rw [hw, Ho.out]; clear hw) | (go_at_call 36; (with_reducible refine (perS_any _ who).mono ?_); rintro e w2 ⟨rfl, hw⟩; rw [hw, Hh.out]; clear hw) | (go_at_call 37; refine (inR_any _ p 1 999).mono ?_; rintro e w2 ⟨rfl, hw⟩; rw [hw, Hp.out]; clear hw) | (go_at_call 38; refine (timS_any _ t).mono ?_; rintro e w2 ⟨rfl, hw⟩; rw [hw, Ht.out]; clear hw))
  go_ret
  exact ⟨rbool HV.out.symm, hb1⟩
theorem goodS_any (w : World) (B : Nat) (A : Option Addr) (c : Nat) (l : List Gr) (owner who p t : Int) (hl : l.length ≤ 1048576) (hB : B ≤ w.heap.size) (hS : grL w B A l) : Calls Try.prog 22 #[.slice A l.length c, .int .i64 owner, .int .i64 who, .int .i64 p, .int .i64 t] w fun e w' => e = .returned (.bool (goodB l owner who p t)) ∧ Below w.heap.size w w' := by
  cases hq : grantsB l
  · exact goodS_0 w B A c l owner who p t hl hB hS hq
  cases ho : perB owner
  · exact goodS_1 w B A c l owner who p t hl hB hS hq ho
  cases hh : perB who
  · exact goodS_2 w B A c l owner who p t hl hB hS hq ho hh
  cases hp : inR p 1 999
  · exact goodS_3 w B A c l owner who p t hl hB hS hq ho hh hp
  cases ht : timB t
  · exact goodS_4 w B A c l owner who p t hl hB hS hq ho hh hp ht
  exact goodS_5 w B A c l owner who p t hl hB hS hq ho hh hp ht
/-- 41 flags -/
def rowV (f : Int → Bool) : Array Value := ((List.range 41).map fun i : Nat => Value.bool (f (i : Int))).toArray
theorem rowV_at (f : Int → Bool) {i : Nat} (h : i < 41) : (rowV f)[i]? = some (.bool (f (i : Int))) := by simp [rowV, h]
theorem rowV_size (f : Int → Bool) : (rowV f).size = 41 := by simp [rowV]
theorem rowV_ext {f g : Int → Bool} (h : ∀ i : Nat, i < 41 → f (i : Int) = g (i : Int)) : rowV f = rowV g := by
  unfold rowV; congr 1; apply List.map_congr_left; intro i hi; rw [h i (by simpa using hi)]
theorem rowV_set (f g : Int → Bool) {k : Nat} (hk : k < 41) (h1 : g (k : Int) = true) (h : ∀ i : Nat, i < 41 → i ≠ k → g (i : Int) = f (i : Int)) : (rowV f).setIfInBounds k (.bool true) = rowV g := by
  apply Array.ext_getElem?
  intro i
  by_cases hi : i < 41
  · rw [rowV_at g hi, Array.getElem?_setIfInBounds]
    by_cases e : k = i
    · subst e; rw [if_pos rfl, if_pos (by rw [rowV_size]; exact hk), h1]
    · rw [if_neg e, rowV_at f hi, h i hi (fun e' => e e'.symm)]
  · rw [Array.getElem?_eq_none (by simp [rowV_size]; omega), Array.getElem?_eq_none (by rw [rowV_size]; omega)]
theorem rowV_made : (madeCells #[.bool false] 41 : Array Value) = rowV fun _ => false := by
  apply Array.ext_getElem?
  intro i
  by_cases hi : i < 41
  · rw [rowV_at _ hi]; simp [madeCells, hi, Nat.mod_one]
  · rw [Array.getElem?_eq_none (by simp [size_madeCells]; omega), Array.getElem?_eq_none (by rw [rowV_size]; omega)]
theorem boolInfo : (Try.prog.info? 4).map (fun i => (i.zero, i.size, i.bytes)) = some (some (.bool false), 1, 1) := by kernel_rfl
theorem rowInfo : (Try.prog.info? 46).map (fun i => (i.zero, i.size, i.bytes)) = some (some (.slice none 0 0), 1, 24) := by kernel_rfl
theorem make41 : ∀ W : World, (Instr.makeSlice 46 (.int .i64 41) (.int .i64 41)).run Try.prog W = .ok (.slice (some ⟨W.heap.size, 0, none⟩) 41 41) (W.alloc (.cells (rowV fun _ => false) 4)) := by
  intro W
  obtain ⟨i, hi, hz0, hz1, hz2⟩ := info_parts boolInfo
  have := run_make (P := Try.prog) W 46 4 i _ Try.underlying46 hi hz0 .i64 .i64 41 41 (by omega) (by omega) (by rw [hz2]; decide) (by decide)
  simpa [hz1, Value.cells, rowV_made] using this
/-- the row of a level, after the first k grants -/
def rowF (l : List Gr) (p t sp who : Int) (h k : Nat) (x : Int) : Bool := (l.take k).any fun g => appB p t g && decide ((h : Int) + sp ≤ g.dep) && (g.frm == x) && rhB l p t sp who h g.to
section
variable {l : List Gr} {p t sp who : Int} {h k : Nat}
theorem rowF_zero : rowF l p t sp who h 0 = fun _ => false := by funext x; simp [rowF]
theorem rowF_all : rowF l p t sp who h l.length = rhB l p t sp who (h + 1) := by funext x; unfold rowF; rw [List.take_length]; rfl
theorem rowF_next {g : Gr} (hg : l[k]? = some g) (x : Int) : rowF l p t sp who h (k + 1) x = (rowF l p t sp who h k x || (appB p t g && decide ((h : Int) + sp ≤ g.dep) && (g.frm == x) && rhB l p t sp who h g.to)) := by
  unfold rowF; rw [List.take_add_one, hg]; simp [List.any_append]
theorem rowF_skip {g : Gr} (hg : l[k]? = some g) (hc : (appB p t g && decide ((h : Int) + sp ≤ g.dep) && rhB l p t sp who h g.to) = false) : rowF l p t sp who h (k + 1) = rowF l p t sp who h k := by
  funext x
  rw [rowF_next hg]
  cases h1 : appB p t g <;> cases h2 : decide ((h : Int) + sp ≤ g.dep) <;> cases h3 : rhB l p t sp who h g.to <;> simp_all
theorem rowF_hit {g : Gr} (hg : l[k]? = some g) (h1 : appB p t g = true) (h2 : (h : Int) + sp ≤ g.dep) (h3 : rhB l p t sp who h g.to = true) {q : Nat} (hq : g.frm = (q : Int)) (hq41 : q < 41) :
    (rowV (rowF l p t sp who h k)).setIfInBounds q (.bool true) = rowV (rowF l p t sp who h (k + 1)) := by
  refine rowV_set _ _ hq41 ?_ (fun i hi hne => ?_)
  · rw [rowF_next hg]; simp [h1, h2, h3, hq]
  · rw [rowF_next hg]
    have : (g.frm == (i : Int)) = false := by rw [hq]; simp; omega
    simp [this]
end
def rowS (g : Nat) : Value := .slice (some ⟨g, 0, none⟩) 41 41
/-- the rows of the levels, each in a block of its own -/
def Levels (w : World) (base : Nat) (gs : List Nat) (l : List Gr) (p t sp who : Int) : Prop := ∀ (j g : Nat), gs[j]? = some g → base ≤ g ∧ Has w g 4 (rowV (rhB l p t sp who j))
theorem Levels.grown {w w' : World} {base : Nat} {gs : List Nat} {l : List Gr} {p t sp who : Int} {row : Option Nat} (h : Levels w base gs l p t sp who) (hg : w.grownBy w' row) (hr : ∀ b, row = some b → ∀ cs, ¬ Has w b 4 cs) : Levels w' base gs l p t sp who := fun j g hj => by
  obtain ⟨h1, h2⟩ := h j g hj
  exact ⟨h1, has_grown h2 hg (fun e => hr g e.symm _ h2)⟩
theorem Levels.call {w w' : World} {base : Nat} {gs : List Nat} {l : List Gr} {p t sp who : Int} (h : Levels w base gs l p t sp who) (hb : Below w.heap.size w w') : Levels w' base gs l p t sp who := fun j g hj => ⟨(h j g hj).1, has_call (h j g hj).2 hb⟩
theorem Levels.snoc {w : World} {base : Nat} {gs : List Nat} {l : List Gr} {p t sp who : Int} {q m : Nat} (h : Levels w base gs l p t sp who) (hm : gs.length = m) (hq : base ≤ q) (hh : Has w q 4 (rowV (rhB l p t sp who m))) : Levels w base (gs ++ [q]) l p t sp who := fun j g hj => by
  rcases Nat.lt_or_ge j gs.length with hlt | hge
  · rw [List.getElem?_append_left hlt] at hj; exact h j g hj
  · rw [List.getElem?_append_right hge] at hj
    have h0 : j - gs.length = 0 := by
      rcases Nat.eq_zero_or_pos (j - gs.length) with h | h
      · exact h
      · rw [List.getElem?_eq_none (by simp; omega)] at hj; cases hj
    rw [h0] at hj
    obtain rfl : q = g := by simpa using hj
    obtain rfl : j = m := by omega
    exact ⟨hq, hh⟩
/-- what l05Reach answers: seven rows -/
def ReachAns (l : List Gr) (p t sp who : Int) (w : World) (e : Ending) (w' : World) : Prop := ∃ (b cap : Nat) (gs : List Nat), e = .returned (.slice (some ⟨b, 0, none⟩) 7 cap) ∧ gs.length = 7 ∧ w'.ownsRow w.heap.size 46 1 (.slice (some ⟨b, 0, none⟩) 7 cap) 7 (gs.map rowS) ∧ Levels w' w.heap.size gs l p t sp who ∧ Below w.heap.size w w'
end Go.Proofs.Ytdaeljjjcgpcoaa
