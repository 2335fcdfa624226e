/- Chapter 3: what becomes of a lock when codes are entered: plain facts, and the program's parts. -/
import Derived.Test.YtjpafmkmpnibgabDoorMatS
import Derived.Test.YtjpafmkmpnibgabDoorLckD
import Derived.Test.YtjpafmkmpnibgabDoorDraw
import Derived.Deep.RegionLaw
namespace Go.Proofs.YtjpafmkmpnibgabDoor
open Go.RowKit
set_option linter.unusedVariables false

abbrev Five := Int × Int × Int × Int × Int
def refK (n t p u now : Int) : Five := if t < 2 then (n, t + 1, p, u, 2) else (n, 0, min (p + 1) 6, now + pow2 p, 3)
def entK (n t p u nx now : Int) : Five := if 0 ≤ nx then (nx, 0, 0, u, 0) else refK n t p u now
def enterK (s n t p u m len now : Int) : Five := if lockB s n t p u = true ∧ inR now 0 20000 = true then (if now < u then (n, t, p, u, 1) else entK n t p u (if 0 ≤ m then m + len else -1) now) else (n, t, p, u, 4)
theorem refK_lt {n t p u now : Int} (h : t < 2) : refK n t p u now = (n, t + 1, p, u, 2) := if_pos h
theorem refK_ge {n t p u now : Int} (h : ¬ t < 2) : refK n t p u now = (n, 0, min (p + 1) 6, now + pow2 p, 3) := if_neg h
theorem entK_yes {n t p u nx now : Int} (h : 0 ≤ nx) : entK n t p u nx now = (nx, 0, 0, u, 0) := if_pos h
theorem entK_no {n t p u nx now : Int} (h : ¬ 0 ≤ nx) : entK n t p u nx now = refK n t p u now := if_neg h
theorem enterK_bad {s n t p u m len now : Int} (h : ¬ (lockB s n t p u = true ∧ inR now 0 20000 = true)) : enterK s n t p u m len now = (n, t, p, u, 4) := if_neg h
theorem enterK_wait {s n t p u m len now : Int} (h : lockB s n t p u = true) (h' : inR now 0 20000 = true) (hw : now < u) : enterK s n t p u m len now = (n, t, p, u, 1) := by
  unfold enterK; rw [if_pos ⟨h, h'⟩, if_pos hw]
theorem enterK_open {s n t p u m len now : Int} (h : lockB s n t p u = true) (h' : inR now 0 20000 = true) (hw : ¬ now < u) (hm : 0 ≤ m) (hl : 0 ≤ len) : enterK s n t p u m len now = (m + len, 0, 0, u, 0) := by
  unfold enterK; rw [if_pos ⟨h, h'⟩, if_neg hw, if_pos hm, entK_yes (by omega)]
theorem enterK_wrong {s n t p u m len now : Int} (h : lockB s n t p u = true) (h' : inR now 0 20000 = true) (hw : ¬ now < u) (hm : ¬ 0 ≤ m) : enterK s n t p u m len now = refK n t p u now := by
  unfold enterK; rw [if_pos ⟨h, h'⟩, if_neg hw, if_neg hm, entK_no (by omega)]
/-- a lock and a result, as a call answers them -/
def lkT (s : Int) (x : Five) : Value := .tuple #[.agg #[.int .i64 s, .int .i64 x.1, .int .i64 x.2.1, .int .i64 x.2.2.1, .int .i64 x.2.2.2.1], .int .i64 x.2.2.2.2]
def lkC (s : Int) (x : Five) : Array Value := #[.int .i64 s, .int .i64 x.1, .int .i64 x.2.1, .int .i64 x.2.2.1, .int .i64 x.2.2.2.1]
theorem only_of_below {w w' : World} {g : Nat} (h : Below w.heap.size w w') : Only w g w' := ⟨h.os, h.tape, h.output, h.size, fun k hk _ => h.block k hk⟩

set_option maxRecDepth 100000 in
set_option maxHeartbeats 1000000 in
theorem entS_any (w : World) (s n t p u nx now : Int) (ht0 : 0 ≤ t) (ht1 : t ≤ 2) (hp0 : 0 ≤ p) (hp1 : p ≤ 6) (h0 : 0 ≤ now) (h1 : now ≤ 20000) :
    Calls Tryd.prog 30 #[.agg #[.int .i64 s, .int .i64 n, .int .i64 t, .int .i64 p, .int .i64 u], .int .i64 nx, .int .i64 now] w fun e w' => e = .returned (lkT s (entK n t p u nx now)) ∧ Below w.heap.size w w' := by
  by_cases hx : 0 ≤ nx
  · have HV := Lib.hid (show lkT s (entK n t p u nx now) = .tuple #[.agg #[.int .i64 s, .int .i64 nx, .int .i64 0, .int .i64 0, .int .i64 u], .int .i64 0] by rw [entK_yes hx]; rfl)
    go_enter Tryd.func30, Tryd.ntmps30
    go_wp2
    exact bodyPost_ret (v := .tuple #[.agg #[.int .i64 s, .int .i64 nx, .int .i64 0, .int .i64 0, .int .i64 u], .int .i64 0]) (by simp [results, Tryd.results30, go_sem]) rfl ⟨retv HV.out.symm, ((Below.refl _ _).alloc (Nat.le_refl _) _).alloc (by simp) _⟩
  by_cases ht : t < 2
  · have HV := Lib.hid (show lkT s (entK n t p u nx now) = .tuple #[.agg #[.int .i64 s, .int .i64 n, .int .i64 (t + 1), .int .i64 p, .int .i64 u], .int .i64 2] by rw [entK_no hx, refK_lt ht]; rfl)
    go_enter Tryd.func30, Tryd.ntmps30
    go_wp2
    exact bodyPost_ret (v := .tuple #[.agg #[.int .i64 s, .int .i64 n, .int .i64 (t + 1), .int .i64 p, .int .i64 u], .int .i64 2]) (by simp [results, Tryd.results30, go_sem]) rfl ⟨retv HV.out.symm, ((Below.refl _ _).alloc (Nat.le_refl _) _).alloc (by simp) _⟩
  · have hpb := pow2_bd hp1
    have HV := Lib.hid (show lkT s (entK n t p u nx now) = .tuple #[.agg #[.int .i64 s, .int .i64 n, .int .i64 0, .int .i64 (min (p + 1) 6), .int .i64 (now + pow2 p)], .int .i64 3] by rw [entK_no hx, refK_ge ht]; rfl)
    have hcl : ∀ W : World, Calls Tryd.prog 47 #[.int .i64 p] W fun e w' => e = .returned (.int .i64 (pow2 p)) ∧ w' = W := fun W => power_any W p hp0 hp1
    have HC := Lib.hid hcl; clear hcl
    obtain ⟨q, hq⟩ : ∃ q, pow2 p = q := ⟨_, rfl⟩
    rw [hq] at hpb HV HC
    obtain ⟨hpb0, hpb1⟩ := hpb
    clear hq
    have hc : p = 6 ∨ p + 1 ≤ 6 := by omega
    rcases hc with rfl | hc
    · go_enter Tryd.func30, Tryd.ntmps30
      go_wp2_with (refine (HC.out _).mono ?_; rintro e w' ⟨rfl, rfl⟩)
      exact bodyPost_ret (v := .tuple #[.agg #[.int .i64 s, .int .i64 n, .int .i64 0, .int .i64 6, .int .i64 (now + q)], .int .i64 3]) (by simp [results, Tryd.results30, go_sem]) rfl ⟨retv HV.out.symm, ((Below.refl _ _).alloc (Nat.le_refl _) _).alloc (by simp) _⟩
    · have hmin : min (p + 1) 6 = p + 1 := by omega
      rw [hmin] at HV
      have hmin2 : ¬ 6 < p + 1 := by omega
      clear hmin
      go_enter Tryd.func30, Tryd.ntmps30
      go_wp2_with (refine (HC.out _).mono ?_; rintro e w' ⟨rfl, rfl⟩)
      exact bodyPost_ret (v := .tuple #[.agg #[.int .i64 s, .int .i64 n, .int .i64 0, .int .i64 (p + 1), .int .i64 (now + q)], .int .i64 3]) (by simp [results, Tryd.results30, go_sem]) rfl ⟨retv HV.out.symm, ((Below.refl _ _).alloc (Nat.le_refl _) _).alloc (by simp) _⟩

set_option maxHeartbeats 1000000 in
theorem pass_any (w : World) (g : Nat) (s n t p u m : Int) (hk : Has w g 47 #[.int .i64 s, .int .i64 n, .int .i64 t, .int .i64 p, .int .i64 u]) :
    Calls Tryd.prog 45 #[.pointer (some ⟨g, 0, none⟩), .int .i64 m] w fun e w' => e = .returned (.tuple #[]) ∧ Has w' g 47 #[.int .i64 s, .int .i64 m, .int .i64 0, .int .i64 0, .int .i64 u] ∧ Only w g w' := by
  have e1 := has_cell hk 1 rfl; have e2 := has_cell hk 2 rfl; have e3 := has_cell hk 3 rfl
  have f1 := has_free hk 1; have f2 := has_free hk 2; have f3 := has_free hk 3
  have X := Lib.hid (show Has (((w.setCell ⟨g, 1, none⟩ (.int .i64 m)).setCell ⟨g, 2, none⟩ (.int .i64 0)).setCell ⟨g, 3, none⟩ (.int .i64 0)) g 47 #[.int .i64 s, .int .i64 m, .int .i64 0, .int .i64 0, .int .i64 u] by simpa using has_set (has_set (has_set hk 1 (.int .i64 m)) 2 (.int .i64 0)) 3 (.int .i64 0))
  clear hk
  go_enter Tryd.func45, Tryd.ntmps45
  go_wp2
  go_end0
  exact ⟨rfl, X.out, only_set (only_set (only_set (only_refl _ _) _ _) _ _) _ _⟩

set_option maxRecDepth 100000 in
set_option maxHeartbeats 2000000 in
theorem refuse_any (w : World) (g : Nat) (s n t p u now : Int) (hk : Has w g 47 #[.int .i64 s, .int .i64 n, .int .i64 t, .int .i64 p, .int .i64 u]) (ht0 : 0 ≤ t) (ht1 : t ≤ 2) (hp0 : 0 ≤ p) (hp1 : p ≤ 6) (h0 : 0 ≤ now) (h1 : now ≤ 20000) :
    Calls Tryd.prog 46 #[.pointer (some ⟨g, 0, none⟩), .int .i64 now] w fun e w' => e = .returned (.int .i64 (refK n t p u now).2.2.2.2) ∧ Has w' g 47 (lkC s (refK n t p u now)) ∧ Only w g w' := by
  have e2 := has_cell hk 2 rfl; have e3 := has_cell hk 3 rfl; have e4 := has_cell hk 4 rfl
  have f2 := has_free hk 2; have f3 := has_free hk 3; have f4 := has_free hk 4
  by_cases ht : t < 2
  · have X := Lib.hid (show Has (w.setCell ⟨g, 2, none⟩ (.int .i64 (t + 1))) g 47 (lkC s (refK n t p u now)) by rw [refK_lt ht]; simpa [lkC] using has_set hk 2 (.int .i64 (t + 1)))
    have HV := Lib.hid (show (refK n t p u now).2.2.2.2 = 2 by rw [refK_lt ht])
    clear hk
    go_enter Tryd.func46, Tryd.ntmps46
    go_wp2
    go_ret
    exact ⟨rint HV.out.symm, X.out, only_set (only_refl _ _) _ _⟩
  · have hpb := pow2_bd hp1
    have X := Lib.hid (show ∀ W, Has W g 47 #[.int .i64 s, .int .i64 n, .int .i64 t, .int .i64 p, .int .i64 u] → Has (((W.setCell ⟨g, 2, none⟩ (.int .i64 0)).setCell ⟨g, 4, none⟩ (.int .i64 (now + pow2 p))).setCell ⟨g, 3, none⟩ (.int .i64 (min (p + 1) 6))) g 47 (lkC s (refK n t p u now)) from fun W h => by rw [refK_ge ht]; simpa [lkC] using has_set (has_set (has_set h 2 (.int .i64 0)) 4 (.int .i64 (now + pow2 p))) 3 (.int .i64 (min (p + 1) 6)))
    have HV := Lib.hid (show (refK n t p u now).2.2.2.2 = 3 by rw [refK_ge ht])
    have Q1 := Lib.hid (show ∀ W : World, Calls Tryd.prog 35 #[.int .i64 p] W fun e w' => e = .returned (.int .i64 (pow2 p)) ∧ w' = W from fun W => pauseOf_any W p hp0 hp1)
    have Q2 := Lib.hid (show ∀ W : World, Calls Tryd.prog 48 #[.int .i64 p] W fun e w' => e = .returned (.int .i64 (min (p + 1) 6)) ∧ w' = W from fun W => pausesAfter_any W p hp0 hp1)
    have HK := Lib.hid hk; clear hk
    have hmb : 0 ≤ min (p + 1) 6 ∧ min (p + 1) 6 ≤ 6 := by omega
    obtain ⟨q, hq⟩ : ∃ q, pow2 p = q := ⟨_, rfl⟩
    obtain ⟨r, hr⟩ : ∃ r, min (p + 1) 6 = r := ⟨_, rfl⟩
    rw [hq] at hpb X Q1
    rw [hr] at hmb X Q2
    clear hq hr
    obtain ⟨hpb0, hpb1⟩ := hpb
    obtain ⟨hmb0, hmb1⟩ := hmb
    have hwrap : IntKind.i64.wrap (now + q) = now + q := IntWalk.i64_in _ (by omega)
    go_enter Tryd.func46, Tryd.ntmps46
    go_wp2_with fail
    go_region_law (first
      | (go_simp; go_at_call 35; refine (Q1.out _).mono ?_; rintro e w' ⟨rfl, hw⟩; rw [hw]; clear hw)
      | (go_simp; go_at_call 48; refine (Q2.out _).mono ?_; rintro e w' ⟨rfl, hw⟩; rw [hw]; clear hw))
    all_goals
      go_wp2
      go_ret
      exact ⟨rint HV.out.symm, X.out _ HK.out, only_drew (only_set (only_set (only_set (only_refl _ _) _ _) _ _) _ _)⟩
end Go.Proofs.YtjpafmkmpnibgabDoor
