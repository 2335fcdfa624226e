/- Chapter 8: what orders events (gen_evs.py). -/
import Derived.Test.YtdcejkompdbliaaDoorEvQ
import Derived.Test.YtdcejkompdbliaaDoorAny
import Derived.Sort.Grow
import Derived.Sort.WalkA
namespace Go.Proofs.YtdcejkompdbliaaDoor
open Go.RowKit
set_option linter.unusedVariables false
/-- only draws and new blocks -/
def Grown (W W' : World) : Prop := ∃ q os, W' = Sort.grow (W.drewN q) os
theorem grown_refl (W : World) : Grown W W := ⟨0, #[], by rw [Sort.grow_empty]; rfl⟩
theorem grown_drew (W : World) : Grown W W.drew := ⟨1, #[], by rw [Sort.grow_empty]; rfl⟩
theorem grown_alloc (W : World) (o : Obj) : Grown W (W.alloc o) := ⟨0, #[o], by rw [Sort.alloc_eq_grow]; rfl⟩
theorem grown_of_eq {W W' : World} (h : W' = W) : Grown W W' := h ▸ grown_refl W
theorem Grown.trans {a b c : World} (h : Grown a b) (k : Grown b c) : Grown a c := by
  obtain ⟨q, os, rfl⟩ := h; obtain ⟨p, us, rfl⟩ := k
  refine ⟨q + p, os ++ us, ?_⟩
  rw [← Sort.grow_grow]
  simp only [World.drewN, Sort.grow, Nat.add_assoc]
theorem Grown.below {a b : World} (h : Grown a b) : Below a.heap.size a b := by
  obtain ⟨q, os, rfl⟩ := h
  exact ⟨rfl, rfl, rfl, by simp [Sort.grow, World.drewN], fun k hk => by
    exact (Sort.heap_grow_old (a.drewN q) os (k := k) (by exact hk))⟩
def cmpV (x y : Int) : Int := if x < y then -1 else if y < x then 1 else 0
def orV (a b : Int) : Int := if a = 0 then b else a
def cmpS (x y : Ev) : Int := orV (cmpV x.stm y.stm) (cmpV x.nod y.nod)
def cmpN (x y : Ev) : Int := orV (cmpV x.nod y.nod) (cmpV x.seq y.seq)
theorem cmpS_neg {x y : Ev} : cmpS x y < 0 ↔ x.stm < y.stm ∨ (x.stm = y.stm ∧ x.nod < y.nod) := by
  unfold cmpS orV cmpV; split <;> split <;> (try split) <;> (try split) <;> omega
theorem cmpN_neg {x y : Ev} : cmpN x y < 0 ↔ x.nod < y.nod ∨ (x.nod = y.nod ∧ x.seq < y.seq) := by
  unfold cmpN orV cmpV; split <;> split <;> (try split) <;> (try split) <;> omega
theorem nan_any (w : World) (x : Int) : Calls Tryd.prog 55 #[.int .i64 x] w fun e w' => e = .returned (.bool false) ∧ w' = w := by
  have h : (x != x) = false := by simp
  go_enter Tryd.func55, Tryd.ntmps55
  go_wp2
  go_ret
  exact ⟨rfl, rfl⟩
set_option maxRecDepth 100000 in
theorem cmpV_any (w : World) (x y : Int) : Calls Tryd.prog 44 #[.int .i64 x, .int .i64 y] w fun e w' => e = .returned (.int .i64 (cmpV x y)) ∧ w' = w := by
  have hc : x < y ∨ (¬ x < y ∧ y < x) ∨ (¬ x < y ∧ ¬ y < x) := by omega
  rcases hc with h1 | ⟨h1, h2⟩ | ⟨h1, h2⟩
  · have HV := Lib.hid (show cmpV x y = -1 by unfold cmpV; rw [if_pos h1])
    go_enter Tryd.func44, Tryd.ntmps44
    go_wp2_with (go_at_call 55; refine (nan_any _ _).mono ?_; rintro e w1 ⟨rfl, hw⟩; rw [hw]; clear hw)
    go_ret
    exact ⟨rint HV.out.symm, rfl⟩
  · have HV := Lib.hid (show cmpV x y = 1 by unfold cmpV; rw [if_neg h1, if_pos h2])
    go_enter Tryd.func44, Tryd.ntmps44
    go_wp2_with (go_at_call 55; refine (nan_any _ _).mono ?_; rintro e w1 ⟨rfl, hw⟩; rw [hw]; clear hw)
    go_ret
    exact ⟨rint HV.out.symm, rfl⟩
  · have HV := Lib.hid (show cmpV x y = 0 by unfold cmpV; rw [if_neg h1, if_neg h2])
    go_enter Tryd.func44, Tryd.ntmps44
    go_wp2_with (go_at_call 55; refine (nan_any _ _).mono ?_; rintro e w1 ⟨rfl, hw⟩; rw [hw]; clear hw)
    go_ret
    exact ⟨rint HV.out.symm, rfl⟩
set_option maxRecDepth 100000 in
theorem orV_any (w : World) (g c : Nat) (a b : Int) (h : Has w g 3 #[.int .i64 a, .int .i64 b]) : Calls Tryd.prog 43 #[.slice (some ⟨g, 0, none⟩) 2 c] w fun e w' => e = .returned (.int .i64 (orV a b)) ∧ w' = w := by
  have c0 := has_cell h 0 rfl; have c1 := has_cell h 1 rfl
  clear h
  by_cases ha : a = 0
  · by_cases hb : b = 0
    · subst ha; subst hb
      go_enter Tryd.func43, Tryd.ntmps43
      go_wp2
      go_loopw [8] (fun i wr => wr = w ∧ ∃ k : Nat, k ≤ 2 ∧ i = .int .i64 k) (fun i _ => 2 - (intOf i).toNat)
      case atStart => exact ⟨rfl, 0, by omega, rfl⟩
      case round =>
        obtain ⟨rfl, k, hk, rfl⟩ := hrel
        have hkc : k = 0 ∨ k = 1 ∨ k = 2 := by omega
        rcases hkc with rfl | rfl | rfl
        · go_wp2
          go_roundw
          case rel => exact ⟨(by first | trivial | rfl), 1, by omega, rfl⟩
          case measure => simp [intOf]
        · go_wp2
          go_roundw
          case rel => exact ⟨(by first | trivial | rfl), 2, by omega, rfl⟩
          case measure => simp [intOf]
        · go_wp2
          go_ret
          exact ⟨rfl, rfl⟩
    · subst ha
      have HV := Lib.hid (show orV 0 b = b from rfl)
      have nb : (b != 0) = true := by simp [hb]
      clear hb
      go_enter Tryd.func43, Tryd.ntmps43
      go_wp2
      go_loopw [8] (fun i wr => wr = w ∧ ∃ k : Nat, k ≤ 1 ∧ i = .int .i64 k) (fun i _ => 2 - (intOf i).toNat)
      case atStart => exact ⟨rfl, 0, by omega, rfl⟩
      case round =>
        obtain ⟨rfl, k, hk, rfl⟩ := hrel
        have hkc : k = 0 ∨ k = 1 := by omega
        rcases hkc with rfl | rfl
        · go_wp2
          go_roundw
          case rel => exact ⟨(by first | trivial | rfl), 1, by omega, rfl⟩
          case measure => simp [intOf]
        · go_wp2
          go_ret
          exact ⟨rint HV.out.symm, rfl⟩
  · have HV := Lib.hid (show orV a b = a from if_neg ha)
    have na : (a != 0) = true := by simp [ha]
    clear ha
    go_enter Tryd.func43, Tryd.ntmps43
    go_wp2
    go_loopw [8] (fun i wr => wr = w ∧ i = .int .i64 0) (fun i _ => 0)
    case atStart => exact ⟨rfl, rfl⟩
    case round =>
      obtain ⟨rfl, rfl⟩ := hrel
      go_wp2
      go_ret
      exact ⟨rint HV.out.symm, rfl⟩
end Go.Proofs.YtdcejkompdbliaaDoor
