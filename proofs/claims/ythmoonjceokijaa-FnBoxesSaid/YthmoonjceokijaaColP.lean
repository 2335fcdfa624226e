/- Chapter 2: contracts of what the program's ColumnOk calls. -/
import Derived.Test.YthmoonjceokijaaBoxH
namespace Go.Proofs.Ythmoonjceokijaa
open Go.RowKit
set_option linter.unusedVariables false

/-- the first index at which the list has x -/
def idxFrom (x : Int) : List Int → Nat → Int
  | [], _ => -1
  | a :: r, k => if x = a then k else idxFrom x r (k + 1)
theorem idx_drop (x : Int) (l : List Int) (k : Nat) (a : Int) (hk : l[k]? = some a) : idxFrom x (l.drop k) k = if x = a then (k : Int) else idxFrom x (l.drop (k + 1)) (k + 1) := by
  have hlt : k < l.length := (List.getElem?_eq_some_iff.1 hk).1
  rw [List.drop_eq_getElem_cons hlt]
  have : l[k] = a := by rw [List.getElem?_eq_getElem hlt] at hk; injection hk
  rw [this]; rfl
theorem idx_has (x : Int) : ∀ (l : List Int) (k : Nat), (0 ≤ idxFrom x l k ↔ x ∈ l)
  | [], k => by simp [idxFrom]
  | a :: r, k => by
    unfold idxFrom
    by_cases h : x = a
    · rw [if_pos h]; simp [h]
    · rw [if_neg h, idx_has x r (k + 1)]; simp [h]
set_option maxHeartbeats 400000 in
theorem index_any (w : World) (B : Nat) (A : Option Addr) (c : Nat) (l : List Int) (x : Int) (hl : l.length ≤ maxLen) (hB : B ≤ w.heap.size) (hS : IL w B A l) :
    Calls Try.prog 63 #[.slice A l.length c, .int .i64 x] w fun e w' => e = .returned (.int .i64 (idxFrom x l 0)) ∧ Below w.heap.size w w' := by
  unfold maxLen at hl
  have HS := Lib.hid hS; clear hS
  go_enter Try.func63, Try.ntmps63
  go_wp2
  go_loopw [8] (fun i wr => ∃ k : Nat, k ≤ l.length ∧ i = .int .i64 k ∧ idxFrom x l 0 = idxFrom x (l.drop k) k ∧ Below w.heap.size w wr) (fun i _ => l.length - (intOf i).toNat)
  case atStart => exact ⟨0, Nat.zero_le _, rfl, by simp, Below.refl _ _⟩
  case round =>
    obtain ⟨k, hk, rfl, hno, hb⟩ := hrel
    have HN := Lib.hid hno; clear hno
    by_cases hlt : k < l.length
    · obtain ⟨b, off, y, rfl, hbB, hy, hc0⟩ := (HS.out.later hB hb).at_ hlt
      have hst := idx_drop x l k y hy
      clear hy
      by_cases e : x = y
      · rw [if_pos e] at hst
        have HST := Lib.hid hst; clear hst
        subst e
        have e0 : (x == x) = true := by simp
        go_wp2
        go_ret
        exact ⟨ret_int (by rw [HN.out, HST.out]), hb⟩
      · rw [if_neg e] at hst
        have HST := Lib.hid hst; clear hst
        have e0 : (x == y) = false := by simpa using e
        go_wp2
        go_roundw
        case rel => exact ⟨k + 1, by omega, by go_num, by rw [HN.out, HST.out], hb⟩
        case measure => simp [intOf]; omega
    · go_wp2
      go_ret
      have hkl : k = l.length := by omega
      subst hkl
      exact ⟨ret_int (by rw [HN.out, List.drop_length]; rfl), hb⟩
set_option maxHeartbeats 400000 in
theorem contains_any (w : World) (B : Nat) (A : Option Addr) (c : Nat) (l : List Int) (x : Int) (hl : l.length ≤ maxLen) (hB : B ≤ w.heap.size) (hS : IL w B A l) :
    Calls Try.prog 57 #[.slice A l.length c, .int .i64 x] w fun e w' => e = .returned (.bool (l.contains x)) ∧ Below w.heap.size w w' := by
  go_enter Try.func57, Try.ntmps57
  go_wp2_with fail
  refine (index_any w B A c l x hl hB hS).mono ?_
  rintro e w1 ⟨rfl, hb1⟩
  have hi := idx_has x l 0
  generalize idxFrom x l 0 = i at *
  have HI := Lib.hid hi; clear hi
  by_cases h0 : 0 ≤ i
  · go_wp2
    go_ret
    exact ⟨ret_bool (by have := HI.out.1 h0; simp [this]), hb1⟩
  · go_wp2
    go_ret
    exact ⟨ret_bool (by have : x ∉ l := fun hm => absurd (HI.out.2 hm) (by omega); simp [this]; omega), hb1⟩

def prevI (F : List Int) : Nat → Int
  | 0 => 0
  | m + 1 => (F[m]?).getD 0
theorem prev_next {F : List Int} {k : Nat} {x : Int} (h : F[k]? = some x) : prevI F (k + 1) = x := by simp [prevI, h]
structure FixTo (h : Int) (F : List Int) (n : Nat) : Prop where
  fix : ∀ (k : Nat) (x : Int), k < n → F[k]? = some x → 1 ≤ x ∧ x < h
  asc : ∀ (k : Nat) (x y : Int), k + 1 < n → F[k]? = some x → F[k + 1]? = some y → x < y
theorem fixTo_zero (h : Int) (F : List Int) : FixTo h F 0 := ⟨fun k x hk => absurd hk (by omega), fun k x y hk => absurd hk (by omega)⟩
theorem fixTo_next {h : Int} {F : List Int} {k : Nat} {x : Int} (hF : FixTo h F k) (hx : F[k]? = some x) (h1 : prevI F k < x) (h2 : x < h) (h3 : 0 ≤ prevI F k) : FixTo h F (k + 1) := by
  refine ⟨fun j y hj hy => ?_, fun j y z hj hy hz => ?_⟩
  · by_cases e : j = k
    · subst e; rw [hx] at hy; injection hy with hy; subst hy; omega
    · exact hF.fix j y (by omega) hy
  · by_cases e : j + 1 = k
    · subst e
      rw [hx] at hz; injection hz with hz; subst hz
      rw [prev_next hy] at h1; exact h1
    · exact hF.asc j y z (by omega) hy hz
theorem fix_done {h : Int} {F : List Int} (h1 : 1 ≤ h) (h2 : h ≤ 24) (hF : FixTo h F F.length) : FixOk h F :=
  ⟨h1, h2, fun k x hx => hF.fix k x (List.getElem?_eq_some_iff.1 hx).1 hx, fun k x y hx hy => hF.asc k x y (List.getElem?_eq_some_iff.1 hy).1 hx hy⟩
theorem fix_no {h : Int} {F : List Int} {k : Nat} {x : Int} (hx : F[k]? = some x) (hbad : x ≤ prevI F k ∨ h ≤ x) : ¬ FixOk h F := fun g => by
  have h1 := g.fix k x hx
  rcases hbad with hb | hb
  · rcases k with _ | m
    · simp [prevI] at hb; omega
    · have hml : m < F.length := by have := (List.getElem?_eq_some_iff.1 hx).1; omega
      have hm : F[m]? = some F[m] := List.getElem?_eq_getElem hml
      rw [prev_next hm] at hb
      have := g.asc m _ x hm hx
      omega
  · omega
set_option maxHeartbeats 400000 in
theorem fixedI_any (w : World) (B : Nat) (A : Option Addr) (c : Nat) (F : List Int) (h : Int) (hl : F.length ≤ maxLen) (hB : B ≤ w.heap.size) (hS : IL w B A F) :
    Calls Try.prog 37 #[.int .i64 h, .slice A F.length c] w (Tells (FixOk h F) w) := by
  unfold maxLen at hl
  have HS := Lib.hid hS; clear hS
  by_cases h1 : h < 1
  · go_enter Try.func37, Try.ntmps37
    go_wp2
    go_ret
    exact tells_no (fun g => by have := g.lo; omega) (Below.refl _ _)
  by_cases h24 : 24 < h
  · go_enter Try.func37, Try.ntmps37
    go_wp2
    go_ret
    exact tells_no (fun g => by have := g.hi; omega) (Below.refl _ _)
  go_enter Try.func37, Try.ntmps37
  go_wp2
  go_loopw [5, 16] (fun bv i wr => ∃ k : Nat, k ≤ F.length ∧ i = .int .i64 k ∧ bv = .int .i64 (prevI F k) ∧ 0 ≤ prevI F k ∧ prevI F k < 24 ∧ FixTo h F k ∧ Below w.heap.size w wr) (fun _ i _ => F.length - (intOf i).toNat)
  case atStart => exact ⟨0, Nat.zero_le _, rfl, rfl, by simp [prevI], by simp [prevI], fixTo_zero _ _, Below.refl _ _⟩
  case round =>
    obtain ⟨k, hk, rfl, rfl, hp0, hp1, hF, hb⟩ := hrel
    have HF := Lib.hid hF; clear hF
    by_cases hlt : k < F.length
    · obtain ⟨b, off, x, rfl, hbB, hx, hc0⟩ := (HS.out.later hB hb).at_ hlt
      have hpn := prev_next hx
      have HX := Lib.hid hx; clear hx
      have HPN := Lib.hid hpn; clear hpn
      generalize hpv : prevI F k = p at *
      have HP := Lib.hid hpv; clear hpv
      by_cases q0 : x ≤ p
      · go_wp2
        go_ret
        exact tells_no (fix_no HX.out (.inl (by rw [HP.out]; exact q0))) hb
      by_cases q1 : h ≤ x
      · go_wp2
        go_ret
        exact tells_no (fix_no HX.out (.inr q1)) hb
      go_wp2
      go_roundw
      case rel => exact ⟨k + 1, by omega, by go_num, by rw [HPN.out], by rw [HPN.out]; omega, by rw [HPN.out]; omega, fixTo_next HF.out HX.out (by rw [HP.out]; omega) (by omega) (by rw [HP.out]; omega), hb⟩
      case measure => simp [intOf]; omega
    · go_wp2
      go_ret
      have hkl : k = F.length := by omega
      subst hkl
      exact tells_yes (fix_done (by omega) (by omega) HF.out) hb
end Go.Proofs.Ythmoonjceokijaa
