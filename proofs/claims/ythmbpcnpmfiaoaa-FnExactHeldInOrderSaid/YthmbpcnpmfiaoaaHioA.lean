/- Chapter 2: HeldInOrder: the sizes, the count, stores into a row of gaps. -/
import Derived.Test.YthmbpcnpmfiaoaaBkC
namespace Go.Proofs.Ythmbpcnpmfiaoaa
open Go.RowKit
set_option linter.unusedVariables false

def szB (l : List Int) : Bool := decide (l.length ≤ 8) && l.all fun x => decide (1 ≤ x)
theorem szB_iff {l : List Int} : szB l = true ↔ l.length ≤ 8 ∧ ∀ x ∈ l, 1 ≤ x := by
  unfold szB; rw [Bool.and_eq_true, decide_eq_true_eq, List.all_eq_true]
  constructor
  · rintro ⟨h1, h2⟩; exact ⟨h1, fun x hx => by simpa using h2 x hx⟩
  · rintro ⟨h1, h2⟩; exact ⟨h1, fun x hx => by simpa using h2 x hx⟩
def takeG (G : List Gp) (m : Nat) (s : Int) : List Gp := match G[m]? with | none => G | some x => G.set m ⟨x.col, x.low, wrap64 (x.size - s)⟩
theorem takeG_at {G : List Gp} {m : Nat} {x : Gp} {s : Int} (h : G[m]? = some x) : takeG G m s = G.set m ⟨x.col, x.low, wrap64 (x.size - s)⟩ := by unfold takeG; rw [h]
theorem takeG_len (G : List Gp) (m : Nat) (s : Int) : (takeG G m s).length = G.length := by unfold takeG; split <;> simp
def heldR : List Int → List Gp → Nat → Nat
  | [], _, k => k
  | s :: r, G, k => if leastP s G < 0 then k else heldR r (takeG G (leastP s G).toNat s) (k + 1)
theorem heldR_nil (S : List Int) : heldR S [] 0 = 0 := by
  cases S with
  | nil => rfl
  | cons s r => exact if_pos (by unfold leastP; split <;> simp [leastI, leastG])
theorem heldR_le : ∀ (S : List Int) (G : List Gp) (k : Nat), heldR S G k ≤ k + S.length
  | [], _, k => by simp [heldR]
  | s :: r, G, k => by
    unfold heldR; split
    · simp
    · have := heldR_le r (takeG G (leastP s G).toNat s) (k + 1); simp; omega
noncomputable def heldV (l : List Cl) (S : List Int) : Int := if szB S = true then (heldR S (bgO l) 0 : Int) else 0
theorem gpV_set {l : List Gp} {k : Nat} {x : Gp} (h : l[k]? = some x) (v : Int) : gpV (l.set k ⟨x.col, x.low, v⟩) = (gpV l).set (k * 3 + 2) (.int .i64 v) := by
  induction l generalizing k with
  | nil => simp at h
  | cons a r ih =>
    cases k with
    | zero => obtain rfl : a = x := by simpa using h
              rfl
    | succ k =>
      have e : gpV (a :: r) = .int .i64 a.col :: .int .i64 a.low :: .int .i64 a.size :: gpV r := rfl
      have e2 : gpV ((a :: r).set (k + 1) ⟨x.col, x.low, v⟩) = .int .i64 a.col :: .int .i64 a.low :: .int .i64 a.size :: gpV (r.set k ⟨x.col, x.low, v⟩) := rfl
      rw [e2, ih (by simpa using h), e, show (k + 1) * 3 = k * 3 + 1 + 1 + 1 by omega]
      rfl
theorem OR.putG {w : World} {base m : Nat} {A : Option Addr} {G : List Gp} {x : Gp} (h : OR w base 46 A (gpV G)) (hx : G[m]? = some x) (v : Int) :
    ∃ (g : Nat) (cur : Array Value), A = some ⟨g, 0, none⟩ ∧ base ≤ g ∧ Has w g 46 cur ∧ cur[m * 3 + 2]? = some (.int .i64 x.size) ∧ OR (w.setCell ⟨g, m * 3 + 2, none⟩ (.int .i64 v)) base 46 A (gpV (G.set m ⟨x.col, x.low, v⟩)) := by
  have hv := gpV_at hx
  rcases h with h | ⟨g, cur, rfl, hb, hh, hc⟩
  · rw [h] at hv; simp at hv
  · have h2 := hc _ _ hv.2.2
    refine ⟨g, cur, rfl, hb, hh, h2, .inr ⟨g, _, rfl, hb, has_set hh (m * 3 + 2) (.int .i64 v), fun j u hu => ?_⟩⟩
    rw [gpV_set hx] at hu
    have hl := (List.getElem?_eq_some_iff.1 hv.2.2).1
    by_cases e2 : j = m * 3 + 2
    · subst e2
      rw [List.getElem?_set_self hl] at hu
      rw [Array.getElem?_setIfInBounds_self_of_lt (Array.getElem?_eq_some_iff.1 h2).1]; exact hu
    · rw [List.getElem?_set_ne (fun e => e2 e.symm)] at hu
      rw [Array.getElem?_setIfInBounds_ne (fun e => e2 e.symm)]
      exact hc j u hu

theorem cloZ_any (w : World) (x : Int) : Calls Try.prog 48 #[.int .i64 x] w fun e w' => e = .returned (.bool (decide (x < 1))) ∧ w' = w := by
  go_enter Try.func48, Try.ntmps48
  go_wp2
  go_ret
  exact ⟨rfl, rfl⟩
set_option maxRecDepth 100000 in
set_option maxHeartbeats 2000000 in
theorem indexZ_any (w : World) (B : Nat) (A : Option Addr) (c : Nat) (l : List Int) (hl : l.length ≤ maxLen) (hB : B ≤ w.heap.size) (hS : IL w B A l) :
    Calls Try.prog 58 #[.slice A l.length c, .func (.func 48) #[] #[]] w fun e w' => ∃ z : Int, e = .returned (.int .i64 z) ∧ (0 ≤ z ↔ ¬ ∀ x ∈ l, 1 ≤ x) ∧ -1 ≤ z ∧ Below w.heap.size w w' := by
  unfold maxLen at hl
  have HS := Lib.hid hS; clear hS
  go_enter Try.func58, Try.ntmps58
  go_wp2
  go_loopw [8] (fun i wr => ∃ k : Nat, k ≤ l.length ∧ i = .int .i64 k ∧ (∀ j y, j < k → l[j]? = some y → 1 ≤ y) ∧ Below w.heap.size w wr) (fun i _ => l.length - (intOf i).toNat)
  case atStart => exact ⟨0, Nat.zero_le _, rfl, (fun j y hj => absurd hj (by omega)), Below.refl _ _⟩
  case round =>
    obtain ⟨k, hk, rfl, hno, hb⟩ := hrel
    have HNO := Lib.hid hno; clear hno
    have hsz := hb.size
    by_cases hlt : k < l.length
    · obtain ⟨b, off, x, rfl, hbB, hx, hc0⟩ := (HS.out.later hB hb).at_ hlt
      have Hx := Lib.hid hx; clear hx
      by_cases hq : x < 1
      · have hd : decide (x < 1) = true := by simpa using hq
        have HQ := Lib.hid hq; clear hq
        go_wp2_with (go_at_call 48; refine (cloZ_any _ x).mono ?_; rintro e w1 ⟨rfl, hw⟩; rw [hw, hd]; clear hw)
        go_ret
        exact ⟨_, rfl, ⟨fun _ hall => absurd (hall x (List.mem_of_getElem? Hx.out)) (by have := HQ.out; omega), fun _ => by omega⟩, by omega, hb⟩
      · have hd : decide (x < 1) = false := by simpa using hq
        have HQ := Lib.hid hq; clear hq
        go_wp2_with (go_at_call 48; refine (cloZ_any _ x).mono ?_; rintro e w1 ⟨rfl, hw⟩; rw [hw, hd]; clear hw)
        go_roundw
        case rel => exact ⟨k + 1, by omega, by go_num, (fun j y hj hy => by
          by_cases e : j = k
          · subst e; rw [Hx.out] at hy; injection hy with hy; subst hy; have := HQ.out; omega
          · exact HNO.out j y (by omega) hy), hb⟩
        case measure => simp [intOf]; omega
    · go_wp2
      go_ret
      have hkl : k = l.length := by omega
      subst hkl
      refine ⟨-1, rfl, ⟨fun h => absurd h (by omega), fun h => absurd (fun x hx => ?_) h⟩, by omega, hb⟩
      obtain ⟨j, hj, rfl⟩ := List.getElem_of_mem hx
      exact HNO.out j _ hj (List.getElem?_eq_getElem hj)
theorem sizesI_any (w : World) (B : Nat) (A : Option Addr) (c : Nat) (l : List Int) (hl : l.length ≤ maxLen) (hB : B ≤ w.heap.size) (hS : IL w B A l) :
    Calls Try.prog 29 #[.slice A l.length c] w fun e w' => e = .returned (.bool (szB l)) ∧ Below w.heap.size w w' := by
  have hcon : Calls Try.prog 47 #[.slice A l.length c, .func (.func 48) #[] #[]] w fun e w' => ∃ q, e = .returned (.bool q) ∧ (q = true ↔ ¬ ∀ x ∈ l, 1 ≤ x) ∧ Below w.heap.size w w' := by
    go_enter Try.func47, Try.ntmps47
    go_wp2_with fail
    refine (indexZ_any _ B _ _ _ hl hB hS).mono ?_
    rintro e w1 ⟨z, rfl, hz, hz1, hb⟩
    have HZ := Lib.hid hz; clear hz
    by_cases h0 : 0 ≤ z
    · have hd : decide (0 ≤ z) = true := by simpa using h0
      go_wp2_with fail
      go_ret
      exact ⟨true, rfl, ⟨fun _ => HZ.out.1 h0, fun _ => rfl⟩, hb⟩
    · have hd : decide (0 ≤ z) = false := by simpa using h0
      go_wp2_with fail
      go_ret
      exact ⟨false, rfl, ⟨fun h => (by cases h), fun h => absurd (HZ.out.2 h) (by omega)⟩, hb⟩
  have HCON := Lib.hid hcon; clear hcon
  unfold maxLen at hl
  by_cases h8 : l.length ≤ 8
  · have hd : decide ((l.length : Int) ≤ 8) = true := by simpa using (show (l.length : Int) ≤ 8 by omega)
    go_enter Try.func29, Try.ntmps29
    go_wp2_with fail
    refine HCON.out.mono ?_
    rintro e w1 ⟨q, rfl, hq, hb⟩
    have HQ := Lib.hid hq; clear hq
    have hz : szB l = !q := by
      have hq := HQ.out
      cases q
      · exact szB_iff.2 ⟨h8, Classical.byContradiction fun h => by simpa using hq.2 h⟩
      · exact Bool.eq_false_iff.2 fun h => hq.1 rfl (szB_iff.1 h).2
    have HZ := Lib.hid hz; clear hz
    cases q <;> (go_wp2_with fail; go_ret; exact ⟨ret_bool HZ.out.symm, hb⟩)
  · have hd : decide ((l.length : Int) ≤ 8) = false := by simpa using (show ¬ (l.length : Int) ≤ 8 by omega)
    have hz : szB l = false := Bool.eq_false_iff.2 fun h => h8 (szB_iff.1 h).1
    have HZ := Lib.hid hz; clear hz
    go_enter Try.func29, Try.ntmps29
    go_wp2_with fail
    go_ret
    exact ⟨ret_bool HZ.out.symm, Below.refl _ _⟩
set_option maxRecDepth 100000 in
set_option maxHeartbeats 2000000 in
theorem sizesS_any (w : World) (B : Nat) (A : Option Addr) (c : Nat) (l : List Int) (hl : l.length ≤ maxLen) (hB : B ≤ w.heap.size) (hS : IL w B A l) :
    Calls Try.prog 22 #[.slice A l.length c] w fun e w' => e = .returned (.bool (szB l)) ∧ Below w.heap.size w w' := by
  unfold maxLen at hl
  have HS := Lib.hid hS; clear hS
  go_enter Try.func22, Try.ntmps22
  go_wp2
  go_loopw [3] (fun i wr => ∃ k : Nat, k ≤ l.length ∧ i = .int .i64 k ∧ (∀ j y, j < k → l[j]? = some y → 1 ≤ y) ∧ k ≤ 9 ∧ Below w.heap.size w wr) (fun i _ => l.length - (intOf i).toNat)
  case atStart => exact ⟨0, Nat.zero_le _, rfl, (fun j y hj => absurd hj (by omega)), by omega, Below.refl _ _⟩
  case round =>
    obtain ⟨k, hk, rfl, hno, hk9, hb⟩ := hrel
    have HNO := Lib.hid hno; clear hno
    have hsz := hb.size
    by_cases hlt : k < l.length
    · have h1 : decide ((k : Int) < (l.length : Int)) = true := by simpa using (show (k : Int) < l.length by omega)
      by_cases h8 : k ≤ 8
      · have h2 : decide ((k : Int) ≤ 8) = true := by simpa using (show (k : Int) ≤ 8 by omega)
        obtain ⟨b, off, x, rfl, hbB, hx, hc0⟩ := (HS.out.later hB hb).at_ hlt
        have Hx := Lib.hid hx; clear hx
        by_cases hq : x < 1
        · have hd : decide (x < 1) = true := by simpa using hq
          have hz : szB l = false := Bool.eq_false_iff.2 fun h => absurd ((szB_iff.1 h).2 x (List.mem_of_getElem? Hx.out)) (by omega)
          have HZ := Lib.hid hz; clear hz
          go_wp2
          go_ret
          exact ⟨ret_bool HZ.out.symm, hb⟩
        · have hd : decide (x < 1) = false := by simpa using hq
          go_wp2
          go_roundw
          case rel => exact ⟨k + 1, by omega, by go_num, (fun j y hj hy => by
            by_cases e : j = k
            · subst e; rw [Hx.out] at hy; injection hy with hy; subst hy; omega
            · exact HNO.out j y (by omega) hy), by omega, hb⟩
          case measure => simp [intOf]; omega
      · have h2 : decide ((k : Int) ≤ 8) = false := by simpa using (show ¬ (k : Int) ≤ 8 by omega)
        have h3 : decide ((l.length : Int) ≤ 8) = false := by simpa using (show ¬ (l.length : Int) ≤ 8 by omega)
        have hz : szB l = false := Bool.eq_false_iff.2 fun h => absurd (szB_iff.1 h).1 (by omega)
        have HZ := Lib.hid hz; clear hz
        go_wp2
        go_ret
        exact ⟨ret_bool HZ.out.symm, hb⟩
    · have hkl : k = l.length := by omega
      have h1 : decide ((k : Int) < (l.length : Int)) = false := by simpa using (show ¬ (k : Int) < l.length by omega)
      have hz : szB l = decide ((l.length : Int) ≤ 8) := by
        by_cases h8 : l.length ≤ 8
        · rw [szB_iff.2 ⟨h8, fun x hx => ?_⟩, decide_eq_true (by omega)]
          obtain ⟨j, hj, rfl⟩ := List.getElem_of_mem hx
          exact HNO.out j _ (by omega) (List.getElem?_eq_getElem hj)
        · rw [decide_eq_false (by omega)]; exact Bool.eq_false_iff.2 fun h => h8 (szB_iff.1 h).1
      have HZ := Lib.hid hz; clear hz
      go_wp2
      go_ret
      exact ⟨ret_bool HZ.out.symm, hb⟩
end Go.Proofs.Ythmbpcnpmfiaoaa
