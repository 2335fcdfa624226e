/- Chapter 2: contracts of SetJam, the model's and the program's. -/
import Derived.Test.YtpmngaipcmacbaaColW
namespace Go.Proofs.Ytpmngaipcmacbaa
open Go.RowKit
set_option linter.unusedVariables false

def cov (u : Int) (x : Bx) : Bool := inB u x.low (x.low + x.size - 1)
def blw (u : Int) (x : Bx) : Bool := decide (u < x.low + x.size)
theorem cov_eq {L : List Bx} (hb : BoxesTo L L.length) (u : Int) : ∀ (d k : Nat), k + d = L.length → lowAt L k ≤ u → fIdx (blw u) (L.drop k) k = fIdx (cov u) (L.drop k) k
  | 0, k, hk, _ => by rw [List.drop_of_length_le (by omega)]; rfl
  | d + 1, k, hk, hu => by
    have hx : L[k]? = some L[k] := List.getElem?_eq_getElem (by omega)
    have hbk := hb k _ (by omega) hx
    have hs := lowAt_succ hx
    rw [fIdx_drop _ _ _ _ hx, fIdx_drop _ _ _ _ hx]
    unfold BoxAt at hbk
    by_cases h : u < L[k].low + L[k].size
    · have h1 : blw u L[k] = true := by simp [blw, h]
      have h2 : cov u L[k] = true := by simp [cov, inB]; omega
      rw [if_pos h1, if_pos h2]
    · have h1 : ¬ blw u L[k] = true := by simp [blw]; omega
      have h2 : ¬ cov u L[k] = true := by simp [cov, inB]; omega
      rw [if_neg h1, if_neg h2]
      exact cov_eq hb u d (k + 1) (by omega) (by omega)
theorem cov_some {L : List Bx} (hb : BoxesTo L L.length) (u : Int) (hu : u < lowAt L L.length) : ∀ (d k : Nat), k + d = L.length → lowAt L k ≤ u → 0 ≤ fIdx (cov u) (L.drop k) k
  | 0, k, hk, h => by have : k = L.length := by omega
                      subst this; omega
  | d + 1, k, hk, h => by
    have hx : L[k]? = some L[k] := List.getElem?_eq_getElem (by omega)
    have hbk := hb k _ (by omega) hx
    have hs := lowAt_succ hx
    rw [fIdx_drop _ _ _ _ hx]
    unfold BoxAt at hbk
    by_cases h' : u < L[k].low + L[k].size
    · rw [if_pos (by simp [cov, inB]; omega)]; omega
    · rw [if_neg (by simp [cov, inB]; omega)]
      exact cov_some hb u hu d (k + 1) (by omega) (by omega)
theorem cov_none {L : List Bx} (hb : BoxesTo L L.length) (u : Int) (hu : u < 0 ∨ lowAt L L.length ≤ u) : fIdx (cov u) L 0 = -1 := by
  rcases fIdx_cases (cov u) L 0 with ⟨h, _⟩ | ⟨j, x, _, hx, hc⟩
  · exact h
  · have hl : j < L.length := (List.getElem?_eq_some_iff.1 hx).1
    have hbj := hb j x hl hx
    have hsz := size_le hb rfl hx
    have hs := lowAt_succ hx
    unfold BoxAt at hbj
    simp [cov, inB] at hc
    omega
def jamR (z : Int) (F : List Int) (L : List Bx) (u : Int) (q : Bool) (z' : Int) (F' : List Int) (L' : List Bx) (b : Bool) : Prop :=
  z' = z ∧ F' = F ∧ ((∃ (j : Nat) (x : Bx), (ColOk z F L ∧ fIdx (cov u) L 0 = (j : Int) ∧ L[j]? = some x) ∧ b = true ∧ L' = L.set j ⟨x.low, x.size, x.par, q⟩) ∨
    ((∀ (j : Nat) (x : Bx), ¬ (ColOk z F L ∧ fIdx (cov u) L 0 = (j : Int) ∧ L[j]? = some x)) ∧ b = false ∧ L' = L))
theorem jam_det {z : Int} {F : List Int} {L : List Bx} {u : Int} {q : Bool} {z1 z2 : Int} {F1 F2 : List Int} {L1 L2 : List Bx} {b1 b2 : Bool} (h1 : jamR z F L u q z1 F1 L1 b1) (h2 : jamR z F L u q z2 F2 L2 b2) : z1 = z2 ∧ F1 = F2 ∧ L1 = L2 ∧ b1 = b2 := by
  obtain ⟨rfl, rfl, h1⟩ := h1
  obtain ⟨rfl, rfl, h2⟩ := h2
  rcases h1 with ⟨j, x, hx, rfl, rfl⟩ | ⟨hn, rfl, rfl⟩
  · rcases h2 with ⟨j', x', hx', rfl, rfl⟩ | ⟨hn', rfl, rfl⟩
    · have : j = j' := by have := hx.2.1.symm.trans hx'.2.1; omega
      subst this
      have : x = x' := by have := hx.2.2.symm.trans hx'.2.2; injection this
      subst this
      exact ⟨rfl, rfl, rfl, rfl⟩
    · exact absurd hx (hn' j x)
  · rcases h2 with ⟨j', x', hx', rfl, rfl⟩ | ⟨hn', rfl, rfl⟩
    · exact absurd hx' (hn j' x')
    · exact ⟨rfl, rfl, rfl, rfl⟩
theorem jam_no {z : Int} {F : List Int} {L : List Bx} {u : Int} {q : Bool} (h : ∀ (j : Nat) (x : Bx), ¬ (ColOk z F L ∧ fIdx (cov u) L 0 = (j : Int) ∧ L[j]? = some x)) : jamR z F L u q z F L false := ⟨rfl, rfl, .inr ⟨h, rfl, rfl⟩⟩
theorem jam_yes {z : Int} {F : List Int} {L : List Bx} {u : Int} {q : Bool} {j : Nat} {x : Bx} (h0 : ColOk z F L) (h1 : fIdx (cov u) L 0 = (j : Int)) (h2 : L[j]? = some x) : jamR z F L u q z F (L.set j ⟨x.low, x.size, x.par, q⟩) true := ⟨rfl, rfl, .inl ⟨j, x, ⟨h0, h1, h2⟩, rfl, rfl⟩⟩

set_option maxRecDepth 100000 in
theorem jamT_any (w : World) (g : Nat) (x0 x1 x2 : Int) (x3 : Bool) (u : Int) (hg : g < w.heap.size) (hp : w.cell? ⟨g, 0, none⟩ = some (.int .i64 u)) (h0 : 0 ≤ x0) (h1 : x0 ≤ 24) (h2 : 1 ≤ x1) (h3 : x1 ≤ 24) :
    Calls Try.prog 81 #[.agg #[.int .i64 x0, .int .i64 x1, .int .i64 x2, .bool x3], .pointer (some ⟨g, 0, none⟩)] w fun e w' => e = .returned (.bool (blw u ⟨x0, x1, x2, x3⟩)) ∧ Below w.heap.size w w' := by
  have hq : blw u ⟨x0, x1, x2, x3⟩ = decide (u < x0 + x1) := rfl
  rw [hq]
  clear hq
  go_enter Try.func81, Try.ntmps81
  go_wp2
  go_ret
  exact ⟨rfl, balloc _ _⟩

set_option maxRecDepth 100000 in
set_option maxHeartbeats 1000000 in
theorem jamJ_any (w : World) (B g : Nat) (A : Option Addr) (n : Nat) (u : Int) (L : List Bx) (lb : L.length ≤ maxLen) (hB : B ≤ w.heap.size) (hS : XL w B A L) (hg : g < w.heap.size) (hp : w.cell? ⟨g, 0, none⟩ = some (.int .i64 u)) (hok : ∀ x ∈ L, 0 ≤ x.low ∧ x.low ≤ 24 ∧ 1 ≤ x.size ∧ x.size ≤ 24) :
    Calls Try.prog 80 #[.slice A L.length n, .func (.func 81) #[] #[.pointer (some ⟨g, 0, none⟩)]] w fun e w' => e = .returned (.int .i64 (fIdx (blw u) L 0)) ∧ Below w.heap.size w w' := by
  unfold maxLen at lb
  have HS := Lib.hid hS; clear hS
  have HOK := Lib.hid hok; clear hok
  go_enter Try.func80, Try.ntmps80
  go_wp2
  go_loopw [8] (fun i wr => ∃ k : Nat, k ≤ L.length ∧ i = .int .i64 k ∧ fIdx (blw u) L 0 = fIdx (blw u) (L.drop k) k ∧ Below w.heap.size w wr) (fun i _ => L.length - (intOf i).toNat)
  case atStart => exact ⟨0, Nat.zero_le _, rfl, by simp, Below.refl _ _⟩
  case round =>
    obtain ⟨k, hk, rfl, hno, hb⟩ := hrel
    have HN := Lib.hid hno; clear hno
    have hpr := (bold hb g 0 hg).trans hp
    have HPR := Lib.hid hpr; clear hpr
    have hsz := hb.size
    by_cases hlt : k < L.length
    · obtain ⟨b, off, x, rfl, hbB, hx, hc0, hc1, hc2, hc3⟩ := (HS.out.later hB hb).at_ hlt
      have hst := fIdx_drop (blw u) L k x hx
      have hbd := HOK.out x (List.mem_of_getElem? hx)
      obtain ⟨x0, x1, x2, x3⟩ := x
      dsimp only at hc0 hc1 hc2 hc3 hbd
      clear hx
      have HST := Lib.hid hst; have HBD := Lib.hid hbd; clear hst hbd
      go_wp2_with fail
      refine (jamT_any wr g x0 x1 x2 x3 u (by omega) HPR.out HBD.out.1 HBD.out.2.1 HBD.out.2.2.1 HBD.out.2.2.2).mono ?_
      rintro e w2 ⟨rfl, hb2⟩
      have hst := HST.out
      generalize blw u ⟨x0, x1, x2, x3⟩ = q at *
      cases q
      · rw [if_neg (by simp)] at hst
        have HST2 := Lib.hid hst; clear hst HST
        go_wp2
        go_roundw
        case rel => exact ⟨k + 1, by omega, by go_num, by rw [HN.out, HST2.out], bthen hb hb2⟩
        case measure => simp [intOf]; omega
      · rw [if_pos rfl] at hst
        have HST2 := Lib.hid hst; clear hst HST
        go_wp2
        go_ret
        exact ⟨ret_int (by rw [HN.out, HST2.out]), bthen hb hb2⟩
    · go_wp2
      go_ret
      have hkl : k = L.length := by omega
      subst hkl
      exact ⟨ret_int (by rw [HN.out, List.drop_length]; rfl), hb⟩
theorem box_bd {z : Int} {F : List Int} {L : List Bx} (h : ColOk z F L) : ∀ x ∈ L, 0 ≤ x.low ∧ x.low ≤ 24 ∧ 1 ≤ x.size ∧ x.size ≤ 24 := fun x hx => by
  obtain ⟨j, hj⟩ := List.getElem?_of_mem hx
  have hl : j < L.length := (List.getElem?_eq_some_iff.1 hj).1
  have h1 := h.box j x hl hj
  have h2 := size_le h.box h.top hj
  have h3 := h.fix.hi
  have h4 := lowAt_succ hj
  unfold BoxAt at h1
  omega
end Go.Proofs.Ytpmngaipcmacbaa
