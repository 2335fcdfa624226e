
/- Chapter 9: SecretOf of both sides (gen_nts.py). -/
import Derived.Test.YtjpkpfmpjgeeiaaGreatQ22
import Derived.Test.YtjpkpfmpjgeeiaaGreatQ09
import Derived.Deep.RegionHeld3
import Derived.Deep.DeepMust
namespace Go.Proofs.YtjpkpfmpjgeeiaaGreat
open Go.RowKit
set_option linter.unusedVariables false
set_option maxRecDepth 100000
def secV (s p : Int) : Int := if (secB s && inR p 1 12) = true then (s + 7919 * p) % 2147483646 + 1 else 0
theorem secV_no {s p : Int} (h : (secB s && inR p 1 12) = false) : secV s p = 0 := by unfold secV; rw [if_neg (by simp [h])]
theorem secV_yes {s p : Int} (h : (secB s && inR p 1 12) = true) : secV s p = (s + 7919 * p) % 2147483646 + 1 := by unfold secV; rw [if_pos h]
theorem secSN_any (w : World) (x : Net) (p : Int) :
    Calls Tryz.prog 68 #[.agg #[.int .i64 x.tm.keep, .int .i64 x.tm.free, .int .i64 x.tm.step, .int .i64 x.tm.rate, .int .i64 x.tm.cap, .int .i64 x.tm.longer, .int .i64 x.tm.price, .int .i64 x.tm.most, .int .i64 x.room, .int .i64 x.secret, .int .i64 x.now, .slice x.AS x.st.length x.cS, .slice x.AP x.pc.length x.cP, .slice x.AG x.gr.length x.cG, .slice x.AJ x.jr.length x.cJ], .int .i64 p] w fun e w' => e = .returned (.int .i64 (secV x.secret p)) ∧ Below w.heap.size w w' := by
  cases hs : secB x.secret
  · have hv := secV_no (s := x.secret) (p := p) (by simp [hs])
    have HV := Lib.hid hv; clear hv
    go_enter Tryz.func68, Tryz.ntmps68
    go_wp2_with fail
    refine (secS_any _ x.secret).mono ?_
    rintro e w' ⟨rfl, hw⟩
    rw [hw, hs]; clear hw
    go_wp2_with fail
    go_ret
    exact ⟨rint HV.out.symm, balloc _ _⟩
  · have hsr := (secB_iff.1 hs)
    cases hp : inR p 1 12
    · have hv := secV_no (s := x.secret) (p := p) (by simp [hp])
      have HV := Lib.hid hv; clear hv
      go_enter Tryz.func68, Tryz.ntmps68
      go_wp2_with fail
      refine (secS_any _ x.secret).mono ?_
      rintro e w' ⟨rfl, hw⟩
      rw [hw, hs]; clear hw
      go_wp2_with fail
      refine (inR_any _ p 1 12).mono ?_
      rintro e w' ⟨rfl, hw⟩
      rw [hw, hp]; clear hw
      go_wp2_with fail
      go_ret
      exact ⟨rint HV.out.symm, balloc _ _⟩
    · have hv := secV_yes (s := x.secret) (p := p) (by simp [hs, hp])
      have hpr := inR_iff.1 hp
      have HV := Lib.hid hv; clear hv
      go_enter Tryz.func68, Tryz.ntmps68
      go_wp2_with fail
      refine (secS_any _ x.secret).mono ?_
      rintro e w' ⟨rfl, hw⟩
      rw [hw, hs]; clear hw
      go_wp2_with fail
      refine (inR_any _ p 1 12).mono ?_
      rintro e w' ⟨rfl, hw⟩
      rw [hw, hp]; clear hw
      go_wp2_with fail
      go_ret
      exact ⟨rint (by rw [HV.out]; try rw [Int.tmod_eq_emod_of_nonneg (by omega)]), balloc _ _⟩
theorem secIN_any (w : World) (x : Net) (p : Int) :
    Calls Tryz.prog 122 #[.agg #[.int .i64 x.tm.keep, .int .i64 x.tm.free, .int .i64 x.tm.step, .int .i64 x.tm.rate, .int .i64 x.tm.cap, .int .i64 x.tm.longer, .int .i64 x.tm.price, .int .i64 x.tm.most, .int .i64 x.room, .int .i64 x.secret, .int .i64 x.now, .slice x.AS x.st.length x.cS, .slice x.AP x.pc.length x.cP, .slice x.AG x.gr.length x.cG, .slice x.AJ x.jr.length x.cJ], .int .i64 p] w fun e w' => e = .returned (.int .i64 (secV x.secret p)) ∧ Below w.heap.size w w' := by
  cases hs : secB x.secret
  · have hv := secV_no (s := x.secret) (p := p) (by simp [hs])
    have HV := Lib.hid hv; clear hv
    go_enter Tryz.func122, Tryz.ntmps122
    go_wp2_with fail
    refine (secI_any _ x.secret).mono ?_
    rintro e w' ⟨rfl, hw⟩
    rw [hw, hs]; clear hw
    go_wp2_with fail
    go_ret
    exact ⟨rint HV.out.symm, balloc _ _⟩
  · have hsr := (secB_iff.1 hs)
    by_cases h1 : p < 1
    · have hp : inR p 1 12 = false := inR_no.2 (by omega)
      have hv := secV_no (s := x.secret) (p := p) (by simp [hp])
      have HV := Lib.hid hv; clear hv
      go_enter Tryz.func122, Tryz.ntmps122
      go_wp2_with fail
      refine (secI_any _ x.secret).mono ?_
      rintro e w' ⟨rfl, hw⟩
      rw [hw, hs]; clear hw
      go_wp2_with fail
      go_ret
      exact ⟨rint HV.out.symm, balloc _ _⟩
    by_cases h2 : 12 < p
    · have hp : inR p 1 12 = false := inR_no.2 (by omega)
      have hv := secV_no (s := x.secret) (p := p) (by simp [hp])
      have HV := Lib.hid hv; clear hv
      go_enter Tryz.func122, Tryz.ntmps122
      go_wp2_with fail
      refine (secI_any _ x.secret).mono ?_
      rintro e w' ⟨rfl, hw⟩
      rw [hw, hs]; clear hw
      go_wp2_with fail
      go_ret
      exact ⟨rint HV.out.symm, balloc _ _⟩
    · have hp : inR p 1 12 = true := inR_iff.2 (by omega)
      have hv := secV_yes (s := x.secret) (p := p) (by simp [hs, hp])
      have HV := Lib.hid hv; clear hv
      go_enter Tryz.func122, Tryz.ntmps122
      go_wp2_with fail
      refine (secI_any _ x.secret).mono ?_
      rintro e w' ⟨rfl, hw⟩
      rw [hw, hs]; clear hw
      go_wp2_with fail
      go_ret
      exact ⟨rint (by rw [HV.out]; try rw [Int.tmod_eq_emod_of_nonneg (by omega)]), balloc _ _⟩
end Go.Proofs.YtjpkpfmpjgeeiaaGreat
namespace Go.Proofs.YtjpkpfmpjgeeiaaGreat
open Go.RowKit
set_option linter.unusedVariables false

/-- the first index at which the test holds -/
def gIdx (p : Cl → Bool) : List Cl → Nat → Int
  | [], _ => -1
  | a :: r, k => if p a = true then k else gIdx p r (k + 1)
theorem gIdx_drop (p : Cl → Bool) (l : List Cl) (k : Nat) (a : Cl) (hk : l[k]? = some a) : gIdx p (l.drop k) k = if p a = true then (k : Int) else gIdx p (l.drop (k + 1)) (k + 1) := by
  have hlt : k < l.length := (List.getElem?_eq_some_iff.1 hk).1
  rw [List.drop_eq_getElem_cons hlt]
  have : l[k] = a := by rw [List.getElem?_eq_getElem hlt] at hk; injection hk
  rw [this]; rfl
theorem gIdx_cases (p : Cl → Bool) : ∀ (l : List Cl) (k : Nat), (gIdx p l k = -1 ∧ ∀ x ∈ l, p x = false) ∨ ∃ (j : Nat) (x : Cl), gIdx p l k = ((k + j : Nat) : Int) ∧ l[j]? = some x ∧ p x = true
  | [], k => .inl ⟨rfl, fun x hx => by cases hx⟩
  | a :: r, k => by
    unfold gIdx
    by_cases h : p a = true
    · rw [if_pos h]; exact .inr ⟨0, a, rfl, rfl, h⟩
    · rw [if_neg h]
      rcases gIdx_cases p r (k + 1) with ⟨h1, h2⟩ | ⟨j, x, h1, h2, h3⟩
      · refine .inl ⟨h1, fun x hx => ?_⟩
        rcases List.mem_cons.1 hx with e | e
        · rw [e]; simpa using h
        · exact h2 x e
      · exact .inr ⟨j + 1, x, by rw [h1]; push_cast; omega, by simpa using h2, h3⟩
def hasC (p : Int) (x : Cl) : Bool := decide (0 ≤ fIdx (hasP p) x.L 0)
def hasC0 (p : Int) (x : Cl) : Bool := decide (0 ≤ fIdx (hasP0 p) x.L 0)
/-- where the parcel is -/
structure AtB (l : List Cl) (p : Int) (k : Nat) (x : Cl) (j : Nat) (y : Bx) : Prop where
  ok : BankP l
  col : gIdx (hasC0 p) l 0 = (k : Int)
  at_ : l[k]? = some x
  box : fIdx (hasP0 p) x.L 0 = (j : Int)
  in_ : x.L[j]? = some y
def bofR (l : List Cl) (p a b : Int) : Prop :=
  (∃ k x j y, AtB l p k x j y ∧ a = (k : Int) ∧ b = y.low) ∨ ((∀ k x j y, ¬ AtB l p k x j y) ∧ a = -1 ∧ b = -1)
/-- the answer is two numbers -/
def TwoI (R : Int → Int → Prop) (w : World) (e : Ending) (w' : World) : Prop := ∃ a b : Int, e = .returned (.tuple #[.int .i64 a, .int .i64 b]) ∧ R a b ∧ Below w.heap.size w w'

set_option maxRecDepth 100000 in
theorem colT_any (w : World) (B g : Nat) (x : Cl) (p : Int) (hg : g < w.heap.size) (hp : w.cell? ⟨g, 0, none⟩ = some (.int .i64 p)) (hB : B ≤ w.heap.size) (hV : CV w B x) :
    Calls Tryz.prog 125 #[.agg #[.int .i64 x.z, .slice x.AF x.F.length x.cF, .slice x.AB x.L.length x.cB], .pointer (some ⟨g, 0, none⟩)] w fun e w' => e = .returned (.bool (hasC p x)) ∧ Below w.heap.size w w' := by
  have hq : hasC p x = decide (0 ≤ fIdx (hasP p) x.L 0) := rfl
  rw [hq]
  clear hq
  have HV := Lib.hid hV; clear hV
  go_enter Tryz.func125, Tryz.ntmps125
  go_wp2_with fail
  generalize hW1 : w.alloc (.cells #[.int .i64 x.z, .slice x.AF x.F.length x.cF, .slice x.AB x.L.length x.cB] 123) = w1
  have bx : Below w.heap.size w w1 := by rw [← hW1]; exact balloc _ _
  clear hW1
  have hz1 := bx.size
  refine (boxI_any w1 B x.AF x.AB x.cF x.cB x.z p x.F.length x.L HV.out.lb (by omega) (HV.out.later hB bx).b).mono ?_
  rintro e w2 ⟨rfl, hb2⟩
  go_wp2_with fail
  go_ret
  exact ⟨rfl, bthen bx hb2⟩

set_option maxRecDepth 100000 in
set_option maxHeartbeats 2000000 in
theorem colJ_any (w : World) (B g : Nat) (A : Option Addr) (c : Nat) (p : Int) (l : List Cl) (hl : l.length ≤ maxLen) (hB : B ≤ w.heap.size) (hS : KL w B A l) (hV : ∀ x ∈ l, CV w B x) (hg : g < w.heap.size) (hp : w.cell? ⟨g, 0, none⟩ = some (.int .i64 p)) :
    Calls Tryz.prog 124 #[.slice A l.length c, .func (.func 125) #[] #[.pointer (some ⟨g, 0, none⟩)]] w fun e w' => e = .returned (.int .i64 (gIdx (hasC p) l 0)) ∧ Below w.heap.size w w' := by
  unfold maxLen at hl
  have HS := Lib.hid hS; have HV := Lib.hid hV; clear hS hV
  go_enter Tryz.func124, Tryz.ntmps124
  go_wp2
  go_loopw [8] (fun i wr => ∃ k : Nat, k ≤ l.length ∧ i = .int .i64 k ∧ gIdx (hasC p) l 0 = gIdx (hasC p) (l.drop k) k ∧ Below w.heap.size w wr) (fun i _ => l.length - (intOf i).toNat)
  case atStart => exact ⟨0, Nat.zero_le _, rfl, by simp, Below.refl _ _⟩
  case round =>
    obtain ⟨k, hk, rfl, hno, hb⟩ := hrel
    have HN := Lib.hid hno; clear hno
    have hpr := (bold hb g 0 hg).trans hp
    have HPR := Lib.hid hpr; clear hpr
    have hsz := hb.size
    by_cases hlt : k < l.length
    · obtain ⟨b, off, x, rfl, hbB, hx, hc0, hc1, hc2⟩ := (HS.out.later hB hb).at_ hlt
      have hv := (HV.out x (List.mem_of_getElem? hx)).later hB hb
      have hst := gIdx_drop (hasC p) l k x hx
      have HVX := Lib.hid hv; have HST := Lib.hid hst; clear hx hv hst
      go_wp2_with fail
      refine (colT_any wr B g x p (by omega) HPR.out (by omega) HVX.out).mono ?_
      rintro e w2 ⟨rfl, hb2⟩
      have hst := HST.out
      generalize hasC p x = q at *
      cases q
      · rw [if_neg (by simp)] at hst
        have HST2 := Lib.hid hst; clear hst HST
        go_wp2
        go_roundw
        case rel => exact ⟨k + 1, by omega, by go_num, by rw [HN.out, HST2.out], bthen hb hb2⟩
        case measure => simp [intOf]; omega
      · rw [if_pos rfl] at hst
        have HST2 := Lib.hid hst; clear hst HST
        go_wp2
        go_ret
        exact ⟨ret_int (by rw [HN.out, HST2.out]), bthen hb hb2⟩
    · go_wp2
      go_ret
      have hkl : k = l.length := by omega
      subst hkl
      exact ⟨ret_int (by rw [HN.out, List.drop_length]; rfl), hb⟩

set_option maxRecDepth 100000 in
theorem colW_any (w : World) (B : Nat) (A : Option Addr) (n c : Nat) (p : Int) (l : List Cl) (hn : n = l.length) (hl : l.length ≤ maxLen) (hB : B ≤ w.heap.size) (hS : KL w B A l) (hV : ∀ x ∈ l, CV w B x) :
    Calls Tryz.prog 91 #[.slice A n c, .int .i64 p] w fun e w' => e = .returned (.int .i64 (gIdx (hasC p) l 0)) ∧ Below w.heap.size w w' := by
  subst hn
  have HS := Lib.hid hS; have HV := Lib.hid hV; clear hS hV
  go_enter Tryz.func91, Tryz.ntmps91
  go_wp2_with fail
  generalize hW0 : w.alloc (.cells #[.int .i64 p] 3) = w0
  have b0 : Below w.heap.size w w0 := by rw [← hW0]; exact balloc _ _
  have k1 : Has w0 w.heap.size 3 #[.int .i64 p] := by rw [← hW0]; exact has_new _ _ _
  clear hW0
  refine (colJ_any w0 B w.heap.size A c p l hl (by have := b0.size; omega) (HS.out.later hB b0) (fun x hx => (HV.out x hx).later hB b0) (has_lt k1) (has_cell k1 0 rfl)).mono ?_
  rintro e w1 ⟨rfl, hb1⟩
  go_wp2_with fail
  go_ret
  exact ⟨rfl, bthen b0 hb1⟩

end Go.Proofs.YtjpkpfmpjgeeiaaGreat
