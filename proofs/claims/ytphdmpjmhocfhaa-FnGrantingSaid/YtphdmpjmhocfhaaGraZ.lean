/- Chapter 5: the walks of HoldersOf and SpareOf, both sides (gen_grz.py). -/
import Derived.Test.YtphdmpjmhocfhaaGraY
namespace Go.Proofs.Ytphdmpjmhocfhaa
open Go.RowKit
set_option linter.unusedVariables false
/-- the holders among the first k persons -/
def holdN (l : List Gr) (owner p t : Int) (k : Nat) : List Int := ((List.range k).map fun i : Nat => (i : Int) + 1).filter fun x => mayB l owner x p t
def holdersL (l : List Gr) (owner p t : Int) : List Int := holdN l owner p t 40
theorem holdN_yes {l : List Gr} {owner p t : Int} {k : Nat} (h : mayB l owner ((k : Int) + 1) p t = true) : holdN l owner p t (k + 1) = holdN l owner p t k ++ [(k : Int) + 1] := by simp [holdN, List.range_succ, h]
theorem holdN_no {l : List Gr} {owner p t : Int} {k : Nat} (h : mayB l owner ((k : Int) + 1) p t = false) : holdN l owner p t (k + 1) = holdN l owner p t k := by simp [holdN, List.range_succ, h]
theorem holdN_len (l : List Gr) (owner p t : Int) (k : Nat) : (holdN l owner p t k).length ≤ k := by
  unfold holdN; exact Nat.le_trans (List.length_filter_le _ _) (by simp)
/-- the answer is a list of numbers -/
def AnsI (R : List Int) (w : World) (e : Ending) (w' : World) : Prop := ∃ A' c', e = .returned (.slice A' R.length c') ∧ OR w' w.heap.size 3 A' (intV R) ∧ Below w.heap.size w w'
theorem rh_mono {l : List Gr} {p t a b who : Int} (hab : a ≤ b) : ∀ (h : Nat) (x : Int), rhB l p t b who h x = true → rhB l p t a who h x = true
  | 0, x, hr => hr
  | h + 1, x, hr => by
    obtain ⟨g, h1, h2, h3, h4, h5⟩ := rh_succ.1 hr
    exact rh_succ.2 ⟨g, h1, h2, by omega, h4, rh_mono hab h _ h5⟩
theorem short_mono {l : List Gr} {p t a b who owner : Int} (hab : a ≤ b) (h : (shortB l p t b who owner).isSome = true) : (shortB l p t a who owner).isSome = true := by
  obtain ⟨k, hk⟩ := Option.isSome_iff_exists.1 h
  have h1 := (find_range _ 7 k).1 hk
  cases hs : shortB l p t a who owner with
  | some _ => rfl
  | none =>
    unfold shortB at hs; rw [List.find?_eq_none] at hs
    exact absurd (rh_mono hab k owner h1.2.1) (hs k (by simpa using h1.1))
def spareG (f : Nat → Bool) : Nat → Int
  | 0 => -1
  | n + 1 => if f n then (n : Int) else spareG f n
theorem spareG_yes {f : Nat → Bool} {n : Nat} (h : f n = true) : spareG f (n + 1) = (n : Int) := by simp [spareG, h]
theorem spareG_no {f : Nat → Bool} {n : Nat} (h : f n = false) : spareG f (n + 1) = spareG f n := by simp [spareG, h]
def shortF (l : List Gr) (owner who p t : Int) (r : Nat) : Bool := (shortB l p t (r : Int) who owner).isSome
def spareV (l : List Gr) (owner who p t : Int) : Int := if mayB l owner who p t then spareG (shortF l owner who p t) 6 else -1
theorem spareG_none {f : Nat → Bool} : ∀ (n : Nat), (∀ r, f r = false) → spareG f n = -1
  | 0, h => rfl
  | n + 1, h => by rw [spareG_no (h n)]; exact spareG_none n h
theorem spareV_good {l : List Gr} {owner who p t : Int} (hg : goodB l owner who p t = true) : spareV l owner who p t = spareG (shortF l owner who p t) 6 := by
  unfold spareV
  cases hm : mayB l owner who p t
  · have h0 : (shortB l p t 0 who owner).isSome = false := by unfold mayB at hm; rw [hg] at hm; simpa using hm
    rw [if_neg (by simp), spareG_none 6 fun r => ?_]
    cases hr : shortF l owner who p t r
    · rfl
    · have := short_mono (a := 0) (by omega) hr
      rw [h0] at this; cases this
  · rw [if_pos rfl]
theorem spareV_bad {l : List Gr} {owner who p t : Int} (hg : goodB l owner who p t = false) : spareV l owner who p t = -1 := by
  unfold spareV mayB; rw [hg]; simp
theorem spareV_no {l : List Gr} {owner who p t : Int} (hm : mayB l owner who p t = false) : spareV l owner who p t = -1 := by unfold spareV; rw [hm]; simp
theorem shortI_pos {o : Option Nat} : decide ((0 : Int) ≤ shortI o) = o.isSome := by
  cases o with
  | none => rfl
  | some h => simp [shortI]

set_option maxRecDepth 100000 in
set_option maxHeartbeats 4000000 in
theorem spareS_any (w : World) (B : Nat) (A : Option Addr) (c : Nat) (l : List Gr) (owner who p t : Int) (hl : l.length ≤ 1048576) (hB : B ≤ w.heap.size) (hS : grL w B A l) :
    Calls Try.prog 11 #[.slice A l.length c, .int .i64 owner, .int .i64 who, .int .i64 p, .int .i64 t] w fun e w' => e = .returned (.int .i64 (spareV l owner who p t)) ∧ Below w.heap.size w w' := by
  have HS := Lib.hid hS; clear hS
  cases hg : goodB l owner who p t
  · have HG := Lib.hid hg; clear hg
    go_enter Try.func11, Try.ntmps11
    go_wp2_with (go_at_call 24; refine (goodS_any w B A c l owner who p t hl hB HS.out).mono ?_; rintro e w1 ⟨rfl, hb1⟩; rw [HG.out])
    go_ret
    exact ⟨rint (spareV_bad HG.out).symm, hb1⟩
  · have hg2 := hg
    simp only [goodB, Bool.and_eq_true] at hg2
    have hop := perB_iff.1 hg2.1.1.1.2
    have hhp := perB_iff.1 hg2.1.1.2
    clear hg2
    have HG := Lib.hid hg; clear hg
    go_enter Try.func11, Try.ntmps11
    go_wp2_with (go_at_call 24; refine (goodS_any w B A c l owner who p t hl hB HS.out).mono ?_; rintro e w1 ⟨rfl, hb1⟩; rw [HG.out])
    have hs1 := hb1.size
    have HB1 := Lib.hid hb1; clear hb1
    go_loopg [11] 6 (fun g i wr => i = .int .i64 ((g : Int) - 1) ∧ g ≤ 6 ∧ spareV l owner who p t = spareG (shortF l owner who p t) g ∧ Below w.heap.size w wr)
    case atStart => exact ⟨rfl, Nat.le_refl _, spareV_good HG.out, HB1.out⟩
    case round =>
      clear HB1 hs1
      obtain ⟨rfl, hg5, hv, hb⟩ := hrel
      have hsz := hb.size
      have HV := Lib.hid hv; have HB := Lib.hid hb; clear hv hb
      rcases gk with _ | n
      · have hn : ¬ (0 : Int) ≤ ((0 : Nat) : Int) - 1 := by omega
        go_wp2
        go_ret
        exact ⟨rint HV.out.symm, HB.out⟩
      · have ez : ((n + 1 : Nat) : Int) - 1 = (n : Int) := by omega
        rw [ez]
        clear ez
        have hg0 : (0 : Int) ≤ (n : Int) := by omega
        cases hf : shortF l owner who p t n
        · have hneg : ¬ (0 : Int) ≤ shortI (shortB l p t (n : Int) who owner) := by
            have h1 := shortI_pos (o := shortB l p t (n : Int) who owner)
            rw [show (shortB l p t (n : Int) who owner).isSome = false from hf] at h1
            simpa using h1
          have HV2 := Lib.hid (show spareV l owner who p t = spareG (shortF l owner who p t) n by rw [HV.out, spareG_no hf]); clear hf
          generalize hq : shortI (shortB l p t (n : Int) who owner) = q at hneg
          have HQ := Lib.hid hq; clear hq
          go_wp2_with (first | (go_at_call 26; refine (reach_any _ B A c l p t _ who hl hhp (by omega) (by omega) (HS.out.below (HB.out.mono hB))).mono ?_; rintro e w2 ⟨b, cap, gs, rfl, hgl, hown, hlev, hb2⟩; have HRD := Lib.hid (reads_of (w' := w2) hgl hown hlev); have HB2 := Lib.hid (HB.out.trans (hb2.mono hsz)); clear hgl hown hlev hb2) | (go_at_call 25; refine (short_any w2 b cap gs l p t _ who owner HRD.out hop).mono ?_; rintro e w3 ⟨rfl, hw⟩; rw [hw, HQ.out]; clear hw))
          go_roundg n
          case measure => omega
          case rel => exact ⟨rfl, by omega, HV2.out, HB2.out⟩
        · have hpos : (0 : Int) ≤ shortI (shortB l p t (n : Int) who owner) := by
            have h1 := shortI_pos (o := shortB l p t (n : Int) who owner)
            rw [show (shortB l p t (n : Int) who owner).isSome = true from hf] at h1
            simpa using h1
          have HV2 := Lib.hid (show spareV l owner who p t = (n : Int) by rw [HV.out, spareG_yes hf]); clear hf
          generalize hq : shortI (shortB l p t (n : Int) who owner) = q at hpos
          have HQ := Lib.hid hq; clear hq
          go_wp2_with (first | (go_at_call 26; refine (reach_any _ B A c l p t _ who hl hhp (by omega) (by omega) (HS.out.below (HB.out.mono hB))).mono ?_; rintro e w2 ⟨b, cap, gs, rfl, hgl, hown, hlev, hb2⟩; have HRD := Lib.hid (reads_of (w' := w2) hgl hown hlev); have HB2 := Lib.hid (HB.out.trans (hb2.mono hsz)); clear hgl hown hlev hb2) | (go_at_call 25; refine (short_any w2 b cap gs l p t _ who owner HRD.out hop).mono ?_; rintro e w3 ⟨rfl, hw⟩; rw [hw, HQ.out]; clear hw))
          go_ret
          exact ⟨rint HV2.out.symm, HB2.out⟩
set_option maxRecDepth 100000 in
set_option maxHeartbeats 4000000 in
theorem spareI_any (w : World) (B : Nat) (A : Option Addr) (c : Nat) (l : List Gr) (owner who p t : Int) (hl : l.length ≤ 1048576) (hB : B ≤ w.heap.size) (hS : grL w B A l) :
    Calls Try.prog 10 #[.slice A l.length c, .int .i64 owner, .int .i64 who, .int .i64 p, .int .i64 t] w fun e w' => e = .returned (.int .i64 (spareV l owner who p t)) ∧ Below w.heap.size w w' := by
  have HS := Lib.hid hS; clear hS
  cases hm : mayB l owner who p t
  · have HM := Lib.hid hm; clear hm
    go_enter Try.func10, Try.ntmps10
    go_wp2_with (go_at_call 12; refine (mayI_any w B A c l owner who p t hl hB HS.out).mono ?_; rintro e w1 ⟨rfl, hb1⟩; rw [HM.out])
    go_ret
    exact ⟨rint (spareV_no HM.out).symm, hb1⟩
  · have hmm := hm
    unfold mayB at hmm
    simp only [Bool.and_eq_true] at hmm
    obtain ⟨hg, hs0⟩ := hmm
    have hg2 := hg
    simp only [goodB, Bool.and_eq_true] at hg2
    have hl30 := grantsB_len hg2.1.1.1.1
    have hop := perB_iff.1 hg2.1.1.1.2
    have hhp := perB_iff.1 hg2.1.1.2
    have HFL := Lib.hid (forceL_len p t l)
    have HV0 := Lib.hid (spareV_good hg)
    have HF0 := Lib.hid (show shortF l owner who p t 0 = true from hs0)
    clear hg2 hg hs0
    have HM := Lib.hid hm; clear hm
    go_enter Try.func10, Try.ntmps10
    go_wp2_with (first | (go_at_call 12; refine (mayI_any w B A c l owner who p t hl hB HS.out).mono ?_; rintro e w1 ⟨rfl, hb1⟩; rw [HM.out]) | (go_at_call 21; refine (force_any w1 B A c l p t hl (by have := hb1.size; omega) (HS.out.later hB hb1)).mono ?_; rintro e w3 ⟨A3, c3, rfl, hrow, hb3⟩; have HROW := Lib.hid hrow; have HB3 := Lib.hid (bthen hb1 hb3); clear hrow hb3))
    have hs3 := HB3.out.size
    clear hb1
    go_loopg [12] 5 (fun g i wr => i = .int .i64 (g : Int) ∧ g ≤ 5 ∧ spareV l owner who p t = spareG (shortF l owner who p t) (g + 1) ∧ Below w3.heap.size w3 wr)
    case atStart => exact ⟨rfl, Nat.le_refl _, HV0.out, Below.refl _ _⟩
    case round =>
      obtain ⟨rfl, hg5, hv, hb⟩ := hrel
      have hsz := hb.size
      have HV := Lib.hid hv; have HB := Lib.hid hb; clear hv hb
      rcases gk with _ | n
      · have hn : ¬ (0 : Int) < ((0 : Nat) : Int) := by omega
        go_wp2
        go_ret
        exact ⟨rint (by rw [HV.out, spareG_yes HF0.out]; rfl), HB3.out.trans (HB.out.mono hs3)⟩
      · have ez : ((n + 1 : Nat) : Int) = (n : Int) + 1 := by omega
        rw [ez]
        have hg0 : (0 : Int) < (n : Int) + 1 := by omega
        have EZ := Lib.hid ez; clear ez
        have hlF : (forceL p t l).length ≤ 30 := by rw [HFL.out]; exact hl30
        cases hf : shortF l owner who p t (n + 1)
        · have HV2 := Lib.hid (show spareV l owner who p t = spareG (shortF l owner who p t) (n + 1) by rw [HV.out, spareG_no hf])
          have HF := Lib.hid hf; clear hf
          go_wp2_with (first | (go_at_call 23; refine (steps_any _ w3.heap.size A3 c3 l (forceL p t l) p t ((n : Int) + 1) who rfl hlF hhp (by omega) (by omega) (HROW.out.gr.later (Nat.le_refl _) HB.out)).mono ?_; rintro e w4 ⟨bm, nm, S, rfl, hM, hst, hbm, hb4⟩; have HST := Lib.hid hst; have hM4 := hM; have HK := Lib.hid (show (S owner).isSome = false by rw [steps_short (by omega) hst, Option.isSome_map]; have h := HF.out; unfold shortF at h; rw [EZ.out] at h; exact h); have HB4 := Lib.hid (HB.out.trans (hb4.mono hsz)); clear hst hM hb4 hbm) | (go_at_call 22; refine (has_any w4 bm nm S owner hM4 (by omega)).mono ?_; rintro e w5 ⟨rfl, hw⟩; rw [hw, HK.out]; clear hw))
          go_roundg n
          case measure => omega
          case rel => exact ⟨by go_num, by omega, HV2.out, HB4.out⟩
        · have HV2 := Lib.hid (show spareV l owner who p t = ((n + 1 : Nat) : Int) by rw [HV.out, spareG_yes hf])
          have HF := Lib.hid hf; clear hf
          go_wp2_with (first | (go_at_call 23; refine (steps_any _ w3.heap.size A3 c3 l (forceL p t l) p t ((n : Int) + 1) who rfl hlF hhp (by omega) (by omega) (HROW.out.gr.later (Nat.le_refl _) HB.out)).mono ?_; rintro e w4 ⟨bm, nm, S, rfl, hM, hst, hbm, hb4⟩; have HST := Lib.hid hst; have hM4 := hM; have HK := Lib.hid (show (S owner).isSome = true by rw [steps_short (by omega) hst, Option.isSome_map]; have h := HF.out; unfold shortF at h; rw [EZ.out] at h; exact h); have HB4 := Lib.hid (HB.out.trans (hb4.mono hsz)); clear hst hM hb4 hbm) | (go_at_call 22; refine (has_any w4 bm nm S owner hM4 (by omega)).mono ?_; rintro e w5 ⟨rfl, hw⟩; rw [hw, HK.out]; clear hw))
          go_ret
          exact ⟨rint (by rw [HV2.out, EZ.out]), HB3.out.trans (HB4.out.mono hs3)⟩
end Go.Proofs.Ytphdmpjmhocfhaa
