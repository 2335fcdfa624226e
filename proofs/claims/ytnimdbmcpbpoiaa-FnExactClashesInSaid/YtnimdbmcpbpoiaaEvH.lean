/- Chapter 8: ClashesIn, both sides (gen_evh.py). -/
import Derived.Test.YtnimdbmcpbpoiaaEvV
import Derived.Test.YtnimdbmcpbpoiaaEvF
namespace Go.Proofs.Ytnimdbmcpbpoiaa
open Go.RowKit
set_option linter.unusedVariables false
def sumC (l : List Ev) (k : Nat) : Int := (((parcE l).take k).map fun p => (fateE l p).cls).sum
def clashE (l : List Ev) : Int := sumC l (parcE l).length
theorem sumC_succ {l : List Ev} {k : Nat} {p : Int} (h : (parcE l)[k]? = some p) : sumC l (k + 1) = sumC l k + (fateE l p).cls := by
  unfold sumC; rw [List.take_add_one, h]; simp
theorem fate_cls (l : List Ev) (p : Int) : 0 ≤ (fateE l p).cls ∧ (fateE l p).cls ≤ 60 := by
  unfold fateE
  split
  · rename_i h
    have h1 := (fateN_in l p l.length).2
    have h2 := jrn_len h
    omega
  · simp [zeroF]
theorem sumC_in (l : List Ev) : ∀ k, 0 ≤ sumC l k ∧ sumC l k ≤ 60 * k
  | 0 => by simp [sumC]
  | k + 1 => by
    have ih := sumC_in l k
    cases h : (parcE l)[k]? with
    | none =>
      have : sumC l (k + 1) = sumC l k := by unfold sumC; rw [List.take_add_one, h]; simp
      omega
    | some p => have := sumC_succ h; have := fate_cls l p; omega
set_option maxRecDepth 100000 in
set_option maxHeartbeats 4000000 in
theorem clashS_any (w : World) (B : Nat) (A : Option Addr) (c : Nat) (l : List Ev) (hl : l.length ≤ 1048576) (hB : B ≤ w.heap.size) (hS : evL w B A l) : Calls Try.prog 21 #[.slice A l.length c] w fun e w' => e = .returned (.int .i64 (clashE l)) ∧ Below w.heap.size w w' := by
  have HS := Lib.hid hS; clear hS
  have hpl := parcE_len l
  go_enter Try.func21, Try.ntmps21
  go_wp2_with fail
  refine (parcS_any w B A c l hl hB HS.out).mono ?_
  rintro e w1 ⟨A6, c6, rfl, hor, hb1⟩
  have HOR := Lib.hid hor; have HB1 := Lib.hid hb1; clear hor hb1
  go_wp2_with fail
  go_loopw [3, 5] (fun n i wr => ∃ k : Nat, k ≤ (parcE l).length ∧ n = .int .i64 (sumC l k) ∧ i = .int .i64 k ∧ OR wr w.heap.size 3 A6 (intV (parcE l)) ∧ Below w.heap.size w wr) (fun _ i _ => (parcE l).length - (intOf i).toNat)
  case atStart => exact ⟨0, Nat.zero_le _, rfl, rfl, HOR.out, HB1.out⟩
  case round =>
    clear HOR HB1
    obtain ⟨k, hk, rfl, rfl, hor, hb⟩ := hrel
    have hsz := hb.size
    have HOR := Lib.hid hor; have HB := Lib.hid hb; clear hor hb
    by_cases hlt : k < (parcE l).length
    · obtain ⟨b6, off6, p, rfl, hb6, hp, hd⟩ := (HOR.out.il).at_ hlt
      have hsu := sumC_succ hp
      have hfc := fate_cls l p
      have hsi := sumC_in l k
      have HP := Lib.hid hp; clear hp
      obtain ⟨⟨f0, f1, f2, f3, f4, f5, f6⟩, hF⟩ : ∃ f, fateE l p = f := ⟨_, rfl⟩
      rw [hF] at hsu hfc
      dsimp only at hsu hfc
      obtain ⟨s, hs⟩ : ∃ s, sumC l k = s := ⟨_, rfl⟩
      rw [hs] at hsu hsi ⊢
      have hw : IntKind.i64.wrap (s + f6) = s + f6 := IntWalk.i64_in _ (by omega)
      have HF := Lib.hid hF; have HSU := Lib.hid hsu; clear hF hsu hs hfc hsi
      have hfa : Hid (∀ W : World, w.heap.size ≤ W.heap.size → evL W B A l → Calls Try.prog 16 #[.slice A l.length c, .int .i64 p] W fun e w' => e = .returned (.agg #[.int .i64 f0, .int .i64 f1, .int .i64 f2, .int .i64 f3, .int .i64 f4, .int .i64 f5, .int .i64 f6]) ∧ Below W.heap.size W w') := Lib.hid (fun W hW hL => by
        have h := fateS_any W B A c l p hl (by omega) hL
        rw [HF.out] at h; exact h)
      have kk0 : (k : Int) < (parcE l).length := by omega
      go_wp2_with (go_at_call 16; refine (hfa.out wr hsz (HS.out.below (HB.out.mono hB))).mono ?_; rintro e w2 ⟨rfl, hb2⟩; have HOR2 := Lib.hid (HOR.out.below hb2); have HB2 := Lib.hid (HB.out.trans (hb2.mono hsz)); clear hb2)
      rename_i K hK
      refine hK _ _ ?_
      change wpList _ _ _ _ (Act.put _ (some 21) (.int .i64 f6)) _
      clear hK K
      go_wp2_with fail
      go_roundw
      case rel => exact ⟨k + 1, by omega, by rw [HSU.out], by go_num, HOR2.out, HB2.out⟩
      case measure => simp [intOf]; omega
    · have hkl : k = (parcE l).length := by omega
      have HKL := Lib.hid hkl; clear hkl
      go_wp2
      go_ret
      exact ⟨rint (by unfold clashE; rw [← HKL.out]), HB.out⟩
set_option maxRecDepth 100000 in
set_option maxHeartbeats 4000000 in
theorem clashI_any (w : World) (B : Nat) (A : Option Addr) (c : Nat) (l : List Ev) (hl : l.length ≤ 1048576) (hB : B ≤ w.heap.size) (hS : evL w B A l) : Calls Try.prog 22 #[.slice A l.length c] w fun e w' => e = .returned (.int .i64 (clashE l)) ∧ Below w.heap.size w w' := by
  have HS := Lib.hid hS; clear hS
  have hpl := parcE_len l
  go_enter Try.func22, Try.ntmps22
  go_wp2_with fail
  refine (parcI_any w B A c l hl hB HS.out).mono ?_
  rintro e w1 ⟨A6, c6, rfl, hor, hb1⟩
  have HOR := Lib.hid hor; have HB1 := Lib.hid hb1; clear hor hb1
  go_wp2_with fail
  go_loopw [3, 9] (fun n i wr => ∃ k : Nat, k ≤ (parcE l).length ∧ n = .int .i64 (sumC l k) ∧ i = .int .i64 k ∧ OR wr w.heap.size 3 A6 (intV (parcE l)) ∧ Below w.heap.size w wr) (fun _ i _ => (parcE l).length - (intOf i).toNat)
  case atStart => exact ⟨0, Nat.zero_le _, rfl, rfl, HOR.out, HB1.out⟩
  case round =>
    clear HOR HB1
    obtain ⟨k, hk, rfl, rfl, hor, hb⟩ := hrel
    have hsz := hb.size
    have HOR := Lib.hid hor; have HB := Lib.hid hb; clear hor hb
    by_cases hlt : k < (parcE l).length
    · obtain ⟨b6, off6, p, rfl, hb6, hp, hd⟩ := (HOR.out.il).at_ hlt
      have hsu := sumC_succ hp
      have hfc := fate_cls l p
      have hsi := sumC_in l k
      have HP := Lib.hid hp; clear hp
      obtain ⟨⟨f0, f1, f2, f3, f4, f5, f6⟩, hF⟩ : ∃ f, fateE l p = f := ⟨_, rfl⟩
      rw [hF] at hsu hfc
      dsimp only at hsu hfc
      obtain ⟨s, hs⟩ : ∃ s, sumC l k = s := ⟨_, rfl⟩
      rw [hs] at hsu hsi ⊢
      have hw : IntKind.i64.wrap (s + f6) = s + f6 := IntWalk.i64_in _ (by omega)
      have HF := Lib.hid hF; have HSU := Lib.hid hsu; clear hF hsu hs hfc hsi
      have hfa : Hid (∀ W : World, w.heap.size ≤ W.heap.size → evL W B A l → Calls Try.prog 17 #[.slice A l.length c, .int .i64 p] W fun e w' => e = .returned (.agg #[.int .i64 f0, .int .i64 f1, .int .i64 f2, .int .i64 f3, .int .i64 f4, .int .i64 f5, .int .i64 f6]) ∧ Below W.heap.size W w') := Lib.hid (fun W hW hL => by
        have h := fateI_any W B A c l p hl (by omega) hL
        rw [HF.out] at h; exact h)
      have kk0 : (k : Int) < (parcE l).length := by omega
      go_wp2_with (go_at_call 17; refine (hfa.out wr hsz (HS.out.below (HB.out.mono hB))).mono ?_; rintro e w2 ⟨rfl, hb2⟩; have HOR2 := Lib.hid (HOR.out.below hb2); have HB2 := Lib.hid (HB.out.trans (hb2.mono hsz)); clear hb2)
      rename_i K hK
      refine hK _ _ ?_
      change wpList _ _ _ _ (Act.put _ (some 17) (.int .i64 f6)) _
      clear hK K
      go_wp2_with fail
      go_roundw
      case rel => exact ⟨k + 1, by omega, by rw [HSU.out], by go_num, HOR2.out, HB2.out⟩
      case measure => simp [intOf]; omega
    · have hkl : k = (parcE l).length := by omega
      have HKL := Lib.hid hkl; clear hkl
      go_wp2
      go_ret
      exact ⟨rint (by unfold clashE; rw [← HKL.out]), HB.out⟩
end Go.Proofs.Ytnimdbmcpbpoiaa
