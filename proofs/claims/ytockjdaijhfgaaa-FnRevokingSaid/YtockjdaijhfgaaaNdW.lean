/- Chapter 5: the walks of NeededFor, both sides (gen_nd.py). -/
import Derived.Test.YtockjdaijhfgaaaNdP
namespace Go.Proofs.Ytockjdaijhfgaaa
open Go.RowKit
set_option linter.unusedVariables false
theorem need_len (l : List Gr) (owner who p t : Int) : (needL l owner who p t).length ≤ l.length := by
  unfold needL; split
  · exact needN_len l owner who p t l.length
  · exact Nat.zero_le _
def AnsI (R : List Int) (w : World) (e : Ending) (w' : World) : Prop := ∃ A' c', e = .returned (.slice A' R.length c') ∧ OR w' w.heap.size 3 A' (intV R) ∧ Below w.heap.size w w'
def filN (l : List Gr) (owner who p t : Int) (C : List Int) (k : Nat) : List Int := (C.take k).filter fun i => !mayB (revG l i).1 owner who p t
theorem filN_yes {l : List Gr} {owner who p t : Int} {C : List Int} {k : Nat} {i : Int} (hi : C[k]? = some i) (h : mayB (revG l i).1 owner who p t = false) : filN l owner who p t C (k + 1) = filN l owner who p t C k ++ [i] := by
  unfold filN; rw [List.take_add_one, hi]; simp [h]
theorem filN_no {l : List Gr} {owner who p t : Int} {C : List Int} {k : Nat} {i : Int} (hi : C[k]? = some i) (h : mayB (revG l i).1 owner who p t = true) : filN l owner who p t C (k + 1) = filN l owner who p t C k := by
  unfold filN; rw [List.take_add_one, hi]; simp [h]
theorem filN_len (l : List Gr) (owner who p t : Int) (C : List Int) (k : Nat) : (filN l owner who p t C k).length ≤ k := by
  unfold filN; exact Nat.le_trans (List.length_filter_le _ _) (List.length_take_le _ _)
set_option maxRecDepth 100000 in
set_option maxHeartbeats 1500000 in
theorem needS_any (w : World) (B : Nat) (A : Option Addr) (c : Nat) (l : List Gr) (owner who p t : Int) (hl : l.length ≤ 1048576) (hB : B ≤ w.heap.size) (hS : grL w B A l) :
    Calls Try.prog 25 #[.slice A l.length c, .int .i64 owner, .int .i64 who, .int .i64 p, .int .i64 t] w (AnsI (needL l owner who p t) w) := by
  have HS := Lib.hid hS; clear hS
  obtain ⟨i0, hi0, hz0, hz1, hz2⟩ := info_parts intInfo
  have I0 := Lib.hid hi0; have Z0 := Lib.hid hz0; have Z1 := Lib.hid hz1; have Z2 := Lib.hid hz2; clear hi0 hz0 hz1 hz2
  cases hm : mayB l owner who p t
  · have HM := Lib.hid hm; clear hm
    go_enter Try.func25, Try.ntmps25
    go_wp2_with (go_at_call 54; refine (mayS_any _ B A c l owner who p t hl (by simp; omega) (HS.out.later hB (balloc _ _))).mono ?_; rintro e w1 ⟨rfl, hb1⟩; rw [HM.out])
    go_ret
    exact ⟨_, _, retv (by unfold needL; rw [HM.out]; rfl), .inl (by unfold needL; rw [HM.out]; rfl), bthen (balloc _ _) hb1⟩
  · have HM := Lib.hid hm; clear hm
    go_enter Try.func25, Try.ntmps25
    go_wp2_with (go_at_call 54; refine (mayS_any _ B A c l owner who p t hl (by simp; omega) (HS.out.later hB (balloc _ _))).mono ?_; rintro e w1 ⟨rfl, hb1⟩; rw [HM.out])
    have HB1 := Lib.hid (bthen (balloc w (.cells #[] 3)) hb1)
    have HO1 := Lib.hid (own_kept (owns_new w w.heap.size 3 1 (Nat.le_refl _)) hb1); clear hb1
    have hlm : l.length ≤ maxLen := by unfold maxLen; omega
    unfold maxLen at hlm
    go_loopw [11, 12] (fun v i wr => ∃ k : Nat, k ≤ l.length ∧ i = .int .i64 k ∧ wr.ownsRow w.heap.size 3 1 v (needN l owner who p t k).length (intV (needN l owner who p t k)) ∧ Below w.heap.size w wr) (fun _ i _ => l.length - (intOf i).toNat)
    case atStart => exact ⟨0, Nat.zero_le _, rfl, HO1.out, HB1.out⟩
    case round =>
      clear HO1 HB1
      obtain ⟨k, hk, rfl, hown, hb⟩ := hrel
      have hsz := hb.size
      have HO := Lib.hid hown; have HB := Lib.hid hb; clear hown hb
      by_cases hlt : k < l.length
      · obtain ⟨RR, V, hV⟩ : ∃ RR V, revG l (k : Int) = (RR, V) := ⟨_, _, rfl⟩
        have hRl : RR.length ≤ 1048576 := by have := revG_len l (k : Int); rw [hV] at this; dsimp only at this; omega
        have HV := Lib.hid hV; clear hV
        cases V
        · have HN := Lib.hid (show isNeed l owner who p t (k : Int) = false by unfold isNeed; rw [HV.out]; rfl)
          go_wp2_with (go_at_call 28; refine (revS_any _ B A c l (k : Int) hl (by omega) (HS.out.below (HB.out.mono hB))).mono ?_; rintro e w2 hans; rw [HV.out] at hans; obtain ⟨A2, n2, rfl, hP, hb2⟩ := hans; clear hP)
          go_roundw
          case rel => exact ⟨k + 1, by omega, by go_num, by rw [needN_no HN.out]; exact own_kept HO.out hb2, HB.out.trans (hb2.mono hsz)⟩
          case measure => simp [intOf]; omega
        · cases hq : mayB RR owner who p t
          · have HN := Lib.hid (show isNeed l owner who p t (k : Int) = true by unfold isNeed; rw [HV.out]; simp [hq])
            have HQ := Lib.hid hq; clear hq
            have hlen := needN_len l owner who p t k
            go_wp2_with (first | (go_at_call 28; refine (revS_any _ B A c l (k : Int) hl (by omega) (HS.out.below (HB.out.mono hB))).mono ?_; rintro e w2 hans; rw [HV.out] at hans; obtain ⟨A2, n2, rfl, hP, hb2⟩ := hans; have HP := Lib.hid hP.gr; have HO2 := Lib.hid (own_kept HO.out hb2); have HB2 := Lib.hid (HB.out.trans (hb2.mono hsz)); have hs2 := HB2.out.size; clear hP hb2 HO HB) | (go_at_call 54; refine (mayS_any w2 w2.heap.size A2 n2 RR owner who p t (by omega) (Nat.le_refl _) HP.out).mono ?_; rintro e w3 ⟨rfl, hb3⟩; rw [HQ.out]; have HO3 := Lib.hid (own_kept HO2.out hb3); have HBX := Lib.hid (HB2.out.trans (hb3.mono hs2)); have hsx := HBX.out.size; clear hb3 HO2 HB2) | (at_builtin; go_must (refine list_app rfl _ _ 27 rfl w.heap.size 3 i0 (.int .i64 0) 1 8 Try.underlying27 I0.out Z0.out Z1.out Z2.out rfl (by decide) _ _ _ rfl (HO3.out.alloc _) _ 1 1 (#[.int .i64 (k : Int)] : Array Value).toList rfl (src_box _ _ #[.int .i64 (k : Int)] 1 rfl (by simp [Value.oneCell'])) (by unfold maxLen; omega) (by omega) (by simp; omega) ?_); intro A8 c8 w8 hown8 hgrow8 _; have hb8 : Below w.heap.size w w8 := (HBX.out.alloc hsx _).grown hgrow8 (by simp; omega) (fun k hk => ((HO3.out.lt k hk).1)); have HO8 := Lib.hid hown8; have HB8 := Lib.hid hb8; clear hown8 hgrow8 hb8 HBX HO3))
            go_roundw
            case rel => exact ⟨k + 1, by omega, by go_num, by rw [needN_yes HN.out]; simpa [intV] using HO8.out, HB8.out⟩
            case measure => simp [intOf]; omega
          · have HN := Lib.hid (show isNeed l owner who p t (k : Int) = false by unfold isNeed; rw [HV.out]; simp [hq])
            have HQ := Lib.hid hq; clear hq
            go_wp2_with (first | (go_at_call 28; refine (revS_any _ B A c l (k : Int) hl (by omega) (HS.out.below (HB.out.mono hB))).mono ?_; rintro e w2 hans; rw [HV.out] at hans; obtain ⟨A2, n2, rfl, hP, hb2⟩ := hans; have HP := Lib.hid hP.gr; have HO2 := Lib.hid (own_kept HO.out hb2); have HB2 := Lib.hid (HB.out.trans (hb2.mono hsz)); have hs2 := HB2.out.size; clear hP hb2 HO HB) | (go_at_call 54; refine (mayS_any w2 w2.heap.size A2 n2 RR owner who p t (by omega) (Nat.le_refl _) HP.out).mono ?_; rintro e w3 ⟨rfl, hb3⟩; rw [HQ.out]))
            go_roundw
            case rel => exact ⟨k + 1, by omega, by go_num, by rw [needN_no HN.out]; exact own_kept HO2.out hb3, HB2.out.trans (hb3.mono hs2)⟩
            case measure => simp [intOf]; omega
      · have hkl : k = l.length := by omega
        subst hkl
        obtain ⟨A2, c2, rfl, hor⟩ := or_own HO.out
        have HOR := Lib.hid hor; clear hor HO
        go_wp2
        go_ret
        exact ⟨A2, c2, retv (by unfold needL; rw [HM.out]; rfl), by unfold needL; rw [HM.out]; exact HOR.out, HB.out⟩
set_option maxRecDepth 100000 in
set_option maxHeartbeats 1500000 in
theorem needI_any (w : World) (B : Nat) (A : Option Addr) (c : Nat) (l : List Gr) (owner who p t : Int) (hl : l.length ≤ 1048576) (hB : B ≤ w.heap.size) (hS : grL w B A l) :
    Calls Try.prog 24 #[.slice A l.length c, .int .i64 owner, .int .i64 who, .int .i64 p, .int .i64 t] w (AnsI (needL l owner who p t) w) := by
  have HS := Lib.hid hS; clear hS
  obtain ⟨i0, hi0, hz0, hz1, hz2⟩ := info_parts intInfo
  have I0 := Lib.hid hi0; have Z0 := Lib.hid hz0; have Z1 := Lib.hid hz1; have Z2 := Lib.hid hz2; clear hi0 hz0 hz1 hz2
  obtain ⟨C, V, hV⟩ : ∃ C V, ((chainA l owner who p t).getD [], (chainA l owner who p t).isSome) = (C, V) := ⟨_, _, rfl⟩
  have hC6 : C.length ≤ 6 := by have := chain_len l owner who p t; rw [hV] at this; exact this
  have HV := Lib.hid hV
  have HC := Lib.hid (show (chainA l owner who p t).getD [] = C by injection hV); clear hV
  go_enter Try.func24, Try.ntmps24
  go_wp2_with (go_at_call 9; refine (chainI2_any w B A c l owner who p t hl hB HS.out).mono ?_; rintro e w1 hans; rw [HV.out] at hans; obtain ⟨A1, n1, rfl, hP, hb1⟩ := hans; have HP := Lib.hid hP; have HB1 := Lib.hid hb1; have hs1 := hb1.size; clear hP hb1)
  go_loopw [13, 30] (fun v i wr => ∃ k : Nat, k ≤ C.length ∧ i = .int .i64 k ∧ wr.ownsRow w1.heap.size 3 1 v (filN l owner who p t C k).length (intV (filN l owner who p t C k)) ∧ Below w1.heap.size w1 wr) (fun _ i _ => C.length - (intOf i).toNat)
  case atStart => exact ⟨0, Nat.zero_le _, rfl, owns_new w1 _ _ _ (Nat.le_refl _), balloc _ _⟩
  case round =>
    obtain ⟨k, hk, rfl, hown, hb⟩ := hrel
    have hsz := hb.size
    have HO := Lib.hid hown; have HB := Lib.hid hb; clear hown hb
    by_cases hlt : k < C.length
    · obtain ⟨b7, o7, y, rfl, hb7, hy, hc0⟩ := (HP.out.il.later (Nat.le_refl _) HB.out).at_ hlt
      have HY := Lib.hid hy; clear hy
      obtain ⟨RR, W, hW⟩ : ∃ RR W, revG l y = (RR, W) := ⟨_, _, rfl⟩
      have hRl : RR.length ≤ 1048576 := by have := revG_len l y; rw [hW] at this; dsimp only at this; omega
      have HW := Lib.hid hW; clear hW
      cases hq : mayB RR owner who p t
      · have HN := Lib.hid (show mayB (revG l y).1 owner who p t = false by rw [HW.out]; exact hq)
        have HQ := Lib.hid hq; clear hq
        have hlen := filN_len l owner who p t C k
        go_wp2_with (first | (go_at_call 27; refine (revI_any _ B A c l y hl (by omega) (HS.out.below ((HB1.out.trans (HB.out.mono hs1)).mono hB))).mono ?_; rintro e w2 hans; rw [HW.out] at hans; obtain ⟨A2, n2, rfl, hP2, hb2⟩ := hans; have HP2 := Lib.hid hP2.gr; have HO2 := Lib.hid (own_kept HO.out hb2); have HB2 := Lib.hid (HB.out.trans (hb2.mono hsz)); have hs2 := HB2.out.size; clear hP2 hb2 HO HB) | (go_at_call 12; refine (mayI_any w2 w2.heap.size A2 n2 RR owner who p t (by omega) (Nat.le_refl _) HP2.out).mono ?_; rintro e w3 ⟨rfl, hb3⟩; rw [HQ.out]; have HO3 := Lib.hid (own_kept HO2.out hb3); have HBX := Lib.hid (HB2.out.trans (hb3.mono hs2)); have hsx := HBX.out.size; clear hb3 HO2 HB2) | (at_builtin; go_must (refine list_app rfl _ _ 27 rfl w1.heap.size 3 i0 (.int .i64 0) 1 8 Try.underlying27 I0.out Z0.out Z1.out Z2.out rfl (by decide) _ _ _ rfl (HO3.out.alloc _) _ 1 1 (#[.int .i64 y] : Array Value).toList rfl (src_box _ _ #[.int .i64 y] 1 rfl (by simp [Value.oneCell'])) (by unfold maxLen; omega) (by omega) (by simp; omega) ?_); intro A8 c8 w8 hown8 hgrow8 _; have hb8 : Below w1.heap.size w1 w8 := (HBX.out.alloc hsx _).grown hgrow8 (by simp; omega) (fun k hk => ((HO3.out.lt k hk).1)); have HO8 := Lib.hid hown8; have HB8 := Lib.hid hb8; clear hown8 hgrow8 hb8 HBX HO3))
        go_roundw
        case rel => exact ⟨k + 1, by omega, by go_num, by rw [filN_yes HY.out HN.out]; simpa [intV] using HO8.out, HB8.out⟩
        case measure => simp [intOf]; omega
      · have HN := Lib.hid (show mayB (revG l y).1 owner who p t = true by rw [HW.out]; exact hq)
        have HQ := Lib.hid hq; clear hq
        go_wp2_with (first | (go_at_call 27; refine (revI_any _ B A c l y hl (by omega) (HS.out.below ((HB1.out.trans (HB.out.mono hs1)).mono hB))).mono ?_; rintro e w2 hans; rw [HW.out] at hans; obtain ⟨A2, n2, rfl, hP2, hb2⟩ := hans; have HP2 := Lib.hid hP2.gr; have HO2 := Lib.hid (own_kept HO.out hb2); have HB2 := Lib.hid (HB.out.trans (hb2.mono hsz)); have hs2 := HB2.out.size; clear hP2 hb2 HO HB) | (go_at_call 12; refine (mayI_any w2 w2.heap.size A2 n2 RR owner who p t (by omega) (Nat.le_refl _) HP2.out).mono ?_; rintro e w3 ⟨rfl, hb3⟩; rw [HQ.out]))
        go_roundw
        case rel => exact ⟨k + 1, by omega, by go_num, by rw [filN_no HY.out HN.out]; exact own_kept HO2.out hb3, HB2.out.trans (hb3.mono hs2)⟩
        case measure => simp [intOf]; omega
    · have hkl : k = C.length := by omega
      subst hkl
      have hlen := filN_len l owner who p t C C.length
      have HF := Lib.hid (show sortL (filN l owner who p t C C.length) = needL l owner who p t by unfold filN; rw [List.take_length, ← HC.out]; exact need_chain)
      obtain ⟨A2, c2, rfl, _⟩ := or_own HO.out
      go_wp2_with (go_at_call 53; refine (sort_any wr w1.heap.size A2 c2 (filN l owner who p t C C.length) HO.out (by omega) hsz).mono ?_; rintro e w5 ⟨rfl, hor, hb5⟩; rw [HF.out] at hor; have HOR := Lib.hid hor; have HB5 := Lib.hid (HB.out.trans hb5); clear hor hb5)
      go_ret
      exact ⟨A2, c2, retv (by rw [← HF.out, sortL_len]; rfl), HOR.out.more hs1, HB1.out.trans (HB5.out.mono hs1)⟩
end Go.Proofs.Ytockjdaijhfgaaa
