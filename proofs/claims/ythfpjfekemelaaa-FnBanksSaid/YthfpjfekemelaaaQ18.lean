/- Chapter 2: columns whose walls' row is the call's own, with its capacity (gen_own.py). -/
import Derived.Test.YthfpjfekemelaaaQ16
namespace Go.Proofs.Ythfpjfekemelaaa
open Go.RowKit
set_option linter.unusedVariables false

set_option maxRecDepth 100000 in
set_option maxHeartbeats 4000000 in
theorem newSo_any (w : World) (B : Nat) (A : Option Addr) (c : Nat) (h : Int) (F : List Int) (lf : F.length ≤ 1048576) (hB : B ≤ w.heap.size) (hS : IL w B A F) :
    Calls Try.prog 51 #[.int .i64 h, .slice A F.length c] w (ColAnsBo (newR h F) w) := by
  have hlm : F.length ≤ maxLen := by unfold maxLen; omega
  have HS := Lib.hid hS; clear hS
  obtain ⟨i0, hi0, hz0, hz1, hz2⟩ := info_parts intInfo
  obtain ⟨j0, hj0, hy0, hy1, hy2⟩ := info_parts boxInfo
  go_enter Try.func51, Try.ntmps51
  go_wp2_with (at_builtin; go_must (refine list_app rfl _ _ 43 rfl (w.heap.size + 1) 3 i0 (.int .i64 0) 1 8 Try.underlying43 hi0 hz0 hz1 hz2 rfl (by decide) _ 0 [] rfl (owns_at (w.alloc _) (w.heap.size + 1) 3 1 _ (by simp) (Nat.le_refl _)) A F.length c (intV F) rfl (il_src (B := B) ((HS.out.later hB (balloc _ _)).later (by simp; omega) (balloc _ _))) (by unfold maxLen; omega) (by omega) (by simp) ?_))
  intro A2 c2 w1 hown1 hgrow1 hrow1
  have b0 : Below w.heap.size w ((w.alloc (.cells #[.int .i64 0, .slice none 0 0, .slice none 0 0] 57)).alloc (.cells #[] 3)) := bthen (balloc _ _) (balloc _ _)
  have b1 : Below w.heap.size w w1 := b0.grown hgrow1 (by simp; omega) (fun b e => by have := (hrow1 b e).1; omega)
  have k1 : Has w1 w.heap.size 57 #[.int .i64 0, .slice none 0 0, .slice none 0 0] := has_grown (has_alloc (has_new _ _ _) _) hgrow1 (fun e => by have := (hrow1 _ e.symm).1; omega)
  have o1 : OQ c2 w1 (w.heap.size + 1) 3 A2 (intV F) := by have := oq_of hown1; simpa using this
  have hk1 := has_lt k1
  have K1 := Lib.hid k1; have O1 := Lib.hid o1; clear k1 o1 hown1 hgrow1 hrow1 b0
  go_wp2_with fail
  generalize hX : (w1.alloc (.cells #[.int .i64 h, .slice A2 F.length c2, .slice none 0 0] 57)) = w2
  have b2 : Below w1.heap.size w1 w2 := by rw [← hX]; exact balloc _ _
  have kc2 : Has w2 w1.heap.size 57 #[.int .i64 h, .slice A2 F.length c2, .slice none 0 0] := by rw [← hX]; exact has_new _ _ _
  clear hX
  have hz2' : w1.heap.size < w2.heap.size := has_lt kc2
  have own2 : w2.ownsRow (w1.heap.size + 1) 65 4 (.slice none 0 0) 0 (boxV (nbw F h 0)) := by simpa [nbw, boxV] using World.ownsRow_nil _ _ _ _
  have KC2 := Lib.hid kc2; have HOWN2 := Lib.hid own2; clear kc2 own2
  go_loopw [7, 8] (fun lv i wr => ∃ (k : Nat) (A' : Option Addr) (c' : Nat), k ≤ F.length + 1 ∧ i = .int .i64 k ∧ lv = .int .i64 (pw F h k) ∧ Has wr w1.heap.size 57 #[.int .i64 h, .slice A2 F.length c2, .slice A' k c'] ∧ wr.ownsRow (w1.heap.size + 1) 65 4 (.slice A' k c') k (boxV (nbw F h k)) ∧ PwTo F h k ∧ Below w1.heap.size w1 wr) (fun _ i _ => F.length + 1 - (intOf i).toNat)
  case atStart => exact ⟨0, none, 0, Nat.zero_le _, rfl, rfl, KC2.out, HOWN2.out, fun j hj => absurd hj (by omega), b2⟩
  case round =>
    obtain ⟨k, A', c', hk, rfl, rfl, hkc, hown, hpt, hb⟩ := hrel
    have hsz := hb.size
    have ck : Below w.heap.size w wr := b1.trans (hb.mono (by omega))
    have hl1 : w1.heap.size < wr.heap.size := has_lt hkc
    have e0 := has_cell hkc 0 rfl
    have e1 := has_cell hkc 1 rfl
    have e2 := has_cell hkc 2 rfl
    have KC := Lib.hid hkc; have HOWN := Lib.hid hown; have HPT := Lib.hid hpt; clear hkc hown hpt
    have KR := Lib.hid (has_below K1.out hb hk1)
    have hplo := pw_low HPT.out k (Nat.le_refl _)
    have hphi : pw F h k ≤ 24 := by
      rcases k with _ | m
      · simp [pw]
      · exact (HPT.out m (by omega)).2
    by_cases hlt : k < F.length
    · obtain ⟨b, off, x, rfl, hbB, hx, hc0⟩ := (HS.out.later hB ck).at_ hlt
      have hpx := pw_at (h := h) hx
      have HX := Lib.hid hx; clear hx
      have hp0 : 0 ≤ pw F h k := by omega
      have hsn : boxV (nbw F h (k + 1)) = boxV (nbw F h k) ++ boxC ⟨pw F h k, x - pw F h k, 0, false⟩ := by rw [nbw_succ, boxV_snoc]; simp [nbx, hpx]
      by_cases hbad : x ≤ pw F h k ∨ 24 < x
      · have HNO := Lib.hid (pw_no (F := F) (h := h) (k := k) (by omega) (by rw [hpx]; exact hbad))
        clear hsn hpx hplo
        generalize pw F h k = p at *
        by_cases hb1 : x ≤ p
        · clear hbad
          have y0 := has_cell KR.out 0 rfl
          have y1 := has_cell KR.out 1 rfl
          have y2 := has_cell KR.out 2 rfl
          have f0 := has_free KR.out 0
          have f1 := has_free KR.out 1
          have f2 := has_free KR.out 2
          have X1 := Lib.hid (set3 (u := .int .i64 0) (v := .slice none 0 0) (x := .slice none 0 0) KR.out)
          have FIN := Lib.hid (show Below w.heap.size w (((wr.setCell ⟨w.heap.size, 0, none⟩ (.int .i64 0)).setCell ⟨w.heap.size, 1, none⟩ (.slice none 0 0)).setCell ⟨w.heap.size, 2, none⟩ (.slice none 0 0)) from ((ck.setCell (Nat.le_refl _) _).setCell (Nat.le_refl _) _).setCell (Nat.le_refl _) _)
          go_wp2_with fail
          have g0 := has_cell X1.out 0 rfl
          have g1 := has_cell X1.out 1 rfl
          have g2 := has_cell X1.out 2 rfl
          exact bodyPost_ret (v := .tuple #[.agg #[.int .i64 0, .slice none 0 0, .slice none 0 0], .bool false]) (by simp [results, Try.results51, go_sem, g0, g1, g2]) rfl ⟨0, [], [], false, none, none, 0, 0, rfl, .inr ⟨HNO.out, rfl, rfl, rfl, rfl⟩, by simp, by simp, World.ownsRow_nil _ _ _ _, .inl rfl, FIN.out⟩
        · have hb2 : 24 < x := by omega
          clear hbad
          have y0 := has_cell KR.out 0 rfl
          have y1 := has_cell KR.out 1 rfl
          have y2 := has_cell KR.out 2 rfl
          have f0 := has_free KR.out 0
          have f1 := has_free KR.out 1
          have f2 := has_free KR.out 2
          have X1 := Lib.hid (set3 (u := .int .i64 0) (v := .slice none 0 0) (x := .slice none 0 0) KR.out)
          have FIN := Lib.hid (show Below w.heap.size w (((wr.setCell ⟨w.heap.size, 0, none⟩ (.int .i64 0)).setCell ⟨w.heap.size, 1, none⟩ (.slice none 0 0)).setCell ⟨w.heap.size, 2, none⟩ (.slice none 0 0)) from ((ck.setCell (Nat.le_refl _) _).setCell (Nat.le_refl _) _).setCell (Nat.le_refl _) _)
          go_wp2_with fail
          have g0 := has_cell X1.out 0 rfl
          have g1 := has_cell X1.out 1 rfl
          have g2 := has_cell X1.out 2 rfl
          exact bodyPost_ret (v := .tuple #[.agg #[.int .i64 0, .slice none 0 0, .slice none 0 0], .bool false]) (by simp [results, Try.results51, go_sem, g0, g1, g2]) rfl ⟨0, [], [], false, none, none, 0, 0, rfl, .inr ⟨HNO.out, rfl, rfl, rfl, rfl⟩, by simp, by simp, World.ownsRow_nil _ _ _ _, .inl rfl, FIN.out⟩
      · have hgo1 : pw F h k < x := by omega
        have hgo2 : x ≤ 24 := by omega
        clear hbad
        have HSN := Lib.hid hsn; have HPX := Lib.hid hpx; clear hsn hpx hplo
        generalize hpk : pw F h k = p at *
        have HPK := Lib.hid hpk; clear hpk
        go_wp2_with (at_builtin; go_must (refine list_app rfl _ _ 55 rfl (w1.heap.size + 1) 65 j0 (.agg #[.int .i64 0, .int .i64 0, .int .i64 0, .bool false]) 4 32 Try.underlying55 hj0 hy0 hy1 hy2 rfl (by decide) _ k _ rfl (HOWN.out.alloc _) (some ⟨wr.heap.size, 0, none⟩) 1 1 (boxC ⟨p, x - p, 0, false⟩) rfl (src_box (has_new _ _ _)) (by unfold maxLen; omega) (by omega) (by simp; omega) ?_))
        intro A3 c3 w3 hown3 hgrow3 hrow3
        have kc3 : Has w3 w1.heap.size 57 #[.int .i64 h, .slice A2 F.length c2, .slice A' k c'] := has_grown (has_alloc KC.out _) hgrow3 (fun e => by have := (hrow3 _ e.symm).1; omega)
        have hb3 : Below w1.heap.size w1 w3 := (hb.alloc (by omega) _).grown hgrow3 (by simp; omega) (fun b hb => by have := (hrow3 b hb).1; omega)
        have hz3 : w1.heap.size < w3.heap.size := has_lt kc3
        have own4 : (w3.setCell ⟨w1.heap.size, 2, none⟩ (.slice A3 (k + 1) c3)).ownsRow (w1.heap.size + 1) 65 4 (.slice A3 (k + 1) c3) (k + 1) (boxV (nbw F h (k + 1))) := by
          rw [HSN.out]
          exact hown3.kept (only_set (only_refl w3 w1.heap.size) 2 _) (.inr (fun e => by have := (own_has hown3 _ e).1; omega))
        have kc4 := has_set kc3 2 (.slice A3 (k + 1) c3)
        have e2 := has_cell kc3 2 rfl
        have f2 := has_free kc3 2
        have HOWN4 := Lib.hid own4; have HB4 := Lib.hid (hb3.setCell (p := ⟨w1.heap.size, 2, none⟩) (Nat.le_refl _) (.slice A3 (k + 1) c3)); have KC4 := Lib.hid kc4
        clear hown3 hgrow3 hrow3 hb3 own4 kc3 kc4
        go_wp2
        go_roundw
        case rel => exact ⟨k + 1, A3, c3, by omega, by go_num, by rw [HPX.out], by simpa using KC4.out, HOWN4.out, pwTo_succ HPT.out (by rw [HPX.out, HPK.out]; omega) (by rw [HPX.out]; omega), HB4.out⟩
        case measure => simp [intOf]; omega
    · by_cases hlt2 : k = F.length
      · subst hlt2
        have hpx := pw_top F h
        have hp0 : 0 ≤ pw F h F.length := by omega
        have hsn : boxV (nbw F h (F.length + 1)) = boxV (nbw F h F.length) ++ boxC ⟨pw F h F.length, h - pw F h F.length, 0, false⟩ := by rw [nbw_succ, boxV_snoc]; simp [nbx, hpx]
        by_cases hbad : h ≤ pw F h F.length ∨ 24 < h
        · have HNO := Lib.hid (pw_no (F := F) (h := h) (k := F.length) (by omega) (by rw [hpx]; exact hbad))
          clear hsn hpx hplo
          generalize pw F h F.length = p at *
          by_cases hb1 : h ≤ p
          · clear hbad
            have y0 := has_cell KR.out 0 rfl
            have y1 := has_cell KR.out 1 rfl
            have y2 := has_cell KR.out 2 rfl
            have f0 := has_free KR.out 0
            have f1 := has_free KR.out 1
            have f2 := has_free KR.out 2
            have X1 := Lib.hid (set3 (u := .int .i64 0) (v := .slice none 0 0) (x := .slice none 0 0) KR.out)
            have FIN := Lib.hid (show Below w.heap.size w (((wr.setCell ⟨w.heap.size, 0, none⟩ (.int .i64 0)).setCell ⟨w.heap.size, 1, none⟩ (.slice none 0 0)).setCell ⟨w.heap.size, 2, none⟩ (.slice none 0 0)) from ((ck.setCell (Nat.le_refl _) _).setCell (Nat.le_refl _) _).setCell (Nat.le_refl _) _)
            go_wp2_with fail
            have g0 := has_cell X1.out 0 rfl
            have g1 := has_cell X1.out 1 rfl
            have g2 := has_cell X1.out 2 rfl
            exact bodyPost_ret (v := .tuple #[.agg #[.int .i64 0, .slice none 0 0, .slice none 0 0], .bool false]) (by simp [results, Try.results51, go_sem, g0, g1, g2]) rfl ⟨0, [], [], false, none, none, 0, 0, rfl, .inr ⟨HNO.out, rfl, rfl, rfl, rfl⟩, by simp, by simp, World.ownsRow_nil _ _ _ _, .inl rfl, FIN.out⟩
          · have hb2 : 24 < h := by omega
            clear hbad
            have y0 := has_cell KR.out 0 rfl
            have y1 := has_cell KR.out 1 rfl
            have y2 := has_cell KR.out 2 rfl
            have f0 := has_free KR.out 0
            have f1 := has_free KR.out 1
            have f2 := has_free KR.out 2
            have X1 := Lib.hid (set3 (u := .int .i64 0) (v := .slice none 0 0) (x := .slice none 0 0) KR.out)
            have FIN := Lib.hid (show Below w.heap.size w (((wr.setCell ⟨w.heap.size, 0, none⟩ (.int .i64 0)).setCell ⟨w.heap.size, 1, none⟩ (.slice none 0 0)).setCell ⟨w.heap.size, 2, none⟩ (.slice none 0 0)) from ((ck.setCell (Nat.le_refl _) _).setCell (Nat.le_refl _) _).setCell (Nat.le_refl _) _)
            go_wp2_with fail
            have g0 := has_cell X1.out 0 rfl
            have g1 := has_cell X1.out 1 rfl
            have g2 := has_cell X1.out 2 rfl
            exact bodyPost_ret (v := .tuple #[.agg #[.int .i64 0, .slice none 0 0, .slice none 0 0], .bool false]) (by simp [results, Try.results51, go_sem, g0, g1, g2]) rfl ⟨0, [], [], false, none, none, 0, 0, rfl, .inr ⟨HNO.out, rfl, rfl, rfl, rfl⟩, by simp, by simp, World.ownsRow_nil _ _ _ _, .inl rfl, FIN.out⟩
        · have hgo1 : pw F h F.length < h := by omega
          have hgo2 : h ≤ 24 := by omega
          clear hbad
          have HSN := Lib.hid hsn; have HPX := Lib.hid hpx; clear hsn hpx hplo
          generalize hpk : pw F h F.length = p at *
          have HPK := Lib.hid hpk; clear hpk
          go_wp2_with (at_builtin; go_must (refine list_app rfl _ _ 55 rfl (w1.heap.size + 1) 65 j0 (.agg #[.int .i64 0, .int .i64 0, .int .i64 0, .bool false]) 4 32 Try.underlying55 hj0 hy0 hy1 hy2 rfl (by decide) _ F.length _ rfl (HOWN.out.alloc _) (some ⟨wr.heap.size, 0, none⟩) 1 1 (boxC ⟨p, h - p, 0, false⟩) rfl (src_box (has_new _ _ _)) (by unfold maxLen; omega) (by omega) (by simp; omega) ?_))
          intro A3 c3 w3 hown3 hgrow3 hrow3
          have kc3 : Has w3 w1.heap.size 57 #[.int .i64 h, .slice A2 F.length c2, .slice A' F.length c'] := has_grown (has_alloc KC.out _) hgrow3 (fun e => by have := (hrow3 _ e.symm).1; omega)
          have hb3 : Below w1.heap.size w1 w3 := (hb.alloc (by omega) _).grown hgrow3 (by simp; omega) (fun b hb => by have := (hrow3 b hb).1; omega)
          have hz3 : w1.heap.size < w3.heap.size := has_lt kc3
          have own4 : (w3.setCell ⟨w1.heap.size, 2, none⟩ (.slice A3 (F.length + 1) c3)).ownsRow (w1.heap.size + 1) 65 4 (.slice A3 (F.length + 1) c3) (F.length + 1) (boxV (nbw F h (F.length + 1))) := by
            rw [HSN.out]
            exact hown3.kept (only_set (only_refl w3 w1.heap.size) 2 _) (.inr (fun e => by have := (own_has hown3 _ e).1; omega))
          have kc4 := has_set kc3 2 (.slice A3 (F.length + 1) c3)
          have e2 := has_cell kc3 2 rfl
          have f2 := has_free kc3 2
          have HOWN4 := Lib.hid own4; have HB4 := Lib.hid (hb3.setCell (p := ⟨w1.heap.size, 2, none⟩) (Nat.le_refl _) (.slice A3 (F.length + 1) c3)); have KC4 := Lib.hid kc4
          clear hown3 hgrow3 hrow3 hb3 own4 kc3 kc4
          go_wp2
          go_roundw
          case rel => exact ⟨F.length + 1, A3, c3, by omega, by go_num, by rw [HPX.out], by simpa using KC4.out, HOWN4.out, pwTo_succ HPT.out (by rw [HPX.out, HPK.out]; omega) (by rw [HPX.out]; omega), HB4.out⟩
          case measure => simp [intOf]
      · have hkl : k = F.length + 1 := by omega
        subst hkl
        have hfix := pw_fix HPT.out
        have hsh := fix_short hfix
        have HCO := Lib.hid (col_new hfix); have HFX := Lib.hid hfix; clear hfix
        have OB := Lib.hid (or_of HOWN.out)
        have OF := Lib.hid (O1.out.below hb)
        go_wp2_with fail
        clear e0 e1 e2
        have hcs := colS_any wr wr.heap.size ⟨h, A2, F, c2, A', nbw F h (F.length + 1), c'⟩ (Nat.le_refl _) ⟨OF.out.il, OB.out.xl, hlm, by rw [nbw_len]; unfold maxLen; omega⟩
        dsimp only at hcs
        rw [nbw_len] at hcs
        refine hcs.mono ?_
        clear hcs
        rintro e w4 ⟨q, rfl, hq, hb4⟩
        obtain rfl : q = true := hq.2 HCO.out
        clear hq
        have c4 := bthen ck hb4
        have hz4 := hb4.size
        have kr := has_call KR.out hb4
        have kc := has_call KC.out hb4
        have e0 := has_cell kc 0 rfl
        have e1 := has_cell kc 1 rfl
        have e2 := has_cell kc 2 rfl
        have y0 := has_cell kr 0 rfl
        have y1 := has_cell kr 1 rfl
        have y2 := has_cell kr 2 rfl
        have f0 := has_free kr 0
        have f1 := has_free kr 1
        have f2 := has_free kr 2
        have X1 := Lib.hid (set3 (u := .int .i64 h) (v := .slice A2 F.length c2) (x := .slice A' (F.length + 1) c') kr)
        have FIN := Lib.hid (ans_finro (w.heap.size) (w.heap.size + 1) c4 (Nat.le_refl _) (by omega) (OF.out.below hb4) ((OB.out.below hb4).more (by omega)) (.int .i64 h) (.slice A2 F.length c2) (.slice A' (F.length + 1) c'))
        clear kr kc
        go_wp2_with fail
        have g0 := has_cell X1.out 0 rfl
        have g1 := has_cell X1.out 1 rfl
        have g2 := has_cell X1.out 2 rfl
        exact bodyPost_ret (v := .tuple #[.agg #[.int .i64 h, .slice A2 F.length c2, .slice A' (F.length + 1) c'], .bool true]) (by simp [results, Try.results51, go_sem, g0, g1, g2]) rfl ⟨h, F, nbw F h (F.length + 1), true, A2, A', c2, c', by rw [nbw_len], .inl ⟨HFX.out, rfl, rfl, rfl, rfl⟩, lf, by rw [nbw_len]; omega, FIN.out⟩
end Go.Proofs.Ythfpjfekemelaaa
