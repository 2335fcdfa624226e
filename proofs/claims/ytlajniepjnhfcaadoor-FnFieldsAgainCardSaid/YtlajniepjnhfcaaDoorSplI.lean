/- Chapter 1: SplitFields of the program. -/
import Derived.Test.YtlajniepjnhfcaaDoorSplP
import Derived.Test.YtlajniepjnhfcaaDoorShelfC
import Derived.WalkMore
namespace Go.Proofs.YtlajniepjnhfcaaDoor
open Go.RowKit
set_option linter.unusedVariables false

theorem cloneS_any (w : World) (s : ByteArray) (hs : s.size ≤ 600) : Calls Tryd.prog 15 #[.string s] w fun e w' => e = .returned (.string s) ∧ Below w.heap.size w w' := by
  have HC := Lib.hid (Tryd.stringslite_Clone s w (by omega))
  go_enter Tryd.func15, Tryd.ntmps15
  go_wp2_with fail
  refine HC.out.mono ?_
  rintro e w1 ⟨rfl, hb⟩
  go_wp2_with fail
  go_ret
  exact ⟨rfl, hb⟩
/-- where a field begins, as the program keeps it -/
def stT (bg k : Nat) : Int := if bg < k then (bg : Int) else -1
theorem stT_in {bg k : Nat} (h : bg < k) : stT bg k = (bg : Int) := if_pos h
theorem stT_no {bg k : Nat} (h : ¬ bg < k) : stT bg k = -1 := if_neg h
set_option maxRecDepth 100000 in
set_option maxHeartbeats 4000000 in
theorem splI_any (w : World) (s : ByteArray) (hs : s.size ≤ maxLen) :
    Calls Tryd.prog 6 #[.string s] w (SplAns (splV s) w) := by
  unfold maxLen at hs
  obtain ⟨j0, hj0, hy0, hy1, hy2⟩ := info_parts strInfo
  by_cases hbig : 600 < s.size
  · go_enter Tryd.func6, Tryd.ntmps6
    go_wp2_with fail
    go_step3
    go_wp2
    (try rw [Exit.noGoto_ret]); go_ret2
    exact spl_none (.inl hbig) (Below.refl _ _)
  have hVl := fldF_len s (s.size + 1) 0 0
  go_enter Tryd.func6, Tryd.ntmps6
  go_wp2_with fail
  go_step3
  go_wp2_with fail
  go_step3
  go_wp2_with fail
  go_loopw [4, 5, 6, 7] (fun ov vv sv iv wr => ∃ (k bg : Nat) (D : List ByteArray) (A : Option Addr) (c : Nat), k ≤ s.size ∧ bg ≤ k ∧ iv = .int .i64 (k : Int) ∧ sv = .int .i64 (stT bg k) ∧ ov = .slice A D.length c ∧ vv = .bool true ∧ wr.ownsRow w.heap.size 9 1 (.slice A D.length c) D.length (strV D) ∧ D ++ fldF s (s.size + 1 - k) bg k = fldT s ∧ D.length ≤ k ∧ (∀ j, j < k → j < s.size → 32 ≤ byt s j ∧ byt s j ≤ 126) ∧ Below w.heap.size w wr) (fun _ _ _ iv _ => s.size - (intOf iv).toNat)
  case atStart => exact ⟨0, 0, [], _, _, Nat.zero_le _, Nat.le_refl _, rfl, rfl, rfl, rfl, owns_new _ _ _ _ (Nat.le_refl _), rfl, Nat.le_refl _, fun j hj => absurd hj (by omega), balloc _ _⟩
  case round =>
    obtain ⟨k, bg, D, A, c, hk, hbg, rfl, rfl, rfl, rfl, how, hD, hDl, hok, hb⟩ := hrel
    have HOW := Lib.hid how; have HD := Lib.hid hD; have HOK := Lib.hid hok; have HB := Lib.hid hb
    have hsz := hb.size
    clear how hD hok hb
    by_cases hlt : k < s.size
    · obtain ⟨u, hu⟩ : ∃ u, s[k] = u := ⟨_, rfl⟩
      have hby := byt_at hlt
      rw [hu] at hby
      have HBY := Lib.hid hby; clear hby
      obtain ⟨hb0, hb1⟩ := bytOf_lt u
      have hkb : ((k : Int)).toNat = k := by omega
      by_cases cb : (u.toNat : Int) < 32 ∨ 126 < (u.toNat : Int)
      · have hbad : BadT s := ⟨k, hlt, by rw [HBY.out]; exact cb⟩
        have HBAD := Lib.hid hbad; clear hbad
        by_cases c3 : bg < k
        · rw [stT_in c3]
          rcases cb with c0 | c0
          all_goals
            have hex : (s.extract bg s.size).size ≤ 600 := by rw [ByteArray.size_extract]; omega
            have hsn := strV_snoc D (s.extract bg s.size)
            have HSN := Lib.hid hsn; have HEX := Lib.hid hex; clear hsn hex
            go_wp2_with fail
            refine (cloneS_any wr (s.extract bg s.size) HEX.out).mono ?_
            rintro e w3 ⟨rfl, hb3⟩
            have HB3 := Lib.hid (bthen HB.out hb3); have OW3 := Lib.hid (own_callT HOW.out hb3)
            have hz3 := hb3.size
            clear hb3
            go_wp2_with (at_builtin; go_must (refine list_app rfl _ _ 25 rfl w.heap.size 9 j0 (.string ⟨#[]⟩) 1 16 Tryd.underlying25 hj0 hy0 hy1 hy2 rfl (by decide) _ D.length _ rfl (own_callT OW3.out (balloc _ _)) (some ⟨w3.heap.size, 0, none⟩) 1 1 [.string (s.extract bg s.size)] rfl (src_str (has_new _ _ _)) (by unfold maxLen; omega) (by omega) (by simp; omega) ?_))
            intro A4 c4 w4 hown4 hgrow4 hrow4
            have hb4 : Below w.heap.size w w4 := (HB3.out.alloc (by omega) _).grown hgrow4 (by simp; omega) (fun b hb => (hrow4 b hb).1)
            rw [← HSN.out] at hown4
            have HB4 := Lib.hid hb4; have OW4 := Lib.hid hown4; clear hb4 hown4 hgrow4 hrow4
            go_wp2
            (try rw [Exit.noGoto_ret]); go_ret2
            exact spl_none (.inr (.inl HBAD.out)) HB4.out
        · rw [stT_no c3]
          rcases cb with c0 | c0 <;> (go_wp2; (try rw [Exit.noGoto_ret]); go_ret2; exact spl_none (.inr (.inl HBAD.out)) HB.out)
      · have c0 : ¬ (u.toNat : Int) < 32 := fun h => cb (.inl h)
        have c1 : ¬ 126 < (u.toNat : Int) := fun h => cb (.inr h)
        clear cb
        have hok2 : (∀ j, j < k + 1 → j < s.size → 32 ≤ byt s j ∧ byt s j ≤ 126) := fun j hj hs2 => by
          by_cases e : j = k
          · subst e; rw [HBY.out]; omega
          · exact HOK.out j (by omega) hs2
        have HOK2 := Lib.hid hok2; clear hok2
        have hm : s.size + 1 - k = (s.size + 1 - (k + 1)) + 1 := by omega
        by_cases c2 : (u.toNat : Int) = 32
        · have hf := fldF_space (m := s.size + 1 - (k + 1)) (bg := bg) (HBY.out.trans c2)
          have hD2 := HD.out
          rw [hm, hf] at hD2
          have HST := Lib.hid (stT_no (bg := k + 1) (k := k + 1) (by omega))
          by_cases c3 : bg < k
          · rw [stT_in c3]
            rw [if_pos c3] at hD2
            have HD3 := Lib.hid hD2; clear hD2 hf
            have hex : (s.extract bg k).size ≤ 600 := by rw [ByteArray.size_extract]; omega
            have hsn := strV_snoc D (s.extract bg k)
            have HSN := Lib.hid hsn; have HEX := Lib.hid hex; clear hsn hex
            go_wp2_with fail
            refine (cloneS_any wr (s.extract bg k) HEX.out).mono ?_
            rintro e w3 ⟨rfl, hb3⟩
            have HB3 := Lib.hid (bthen HB.out hb3); have OW3 := Lib.hid (own_callT HOW.out hb3)
            have hz3 := hb3.size
            clear hb3
            go_wp2_with (at_builtin; go_must (refine list_app rfl _ _ 25 rfl w.heap.size 9 j0 (.string ⟨#[]⟩) 1 16 Tryd.underlying25 hj0 hy0 hy1 hy2 rfl (by decide) _ D.length _ rfl (own_callT OW3.out (balloc _ _)) (some ⟨w3.heap.size, 0, none⟩) 1 1 [.string (s.extract bg k)] rfl (src_str (has_new _ _ _)) (by unfold maxLen; omega) (by omega) (by simp; omega) ?_))
            intro A4 c4 w4 hown4 hgrow4 hrow4
            have hb4 : Below w.heap.size w w4 := (HB3.out.alloc (by omega) _).grown hgrow4 (by simp; omega) (fun b hb => (hrow4 b hb).1)
            rw [← HSN.out] at hown4
            have HB4 := Lib.hid hb4; have OW4 := Lib.hid hown4; clear hb4 hown4 hgrow4 hrow4
            go_wp2
            go_roundw
            case rel => exact ⟨k + 1, k + 1, D ++ [s.extract bg k], A4, c4, by omega, by omega, by go_num, by rw [HST.out], by rw [List.length_append]; rfl, rfl, by rw [List.length_append]; exact OW4.out, by rw [List.append_assoc]; exact HD3.out, by simp; omega, HOK2.out, HB4.out⟩
            case measure => simp [intOf]; omega
          · rw [stT_no c3]
            rw [if_neg c3, List.nil_append] at hD2
            have HD3 := Lib.hid hD2; clear hD2 hf
            go_wp2
            go_roundw
            case rel => exact ⟨k + 1, k + 1, D, A, c, by omega, by omega, by go_num, by rw [HST.out], rfl, rfl, HOW.out, HD3.out, by omega, HOK2.out, HB.out⟩
            case measure => simp [intOf]; omega
        · have hf := fldF_more (m := s.size + 1 - (k + 1)) (bg := bg) (fun e => c2 (HBY.out.symm.trans e))
          have hD2 := HD.out
          rw [hm, hf] at hD2
          have HD2 := Lib.hid hD2; clear hD2 hf
          have c2' : ((u.toNat : Int) != 32) = true := by simpa using c2
          have HST := Lib.hid (stT_in (bg := bg) (k := k + 1) (by omega))
          by_cases c3 : bg < k
          · rw [stT_in c3]
            go_wp2
            go_roundw
            case rel => exact ⟨k + 1, bg, D, A, c, by omega, by omega, by go_num, by rw [HST.out], rfl, rfl, HOW.out, HD2.out, by omega, HOK2.out, HB.out⟩
            case measure => simp [intOf]; omega
          · rw [stT_no c3]
            have hbk : (k : Int) = (bg : Int) := by omega
            have HBK := Lib.hid hbk; clear hbk
            go_wp2
            go_roundw
            case rel => exact ⟨k + 1, bg, D, A, c, by omega, by omega, by go_num, by rw [HST.out, ← HBK.out], rfl, rfl, HOW.out, HD2.out, by omega, HOK2.out, HB.out⟩
            case measure => simp [intOf]; omega
    · have hks : k = s.size := by omega
      have hnb : ¬ BadT s := fun ⟨j, hj, h⟩ => by have := HOK.out j (by omega) hj; omega
      have hm : s.size + 1 - k = 0 + 1 := by omega
      have hf := fldF_space (m := 0) (bg := bg) (byt_end hlt)
      have hD2 := HD.out
      rw [hm, hf] at hD2
      simp only [fldF, List.append_nil] at hD2
      have HNB := Lib.hid hnb; clear hnb
      have hext : s.extract bg s.size = s.extract bg k := by rw [hks]
      have HEXT := Lib.hid hext
      clear hext hf hks
      by_cases c3 : bg < k
      · rw [if_pos c3] at hD2
        have HD3 := Lib.hid hD2; clear hD2
        rw [stT_in c3]
        have hex : (s.extract bg s.size).size ≤ 600 := by rw [ByteArray.size_extract]; omega
        have hsn := strV_snoc D (s.extract bg s.size)
        have HSN := Lib.hid hsn; have HEX := Lib.hid hex; clear hsn hex
        go_wp2_with fail
        refine (cloneS_any wr (s.extract bg s.size) HEX.out).mono ?_
        rintro e w3 ⟨rfl, hb3⟩
        have HB3 := Lib.hid (bthen HB.out hb3); have OW3 := Lib.hid (own_callT HOW.out hb3)
        have hz3 := hb3.size
        clear hb3
        go_wp2_with (at_builtin; go_must (refine list_app rfl _ _ 25 rfl w.heap.size 9 j0 (.string ⟨#[]⟩) 1 16 Tryd.underlying25 hj0 hy0 hy1 hy2 rfl (by decide) _ D.length _ rfl (own_callT OW3.out (balloc _ _)) (some ⟨w3.heap.size, 0, none⟩) 1 1 [.string (s.extract bg s.size)] rfl (src_str (has_new _ _ _)) (by unfold maxLen; omega) (by omega) (by simp; omega) ?_))
        intro A4 c4_ w4 hown4 hgrow4 hrow4
        have hb4 : Below w.heap.size w w4 := (HB3.out.alloc (by omega) _).grown hgrow4 (by simp; omega) (fun b hb => (hrow4 b hb).1)
        rw [← HSN.out] at hown4
        have HB4 := Lib.hid hb4; have OW4 := Lib.hid hown4; clear hb4 hown4 hgrow4 hrow4
        have hD4 := HD3.out
        rw [← HEXT.out] at hD4
        have hl4 := congrArg List.length hD4
        rw [List.length_append] at hl4
        by_cases c4 : 24 < D.length + 1
        · have hc6 : 24 < (fldT s).length := by rw [← hl4]; exact c4
          have HC6 := Lib.hid hc6
          have c4' : (24 : Int) < ((D.length : Int) + 1) := by omega
          clear hc6 hD4 hl4
          go_wp2
          (try rw [Exit.noGoto_ret]); go_ret2
          exact spl_none (.inr (.inr HC6.out)) HB4.out
        · have hv := splV_yes (s := s) (fun h => by rcases h with h | h | h; exact hbig h; exact HNB.out h; rw [← hl4] at h; exact c4 h)
          have HVV := Lib.hid hv; have HDD := Lib.hid hD4; clear hv hD4 hl4
          have c4' : ¬ ((24 : Int) < ((D.length : Int) + 1)) := by omega
          go_wp2
          (try rw [Exit.noGoto_ret]); go_ret2
          rw [HVV.out, ← HDD.out]
          exact ⟨A4, c4_, by rw [List.length_append]; rfl, own_orT OW4.out, HB4.out⟩
      · rw [if_neg c3, List.append_nil] at hD2
        rw [stT_no c3]
        by_cases c4 : 24 < D.length
        · have hc6 : 24 < (fldT s).length := by rw [← hD2]; exact c4
          have HC6 := Lib.hid hc6
          have c4' : (24 : Int) < (D.length : Int) := by omega
          clear hc6 hD2
          go_wp2
          (try rw [Exit.noGoto_ret]); go_ret2
          exact spl_none (.inr (.inr HC6.out)) HB.out
        · have hv := splV_yes (s := s) (fun h => by rcases h with h | h | h; exact hbig h; exact HNB.out h; rw [← hD2] at h; exact c4 h)
          have HVV := Lib.hid hv; have HDD := Lib.hid hD2; clear hv hD2
          have c4' : ¬ ((24 : Int) < (D.length : Int)) := by omega
          go_wp2
          (try rw [Exit.noGoto_ret]); go_ret2
          rw [HVV.out, ← HDD.out]
          exact ⟨A, c, rfl, own_orT HOW.out, HB.out⟩
end Go.Proofs.YtlajniepjnhfcaaDoor
