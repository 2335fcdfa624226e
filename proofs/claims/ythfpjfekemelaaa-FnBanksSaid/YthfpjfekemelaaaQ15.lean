/- Chapter 2: contracts of NewColumn, the model's and the program's. -/
import Derived.Test.YthfpjfekemelaaaQ14
namespace Go.Proofs.Ythfpjfekemelaaa
open Go.RowKit
set_option linter.unusedVariables false

/-- the walls, with 0 ahead of them and the height behind -/
def pw (F : List Int) (h : Int) : Nat → Int
  | 0 => 0
  | m + 1 => if m < F.length then (F[m]?).getD 0 else h
theorem pw_at {F : List Int} {h : Int} {k : Nat} {x : Int} (hx : F[k]? = some x) : pw F h (k + 1) = x := by
  have : k < F.length := (List.getElem?_eq_some_iff.1 hx).1
  simp only [pw]; rw [if_pos this, hx]; rfl
theorem pw_top (F : List Int) (h : Int) : pw F h (F.length + 1) = h := by simp [pw]
def nbx (F : List Int) (h : Int) (j : Nat) : Bx := ⟨pw F h j, pw F h (j + 1) - pw F h j, 0, false⟩
def nbw (F : List Int) (h : Int) (k : Nat) : List Bx := (List.range k).map (nbx F h)
theorem nbw_len (F : List Int) (h : Int) (k : Nat) : (nbw F h k).length = k := by simp [nbw]
theorem nbw_succ (F : List Int) (h : Int) (k : Nat) : nbw F h (k + 1) = nbw F h k ++ [nbx F h k] := by simp [nbw, List.range_succ]
theorem nbw_at {F : List Int} {h : Int} {k j : Nat} (hj : j < k) : (nbw F h k)[j]? = some (nbx F h j) := by simp [nbw, hj]
theorem nbw_take (F : List Int) (h : Int) : ∀ (k j : Nat), j ≤ k → (nbw F h k).take j = nbw F h j
  | 0, j, hj => by have : j = 0 := by omega
                   subst this; rfl
  | k + 1, j, hj => by
    by_cases e : j = k + 1
    · subst e; rw [List.take_of_length_le (by rw [nbw_len]; exact Nat.le_refl _)]
    · rw [nbw_succ, List.take_append_of_le_length (by rw [nbw_len]; omega)]
      exact nbw_take F h k j (by omega)
theorem nbw_low (F : List Int) (h : Int) : ∀ k, ((nbw F h k).map Bx.size).sum = pw F h k
  | 0 => by simp [nbw, pw]
  | k + 1 => by
    rw [nbw_succ, List.map_append, List.sum_append, nbw_low F h k]
    simp [nbx]; omega
theorem nbw_lowAt (F : List Int) (h : Int) (k j : Nat) (hj : j ≤ k) : lowAt (nbw F h k) j = pw F h j := by
  unfold lowAt; rw [nbw_take F h k j hj, nbw_low]
def PwTo (F : List Int) (h : Int) (k : Nat) : Prop := ∀ j, j < k → pw F h j < pw F h (j + 1) ∧ pw F h (j + 1) ≤ 24
theorem pwTo_succ {F : List Int} {h : Int} {k : Nat} (hp : PwTo F h k) (h1 : pw F h k < pw F h (k + 1)) (h2 : pw F h (k + 1) ≤ 24) : PwTo F h (k + 1) := fun j hj => by
  by_cases e : j = k
  · subst e; exact ⟨h1, h2⟩
  · exact hp j (by omega)
theorem pw_low {F : List Int} {h : Int} {k : Nat} (hp : PwTo F h k) : ∀ j, j ≤ k → (j : Int) ≤ pw F h j
  | 0, _ => by simp [pw]
  | j + 1, hj => by
    have := pw_low hp j (by omega)
    have := (hp j (by omega)).1
    push_cast; omega
theorem pw_up {F : List Int} {h : Int} {k : Nat} (hp : PwTo F h k) : ∀ d j, j + d = k → pw F h j + d ≤ pw F h k
  | 0, j, hj => by have : j = k := by omega
                   subst this; simp
  | d + 1, j, hj => by
    have := pw_up hp d (j + 1) (by omega)
    have := (hp j (by omega)).1
    push_cast; omega
theorem pw_fix {F : List Int} {h : Int} (hp : PwTo F h (F.length + 1)) : FixOk h F := by
  have ht := pw_top F h
  refine ⟨?_, ?_, fun k x hx => ?_, fun k x y hx hy => ?_⟩
  · have := pw_low hp (F.length + 1) (by omega); rw [ht] at this; push_cast at this; omega
  · have := (hp F.length (by omega)).2; rw [ht] at this; exact this
  · have hk : k < F.length := (List.getElem?_eq_some_iff.1 hx).1
    have h1 := pw_low hp (k + 1) (by omega)
    have h2 := pw_up hp (F.length - k) (k + 1) (by omega)
    rw [pw_at hx] at h1 h2
    rw [ht] at h2
    push_cast at h1
    omega
  · have hk : k + 1 < F.length := (List.getElem?_eq_some_iff.1 hy).1
    have h1 := (hp (k + 1) (by omega)).1
    rw [pw_at hx, pw_at hy] at h1
    exact h1
theorem fix_pw {F : List Int} {h : Int} (g : FixOk h F) : PwTo F h (F.length + 1) := fun j hj => by
  have h24 := g.hi
  have h1 := g.lo
  have hn : ∀ k, k ≤ F.length → pw F h k < h ∧ 0 ≤ pw F h k := fun k hk => by
    rcases k with _ | m
    · simp [pw]; omega
    · have hx := List.getElem?_eq_getElem (l := F) (i := m) (by omega)
      rw [pw_at hx]
      have := g.fix m _ hx
      omega
  by_cases e : j = F.length
  · subst e
    rw [pw_top]
    have := hn F.length (by omega)
    omega
  · have hy := List.getElem?_eq_getElem (l := F) (i := j) (by omega)
    have h2 := g.fix j _ hy
    rw [pw_at hy]
    rcases j with _ | m
    · simp only [pw]; omega
    · have hx := List.getElem?_eq_getElem (l := F) (i := m) (by omega)
      rw [pw_at hx]
      have := g.asc m _ _ hx hy
      omega
theorem fix_short {F : List Int} {h : Int} (g : FixOk h F) : F.length ≤ 24 := by
  have := pw_low (fix_pw g) (F.length + 1) (by omega)
  rw [pw_top] at this
  have := g.hi
  push_cast at *
  omega
theorem pw_no {F : List Int} {h : Int} {k : Nat} (hk : k ≤ F.length) (hbad : pw F h (k + 1) ≤ pw F h k ∨ 24 < pw F h (k + 1)) : ¬ FixOk h F := fun g => by
  have := fix_pw g k (by omega)
  omega
theorem col_new {F : List Int} {h : Int} (g : FixOk h F) : ColOk h F (nbw F h (F.length + 1)) := by
  have hp := fix_pw g
  refine ⟨g, fun k x hk hx => ?_, ?_, fun x hx => ?_, ?_⟩
  · rw [nbw_len] at hk
    rw [nbw_at hk] at hx
    injection hx with hx; subst hx
    have := (hp k hk).1
    refine ⟨by rw [nbw_lowAt _ _ _ _ (by omega)]; rfl, ?_, by simp [nbx], by simp [nbx]⟩
    show 1 ≤ pw F h (k + 1) - pw F h k
    omega
  · rw [nbw_len, nbw_lowAt _ _ _ _ (Nat.le_refl _), pw_top]
  · obtain ⟨m, hm⟩ := List.getElem?_of_mem hx
    have hml : m < F.length := (List.getElem?_eq_some_iff.1 hm).1
    refine ⟨nbx F h (m + 1), List.mem_of_getElem? (nbw_at (k := F.length + 1) (j := m + 1) (by omega)), ?_⟩
    exact pw_at hm
  · unfold Dis
    rw [List.pairwise_iff_getElem]
    intro i j hi hj _ h0
    exfalso
    simp [nbw, nbx] at h0
def newR (h : Int) (F : List Int) (z' : Int) (F' : List Int) (L' : List Bx) (b : Bool) : Prop :=
  (FixOk h F ∧ z' = h ∧ F' = F ∧ L' = nbw F h (F.length + 1) ∧ b = true) ∨ (¬ FixOk h F ∧ z' = 0 ∧ F' = [] ∧ L' = [] ∧ b = false)
theorem new_det {h : Int} {F : List Int} {z1 z2 : Int} {F1 F2 : List Int} {L1 L2 : List Bx} {b1 b2 : Bool} (h1 : newR h F z1 F1 L1 b1) (h2 : newR h F z2 F2 L2 b2) : z1 = z2 ∧ F1 = F2 ∧ L1 = L2 ∧ b1 = b2 := by
  rcases h1 with ⟨g, rfl, rfl, rfl, rfl⟩ | ⟨g, rfl, rfl, rfl, rfl⟩
  · rcases h2 with ⟨g', rfl, rfl, rfl, rfl⟩ | ⟨g', rfl, rfl, rfl, rfl⟩
    · exact ⟨rfl, rfl, rfl, rfl⟩
    · exact absurd g g'
  · rcases h2 with ⟨g', rfl, rfl, rfl, rfl⟩ | ⟨g', rfl, rfl, rfl, rfl⟩
    · exact absurd g' g
    · exact ⟨rfl, rfl, rfl, rfl⟩
theorem boxV_snoc (L : List Bx) (x : Bx) : boxV (L ++ [x]) = boxV L ++ boxC x := by simp [boxV]
theorem src_box {w : World} {g : Nat} {x : Bx} {t : TypeId} (h : Has w g t #[.int .i64 x.low, .int .i64 x.size, .int .i64 x.par, .bool x.jam]) : Src w (some ⟨g, 0, none⟩) 1 4 (boxC x) := by
  refine ⟨rfl, fun u hu => ?_, (fun e => by cases e), fun ad e j u hu => ?_⟩
  · simp [boxC] at hu
    rcases hu with rfl | rfl | rfl | rfl <;> rfl
  · injection e with e; subst e
    rw [addrK]
    rw [Nat.zero_add]
    rw [cell_of_row w g j _ t (0, 0) h]
    simpa [boxC] using hu

set_option maxRecDepth 100000 in
set_option maxHeartbeats 4000000 in
theorem newS_any (w : World) (B : Nat) (A : Option Addr) (c : Nat) (h : Int) (F : List Int) (lf : F.length ≤ 1048576) (hB : B ≤ w.heap.size) (hS : IL w B A F) :
    Calls Try.prog 51 #[.int .i64 h, .slice A F.length c] w (ColAnsB (newR h F) w) := by
  have hlm : F.length ≤ maxLen := by unfold maxLen; omega
  have HS := Lib.hid hS; clear hS
  obtain ⟨i0, hi0, hz0, hz1, hz2⟩ := info_parts intInfo
  obtain ⟨j0, hj0, hy0, hy1, hy2⟩ := info_parts boxInfo
  go_enter Try.func51, Try.ntmps51
  go_wp2_with (at_builtin; go_must (refine list_app rfl _ _ 43 rfl (w.heap.size + 1) 3 i0 (.int .i64 0) 1 8 Try.underlying43 hi0 hz0 hz1 hz2 rfl (by decide) _ 0 [] rfl (owns_at (w.alloc _) (w.heap.size + 1) 3 1 _ (by simp) (Nat.le_refl _)) A F.length c (intV F) rfl (il_src (B := B) ((HS.out.later hB (balloc _ _)).later (by simp; omega) (balloc _ _))) (by unfold maxLen; omega) (by omega) (by simp) ?_))
  intro A2 c2 w1 hown1 hgrow1 hrow1
  have b0 : Below w.heap.size w ((w.alloc (.cells #[.int .i64 0, .slice none 0 0, .slice none 0 0] 57)).alloc (.cells #[] 3)) := bthen (balloc _ _) (balloc _ _)
  have b1 : Below w.heap.size w w1 := b0.grown hgrow1 (by simp; omega) (fun b e => by have := (hrow1 b e).1; omega)
  have k1 : Has w1 w.heap.size 57 #[.int .i64 0, .slice none 0 0, .slice none 0 0] := has_grown (has_alloc (has_new _ _ _) _) hgrow1 (fun e => by have := (hrow1 _ e.symm).1; omega)
  have o1 : OR w1 (w.heap.size + 1) 3 A2 (intV F) := by have := or_of hown1; simpa using this
  have hk1 := has_lt k1
  have K1 := Lib.hid k1; have O1 := Lib.hid o1; clear k1 o1 hown1 hgrow1 hrow1 b0
  go_wp2_with fail
  generalize hX : (w1.alloc (.cells #[.int .i64 h, .slice A2 F.length c2, .slice none 0 0] 57)) = w2
  have b2 : Below w1.heap.size w1 w2 := by rw [← hX]; exact balloc _ _
  have kc2 : Has w2 w1.heap.size 57 #[.int .i64 h, .slice A2 F.length c2, .slice none 0 0] := by rw [← hX]; exact has_new _ _ _
  clear hX
  have hz2' : w1.heap.size < w2.heap.size := has_lt kc2
  have own2 : w2.ownsRow (w1.heap.size + 1) 65 4 (.slice none 0 0) 0 (boxV (nbw F h 0)) := by simpa [nbw, boxV] using World.ownsRow_nil _ _ _ _
  have KC2 := Lib.hid kc2; have HOWN2 := Lib.hid own2; clear kc2 own2
  go_loopw [7, 8] (fun lv i wr => ∃ (k : Nat) (A' : Option Addr) (c' : Nat), k ≤ F.length + 1 ∧ i = .int .i64 k ∧ lv = .int .i64 (pw F h k) ∧ Has wr w1.heap.size 57 #[.int .i64 h, .slice A2 F.length c2, .slice A' k c'] ∧ wr.ownsRow (w1.heap.size + 1) 65 4 (.slice A' k c') k (boxV (nbw F h k)) ∧ PwTo F h k ∧ Below w1.heap.size w1 wr) (fun _ i _ => F.length + 1 - (intOf i).toNat)
  case atStart => exact ⟨0, none, 0, Nat.zero_le _, rfl, rfl, KC2.out, HOWN2.out, fun j hj => absurd hj (by omega), b2⟩
  case round =>
    obtain ⟨k, A', c', hk, rfl, rfl, hkc, hown, hpt, hb⟩ := hrel
    have hsz := hb.size
    have ck : Below w.heap.size w wr := b1.trans (hb.mono (by omega))
    have hl1 : w1.heap.size < wr.heap.size := has_lt hkc
    have e0 := has_cell hkc 0 rfl
    have e1 := has_cell hkc 1 rfl
    have e2 := has_cell hkc 2 rfl
    have KC := Lib.hid hkc; have HOWN := Lib.hid hown; have HPT := Lib.hid hpt; clear hkc hown hpt
    have KR := Lib.hid (has_below K1.out hb hk1)
    have hplo := pw_low HPT.out k (Nat.le_refl _)
    have hphi : pw F h k ≤ 24 := by
      rcases k with _ | m
      · simp [pw]
      · exact (HPT.out m (by omega)).2
    by_cases hlt : k < F.length
    · obtain ⟨b, off, x, rfl, hbB, hx, hc0⟩ := (HS.out.later hB ck).at_ hlt
      have hpx := pw_at (h := h) hx
      have HX := Lib.hid hx; clear hx
      have hp0 : 0 ≤ pw F h k := by omega
      have hsn : boxV (nbw F h (k + 1)) = boxV (nbw F h k) ++ boxC ⟨pw F h k, x - pw F h k, 0, false⟩ := by rw [nbw_succ, boxV_snoc]; simp [nbx, hpx]
      by_cases hbad : x ≤ pw F h k ∨ 24 < x
      · have HNO := Lib.hid (pw_no (F := F) (h := h) (k := k) (by omega) (by rw [hpx]; exact hbad))
        clear hsn hpx hplo
        generalize pw F h k = p at *
        by_cases hb1 : x ≤ p
        · clear hbad
          have y0 := has_cell KR.out 0 rfl
          have y1 := has_cell KR.out 1 rfl
          have y2 := has_cell KR.out 2 rfl
          have f0 := has_free KR.out 0
          have f1 := has_free KR.out 1
          have f2 := has_free KR.out 2
          have X1 := Lib.hid (set3 (u := .int .i64 0) (v := .slice none 0 0) (x := .slice none 0 0) KR.out)
          have FIN := Lib.hid (show Below w.heap.size w (((wr.setCell ⟨w.heap.size, 0, none⟩ (.int .i64 0)).setCell ⟨w.heap.size, 1, none⟩ (.slice none 0 0)).setCell ⟨w.heap.size, 2, none⟩ (.slice none 0 0)) from ((ck.setCell (Nat.le_refl _) _).setCell (Nat.le_refl _) _).setCell (Nat.le_refl _) _)
          go_wp2_with fail
          have g0 := has_cell X1.out 0 rfl
          have g1 := has_cell X1.out 1 rfl
          have g2 := has_cell X1.out 2 rfl
          exact bodyPost_ret (v := .tuple #[.agg #[.int .i64 0, .slice none 0 0, .slice none 0 0], .bool false]) (by simp [results, Try.results51, go_sem, g0, g1, g2]) rfl ⟨0, [], [], false, none, none, 0, 0, rfl, .inr ⟨HNO.out, rfl, rfl, rfl, rfl⟩, by simp, by simp, .inl rfl, .inl rfl, FIN.out⟩
        · have hb2 : 24 < x := by omega
          clear hbad
          have y0 := has_cell KR.out 0 rfl
          have y1 := has_cell KR.out 1 rfl
          have y2 := has_cell KR.out 2 rfl
          have f0 := has_free KR.out 0
          have f1 := has_free KR.out 1
          have f2 := has_free KR.out 2
          have X1 := Lib.hid (set3 (u := .int .i64 0) (v := .slice none 0 0) (x := .slice none 0 0) KR.out)
          have FIN := Lib.hid (show Below w.heap.size w (((wr.setCell ⟨w.heap.size, 0, none⟩ (.int .i64 0)).setCell ⟨w.heap.size, 1, none⟩ (.slice none 0 0)).setCell ⟨w.heap.size, 2, none⟩ (.slice none 0 0)) from ((ck.setCell (Nat.le_refl _) _).setCell (Nat.le_refl _) _).setCell (Nat.le_refl _) _)
          go_wp2_with fail
          have g0 := has_cell X1.out 0 rfl
          have g1 := has_cell X1.out 1 rfl
          have g2 := has_cell X1.out 2 rfl
          exact bodyPost_ret (v := .tuple #[.agg #[.int .i64 0, .slice none 0 0, .slice none 0 0], .bool false]) (by simp [results, Try.results51, go_sem, g0, g1, g2]) rfl ⟨0, [], [], false, none, none, 0, 0, rfl, .inr ⟨HNO.out, rfl, rfl, rfl, rfl⟩, by simp, by simp, .inl rfl, .inl rfl, FIN.out⟩
      · have hgo1 : pw F h k < x := by omega
        have hgo2 : x ≤ 24 := by omega
        clear hbad
        have HSN := Lib.hid hsn; have HPX := Lib.hid hpx; clear hsn hpx hplo
        generalize hpk : pw F h k = p at *
        have HPK := Lib.hid hpk; clear hpk
        go_wp2_with (at_builtin; go_must (refine list_app rfl _ _ 55 rfl (w1.heap.size + 1) 65 j0 (.agg #[.int .i64 0, .int .i64 0, .int .i64 0, .bool false]) 4 32 Try.underlying55 hj0 hy0 hy1 hy2 rfl (by decide) _ k _ rfl (HOWN.out.alloc _) (some ⟨wr.heap.size, 0, none⟩) 1 1 (boxC ⟨p, x - p, 0, false⟩) rfl (src_box (has_new _ _ _)) (by unfold maxLen; omega) (by omega) (by simp; omega) ?_))
        intro A3 c3 w3 hown3 hgrow3 hrow3
        have kc3 : Has w3 w1.heap.size 57 #[.int .i64 h, .slice A2 F.length c2, .slice A' k c'] := has_grown (has_alloc KC.out _) hgrow3 (fun e => by have := (hrow3 _ e.symm).1; omega)
        have hb3 : Below w1.heap.size w1 w3 := (hb.alloc (by omega) _).grown hgrow3 (by simp; omega) (fun b hb => by have := (hrow3 b hb).1; omega)
        have hz3 : w1.heap.size < w3.heap.size := has_lt kc3
        have own4 : (w3.setCell ⟨w1.heap.size, 2, none⟩ (.slice A3 (k + 1) c3)).ownsRow (w1.heap.size + 1) 65 4 (.slice A3 (k + 1) c3) (k + 1) (boxV (nbw F h (k + 1))) := by
          rw [HSN.out]
          exact hown3.kept (only_set (only_refl w3 w1.heap.size) 2 _) (.inr (fun e => by have := (own_has hown3 _ e).1; omega))
        have kc4 := has_set kc3 2 (.slice A3 (k + 1) c3)
        have e2 := has_cell kc3 2 rfl
        have f2 := has_free kc3 2
        have HOWN4 := Lib.hid own4; have HB4 := Lib.hid (hb3.setCell (p := ⟨w1.heap.size, 2, none⟩) (Nat.le_refl _) (.slice A3 (k + 1) c3)); have KC4 := Lib.hid kc4
        clear hown3 hgrow3 hrow3 hb3 own4 kc3 kc4
        go_wp2
        go_roundw
        case rel => exact ⟨k + 1, A3, c3, by omega, by go_num, by rw [HPX.out], by simpa using KC4.out, HOWN4.out, pwTo_succ HPT.out (by rw [HPX.out, HPK.out]; omega) (by rw [HPX.out]; omega), HB4.out⟩
        case measure => simp [intOf]; omega
    · by_cases hlt2 : k = F.length
      · subst hlt2
        have hpx := pw_top F h
        have hp0 : 0 ≤ pw F h F.length := by omega
        have hsn : boxV (nbw F h (F.length + 1)) = boxV (nbw F h F.length) ++ boxC ⟨pw F h F.length, h - pw F h F.length, 0, false⟩ := by rw [nbw_succ, boxV_snoc]; simp [nbx, hpx]
        by_cases hbad : h ≤ pw F h F.length ∨ 24 < h
        · have HNO := Lib.hid (pw_no (F := F) (h := h) (k := F.length) (by omega) (by rw [hpx]; exact hbad))
          clear hsn hpx hplo
          generalize pw F h F.length = p at *
          by_cases hb1 : h ≤ p
          · clear hbad
            have y0 := has_cell KR.out 0 rfl
            have y1 := has_cell KR.out 1 rfl
            have y2 := has_cell KR.out 2 rfl
            have f0 := has_free KR.out 0
            have f1 := has_free KR.out 1
            have f2 := has_free KR.out 2
            have X1 := Lib.hid (set3 (u := .int .i64 0) (v := .slice none 0 0) (x := .slice none 0 0) KR.out)
            have FIN := Lib.hid (show Below w.heap.size w (((wr.setCell ⟨w.heap.size, 0, none⟩ (.int .i64 0)).setCell ⟨w.heap.size, 1, none⟩ (.slice none 0 0)).setCell ⟨w.heap.size, 2, none⟩ (.slice none 0 0)) from ((ck.setCell (Nat.le_refl _) _).setCell (Nat.le_refl _) _).setCell (Nat.le_refl _) _)
            go_wp2_with fail
            have g0 := has_cell X1.out 0 rfl
            have g1 := has_cell X1.out 1 rfl
            have g2 := has_cell X1.out 2 rfl
            exact bodyPost_ret (v := .tuple #[.agg #[.int .i64 0, .slice none 0 0, .slice none 0 0], .bool false]) (by simp [results, Try.results51, go_sem, g0, g1, g2]) rfl ⟨0, [], [], false, none, none, 0, 0, rfl, .inr ⟨HNO.out, rfl, rfl, rfl, rfl⟩, by simp, by simp, .inl rfl, .inl rfl, FIN.out⟩
          · have hb2 : 24 < h := by omega
            clear hbad
            have y0 := has_cell KR.out 0 rfl
            have y1 := has_cell KR.out 1 rfl
            have y2 := has_cell KR.out 2 rfl
            have f0 := has_free KR.out 0
            have f1 := has_free KR.out 1
            have f2 := has_free KR.out 2
            have X1 := Lib.hid (set3 (u := .int .i64 0) (v := .slice none 0 0) (x := .slice none 0 0) KR.out)
            have FIN := Lib.hid (show Below w.heap.size w (((wr.setCell ⟨w.heap.size, 0, none⟩ (.int .i64 0)).setCell ⟨w.heap.size, 1, none⟩ (.slice none 0 0)).setCell ⟨w.heap.size, 2, none⟩ (.slice none 0 0)) from ((ck.setCell (Nat.le_refl _) _).setCell (Nat.le_refl _) _).setCell (Nat.le_refl _) _)
            go_wp2_with fail
            have g0 := has_cell X1.out 0 rfl
            have g1 := has_cell X1.out 1 rfl
            have g2 := has_cell X1.out 2 rfl
            exact bodyPost_ret (v := .tuple #[.agg #[.int .i64 0, .slice none 0 0, .slice none 0 0], .bool false]) (by simp [results, Try.results51, go_sem, g0, g1, g2]) rfl ⟨0, [], [], false, none, none, 0, 0, rfl, .inr ⟨HNO.out, rfl, rfl, rfl, rfl⟩, by simp, by simp, .inl rfl, .inl rfl, FIN.out⟩
        · have hgo1 : pw F h F.length < h := by omega
          have hgo2 : h ≤ 24 := by omega
          clear hbad
          have HSN := Lib.hid hsn; have HPX := Lib.hid hpx; clear hsn hpx hplo
          generalize hpk : pw F h F.length = p at *
          have HPK := Lib.hid hpk; clear hpk
          go_wp2_with (at_builtin; go_must (refine list_app rfl _ _ 55 rfl (w1.heap.size + 1) 65 j0 (.agg #[.int .i64 0, .int .i64 0, .int .i64 0, .bool false]) 4 32 Try.underlying55 hj0 hy0 hy1 hy2 rfl (by decide) _ F.length _ rfl (HOWN.out.alloc _) (some ⟨wr.heap.size, 0, none⟩) 1 1 (boxC ⟨p, h - p, 0, false⟩) rfl (src_box (has_new _ _ _)) (by unfold maxLen; omega) (by omega) (by simp; omega) ?_))
          intro A3 c3 w3 hown3 hgrow3 hrow3
          have kc3 : Has w3 w1.heap.size 57 #[.int .i64 h, .slice A2 F.length c2, .slice A' F.length c'] := has_grown (has_alloc KC.out _) hgrow3 (fun e => by have := (hrow3 _ e.symm).1; omega)
          have hb3 : Below w1.heap.size w1 w3 := (hb.alloc (by omega) _).grown hgrow3 (by simp; omega) (fun b hb => by have := (hrow3 b hb).1; omega)
          have hz3 : w1.heap.size < w3.heap.size := has_lt kc3
          have own4 : (w3.setCell ⟨w1.heap.size, 2, none⟩ (.slice A3 (F.length + 1) c3)).ownsRow (w1.heap.size + 1) 65 4 (.slice A3 (F.length + 1) c3) (F.length + 1) (boxV (nbw F h (F.length + 1))) := by
            rw [HSN.out]
            exact hown3.kept (only_set (only_refl w3 w1.heap.size) 2 _) (.inr (fun e => by have := (own_has hown3 _ e).1; omega))
          have kc4 := has_set kc3 2 (.slice A3 (F.length + 1) c3)
          have e2 := has_cell kc3 2 rfl
          have f2 := has_free kc3 2
          have HOWN4 := Lib.hid own4; have HB4 := Lib.hid (hb3.setCell (p := ⟨w1.heap.size, 2, none⟩) (Nat.le_refl _) (.slice A3 (F.length + 1) c3)); have KC4 := Lib.hid kc4
          clear hown3 hgrow3 hrow3 hb3 own4 kc3 kc4
          go_wp2
          go_roundw
          case rel => exact ⟨F.length + 1, A3, c3, by omega, by go_num, by rw [HPX.out], by simpa using KC4.out, HOWN4.out, pwTo_succ HPT.out (by rw [HPX.out, HPK.out]; omega) (by rw [HPX.out]; omega), HB4.out⟩
          case measure => simp [intOf]
      · have hkl : k = F.length + 1 := by omega
        subst hkl
        have hfix := pw_fix HPT.out
        have hsh := fix_short hfix
        have HCO := Lib.hid (col_new hfix); have HFX := Lib.hid hfix; clear hfix
        have OB := Lib.hid (or_of HOWN.out)
        have OF := Lib.hid (O1.out.below hb)
        go_wp2_with fail
        clear e0 e1 e2
        have hcs := colS_any wr wr.heap.size ⟨h, A2, F, c2, A', nbw F h (F.length + 1), c'⟩ (Nat.le_refl _) ⟨OF.out.il, OB.out.xl, hlm, by rw [nbw_len]; unfold maxLen; omega⟩
        dsimp only at hcs
        rw [nbw_len] at hcs
        refine hcs.mono ?_
        clear hcs
        rintro e w4 ⟨q, rfl, hq, hb4⟩
        obtain rfl : q = true := hq.2 HCO.out
        clear hq
        have c4 := bthen ck hb4
        have hz4 := hb4.size
        have kr := has_call KR.out hb4
        have kc := has_call KC.out hb4
        have e0 := has_cell kc 0 rfl
        have e1 := has_cell kc 1 rfl
        have e2 := has_cell kc 2 rfl
        have y0 := has_cell kr 0 rfl
        have y1 := has_cell kr 1 rfl
        have y2 := has_cell kr 2 rfl
        have f0 := has_free kr 0
        have f1 := has_free kr 1
        have f2 := has_free kr 2
        have X1 := Lib.hid (set3 (u := .int .i64 h) (v := .slice A2 F.length c2) (x := .slice A' (F.length + 1) c') kr)
        have FIN := Lib.hid (ans_finr (w.heap.size) (w.heap.size + 1) c4 (Nat.le_refl _) (by omega) (OF.out.below hb4) ((OB.out.below hb4).more (by omega)) (.int .i64 h) (.slice A2 F.length c2) (.slice A' (F.length + 1) c'))
        clear kr kc
        go_wp2_with fail
        have g0 := has_cell X1.out 0 rfl
        have g1 := has_cell X1.out 1 rfl
        have g2 := has_cell X1.out 2 rfl
        exact bodyPost_ret (v := .tuple #[.agg #[.int .i64 h, .slice A2 F.length c2, .slice A' (F.length + 1) c'], .bool true]) (by simp [results, Try.results51, go_sem, g0, g1, g2]) rfl ⟨h, F, nbw F h (F.length + 1), true, A2, A', c2, c', by rw [nbw_len], .inl ⟨HFX.out, rfl, rfl, rfl, rfl⟩, lf, by rw [nbw_len]; omega, FIN.out⟩
end Go.Proofs.Ythfpjfekemelaaa
namespace Go.Proofs.Ythfpjfekemelaaa
open Go.RowKit
set_option linter.unusedVariables false

/-- a row of the call's own, one cell an element, with its capacity -/
def OQ (n : Nat) (w : World) (base : Nat) (e : TypeId) (A : Option Addr) (xs : List Value) : Prop := w.ownsRow base e 1 (.slice A xs.length n) xs.length xs
section
variable {w w' : World} {base B n : Nat} {e e' : TypeId} {A : Option Addr} {xs : List Value}
theorem OQ.or (h : OQ n w base e A xs) : OR w base e A xs := or_of h
theorem oq_of {m c : Nat} (h : w.ownsRow base e 1 (.slice A m c) m xs) : OQ c w base e A xs := by
  have hl : xs.length = m := by have := h.1; omega
  subst hl; exact h
theorem OQ.kept (h : OQ n w base e A xs) (hk : ∀ g, base ≤ g → (∃ cur, Has w g e cur) → w'.heap[g]? = w.heap[g]?) : OQ n w' base e A xs := by
  obtain ⟨h1, h2 | ⟨g, cap, cur, hv, hb, hh, r⟩⟩ := h
  · exact ⟨h1, .inl h2⟩
  · exact ⟨h1, .inr ⟨g, cap, cur, hv, hb, (hk g hb ⟨cur, hh⟩).trans hh, r⟩⟩
theorem OQ.below (h : OQ n w base e A xs) (hb : Below w.heap.size w w') : OQ n w' base e A xs := h.kept fun g _ ⟨_, hc⟩ => hb.block g (has_lt hc)
theorem OQ.alloc_ (h : OQ n w base e A xs) (o : Obj) : OQ n (w.alloc o) base e A xs := h.below (balloc w o)
theorem OQ.more (h : OQ n w base e A xs) (hB : B ≤ base) : OQ n w B e A xs := by
  obtain ⟨h1, h2 | ⟨g, cap, cur, hv, hb, r⟩⟩ := h
  · exact ⟨h1, .inl h2⟩
  · exact ⟨h1, .inr ⟨g, cap, cur, hv, by omega, r⟩⟩
theorem OQ.setlow (h : OQ n w base e A xs) {p : Addr} (hp : p.block < base) (v : Value) : OQ n (w.setCell p v) base e A xs := h.kept fun g hg _ => Below.heap_setCell w p v g (by omega)
theorem OQ.set_other {g : Nat} {cur : Array Value} (h : OQ n w base e A xs) (hh : Has w g e' cur) (hne : e ≠ e') (i : Nat) (v : Value) : OQ n (w.setCell ⟨g, i, none⟩ v) base e A xs :=
  h.kept fun k _ ⟨_, hc⟩ => Below.heap_setCell w ⟨g, i, none⟩ v k (fun eq => by
    have eq : k = g := eq
    subst eq
    have := hc.symm.trans hh
    injection this with this; injection this with _ this _
    exact hne this)
theorem OQ.grown_ {row : Option Nat} (h : OQ n w base e A xs) (hg : w.grownBy w' row) (hr : ∀ b, row = some b → ∃ cur, Has w b e' cur) (hne : e ≠ e') : OQ n w' base e A xs :=
  h.kept fun k _ ⟨_, hc⟩ => hg.block k (has_lt hc) (fun eq => by
    obtain ⟨cur', h'⟩ := hr k eq.symm
    have := hc.symm.trans h'
    injection this with this; injection this with _ this _
    exact hne this)
theorem OQ.il {l : List Int} (h : OQ n w base e A (intV l)) : IL w w.heap.size A l := h.or.il
end
theorem copy_fino {w w0 w2 : World} {n : Nat} {A2 A3 : Option Addr} {F L : List Value} {e1 e2 : TypeId} (b0 : Below w.heap.size w w0) (hb : Below (w.heap.size + 1) w0 w2) (h2 : OQ n w2 (w.heap.size + 2) e1 A2 F) (h3 : OR w2 (w.heap.size + 2) e2 A3 L) (hz : w.heap.size + 2 ≤ w2.heap.size) (u v x : Value) :
    OQ n (((w2.setCell ⟨w.heap.size + 1, 0, none⟩ u).setCell ⟨w.heap.size + 1, 1, none⟩ v).setCell ⟨w.heap.size + 1, 2, none⟩ x) w.heap.size e1 A2 F ∧ OR (((w2.setCell ⟨w.heap.size + 1, 0, none⟩ u).setCell ⟨w.heap.size + 1, 1, none⟩ v).setCell ⟨w.heap.size + 1, 2, none⟩ x) w.heap.size e2 A3 L ∧ Below w.heap.size w (((w2.setCell ⟨w.heap.size + 1, 0, none⟩ u).setCell ⟨w.heap.size + 1, 1, none⟩ v).setCell ⟨w.heap.size + 1, 2, none⟩ x) :=
  ⟨(((h2.setlow (by show w.heap.size + 1 < _; omega) _).setlow (by show w.heap.size + 1 < _; omega) _).setlow (by show w.heap.size + 1 < _; omega) _).more (by omega),
   (((h3.setlow (by show w.heap.size + 1 < _; omega) _).setlow (by show w.heap.size + 1 < _; omega) _).setlow (by show w.heap.size + 1 < _; omega) _).more (by omega),
   (((b0.trans (hb.mono (by omega))).setCell (by simp) _).setCell (by simp) _).setCell (by simp) _⟩

set_option maxRecDepth 100000 in
set_option maxHeartbeats 8000000 in
theorem copySo_any (w : World) (B : Nat) (x : Cl) (lf : x.F.length ≤ 1048576) (lb : x.L.length ≤ 1048576) (hB : B ≤ w.heap.size) (hV : CV w B x) :
    Calls Try.prog 59 #[.agg #[.int .i64 x.z, .slice x.AF x.F.length x.cF, .slice x.AB x.L.length x.cB]] w fun e w' => ∃ A2 A3 n2 n3, e = .returned (.agg #[.int .i64 x.z, .slice A2 x.F.length n2, .slice A3 x.L.length n3]) ∧ OQ n2 w' w.heap.size 3 A2 (intV x.F) ∧ OR w' w.heap.size 65 A3 (boxV x.L) ∧ Below w.heap.size w w' := by
  have HV := Lib.hid hV; clear hV
  obtain ⟨i0, hi0, hz0, hz1, hz2⟩ := info_parts intInfo
  obtain ⟨j0, hj0, hy0, hy1, hy2⟩ := info_parts boxInfo
  go_enter Try.func59, Try.ntmps59
  go_wp2_with fail
  generalize hW0 : (w.alloc (.cells #[.int .i64 x.z, .slice x.AF x.F.length x.cF, .slice x.AB x.L.length x.cB] 57)).alloc (.cells #[.int .i64 0, .slice none 0 0, .slice none 0 0] 57) = w0
  have b0 : Below w.heap.size w w0 := by rw [← hW0]; exact bthen (balloc _ _) (balloc _ _)
  have k0 : Has w0 w.heap.size 57 #[.int .i64 x.z, .slice x.AF x.F.length x.cF, .slice x.AB x.L.length x.cB] := by rw [← hW0]; exact has_alloc (has_new _ _ _) _
  have k1 : Has w0 (w.heap.size + 1) 57 #[.int .i64 0, .slice none 0 0, .slice none 0 0] := by rw [← hW0]; have := has_new (w.alloc (.cells #[.int .i64 x.z, .slice x.AF x.F.length x.cF, .slice x.AB x.L.length x.cB] 57)) 57 #[.int .i64 0, .slice none 0 0, .slice none 0 0]; simpa using this
  clear hW0
  have e0 := has_cell k0 0 rfl
  have e1 := has_cell k0 1 rfl
  have e2 := has_cell k0 2 rfl
  have K0 := Lib.hid k0; have K1 := Lib.hid k1; clear k0
  have hz : w.heap.size + 1 < w0.heap.size := has_lt k1
  clear k1
  have v0 := HV.out.later hB b0
  have V0 := Lib.hid v0; clear v0
  have hb0z := b0.size
  have hBz : B ≤ w0.heap.size := by omega
  have S0 : (fun W : World => (W.cell? ⟨w.heap.size, 0, none⟩ = some (.int .i64 x.z) ∧ W.cell? ⟨w.heap.size, 1, none⟩ = some (.slice x.AF x.F.length x.cF) ∧ W.cell? ⟨w.heap.size, 2, none⟩ = some (.slice x.AB x.L.length x.cB)) ∧ Below (w.heap.size + 1) w0 W) w0.drew := ⟨⟨e0, e1, e2⟩, (Below.refl _ _).drew⟩
  clear e0 e1 e2
  have hw0 : w.heap.size + 1 ≤ w0.heap.size := by omega
  have hw2 : w.heap.size + 2 ≤ w0.heap.size := by omega
  have hw3 : w.heap.size + 2 ≤ w0.heap.size + 1 := by omega
  have hB1 : B ≤ w.heap.size + 1 := by omega
  go_region_held3 (fun W : World => (W.cell? ⟨w.heap.size, 0, none⟩ = some (.int .i64 x.z) ∧ W.cell? ⟨w.heap.size, 1, none⟩ = some (.slice x.AF x.F.length x.cF) ∧ W.cell? ⟨w.heap.size, 2, none⟩ = some (.slice x.AB x.L.length x.cB)) ∧ Below (w.heap.size + 1) w0 W) (first | assumption | exact keepA w.heap.size (w.heap.size + 1) _ (Nat.lt_add_one _) hw0 (by assumption) | exact ⟨⟨(cell_far3 (Nat.lt_add_one _) _ _ _ _ _ _ _).trans hSx.1.1, (cell_far3 (Nat.lt_add_one _) _ _ _ _ _ _ _).trans hSx.1.2.1, (cell_far3 (Nat.lt_add_one _) _ _ _ _ _ _ _).trans hSx.1.2.2⟩, ((hSx.2.setCell (p := ⟨w.heap.size + 1, 0, none⟩) (Nat.le_refl _) _).setCell (p := ⟨w.heap.size + 1, 1, none⟩) (Nat.le_refl _) _).setCell (p := ⟨w.heap.size + 1, 2, none⟩) (Nat.le_refl _) _⟩) (first
    | ((refine step_app rfl _ _ 43 rfl (w.heap.size + 2) 3 i0 (.int .i64 0) 1 8 Try.underlying43 hi0 hz0 hz1 hz2 rfl (by decide) _ 0 [] rfl ?_ x.AF x.F.length x.cF (intV x.F) rfl ?_ ?_ ?_ ?_ ?_); (first | exact (owns_at w0 (w.heap.size + 2) 3 1 _ rfl hw2).drew | exact ((owns_at w0 (w.heap.size + 2) 3 1 _ rfl hw2).alloc _).drew | exact (owns_at (w0.alloc _) (w.heap.size + 2) 3 1 _ (by simp) hw3).drew | exact (owns_at _ (w.heap.size + 2) 3 1 _ rfl hz9) | exact ((owns_at w0 (w.heap.size + 2) 3 1 _ rfl hw2).alloc _).drew.kept hgx (.inr (fun e => by have e' := Option.some.inj (show some _ = some _ from e); exact absurd e' (by simp))) | exact (owns_at (w0.alloc _) (w.heap.size + 2) 3 1 _ (by simp) hw3).drew.kept hgx (.inr (fun e => by have e' := Option.some.inj (show some _ = some _ from e); exact absurd e' (by simp)))); (exact il_src (B := B) (V0.out.f.below (Below.mono (And.right (by assumption)) hB1))); (unfold maxLen; omega); omega; (first | exact hz9 | (simp; omega)); (intro A2 n2 w1 hown1 hgx hb1; have hSx := keepG w.heap.size (w.heap.size + 1) (Nat.lt_add_one _) hw0 (by assumption) hgx (fun b e => by have := (hb1 b e).1; omega); have hz9 := hSx.2.size; have hz9 := Nat.le_trans hw2 hz9; have KT : Has w1 (w.heap.size + 1) 57 #[.int .i64 0, .slice none 0 0, .slice none 0 0] := has_grown (by first | exact has_alloc K1.out _ | exact has_alloc (has_alloc K1.out _) _ | exact KT | exact has_alloc KT _) hgx (fun e => by have := (hb1 _ e.symm).1; omega); have y0 := has_cell KT 0 rfl; have y1 := has_cell KT 1 rfl; have y2 := has_cell KT 2 rfl; have f0 := has_free KT 0; have f1 := has_free KT 1; have f2 := has_free KT 2; have O2 := oq_of hown1; try have O3 := OR.grown_ (by first | exact O3 | exact O3.alloc_ _) hgx (fun b e => (hb1 b e).2) (by decide)))
    | ((refine step_app rfl _ _ 55 rfl (w.heap.size + 2) 65 j0 (.agg #[.int .i64 0, .int .i64 0, .int .i64 0, .bool false]) 4 32 Try.underlying55 hj0 hy0 hy1 hy2 rfl (by decide) _ 0 [] rfl ?_ x.AB x.L.length x.cB (boxV x.L) rfl ?_ ?_ ?_ ?_ ?_); (first | exact (owns_at w0 (w.heap.size + 2) 65 4 _ rfl hw2).drew | exact ((owns_at w0 (w.heap.size + 2) 65 4 _ rfl hw2).alloc _).drew | exact (owns_at (w0.alloc _) (w.heap.size + 2) 65 4 _ (by simp) hw3).drew | exact (owns_at _ (w.heap.size + 2) 65 4 _ rfl hz9) | exact ((owns_at w0 (w.heap.size + 2) 65 4 _ rfl hw2).alloc _).drew.kept hgx (.inr (fun e => by have e' := Option.some.inj (show some _ = some _ from e); exact absurd e' (by simp))) | exact (owns_at (w0.alloc _) (w.heap.size + 2) 65 4 _ (by simp) hw3).drew.kept hgx (.inr (fun e => by have e' := Option.some.inj (show some _ = some _ from e); exact absurd e' (by simp)))); (exact xl_src (B := B) (V0.out.b.below (Below.mono (And.right (by assumption)) hB1))); (unfold maxLen; omega); omega; (first | exact hz9 | (simp; omega)); (intro A3 n3 w2 hown2 hgx hb2; have hSx := keepG w.heap.size (w.heap.size + 1) (Nat.lt_add_one _) hw0 (by assumption) hgx (fun b e => by have := (hb2 b e).1; omega); have hz9 := hSx.2.size; have hz9 := Nat.le_trans hw2 hz9; have KT : Has w2 (w.heap.size + 1) 57 #[.int .i64 0, .slice none 0 0, .slice none 0 0] := has_grown (by first | exact has_alloc K1.out _ | exact has_alloc (has_alloc K1.out _) _ | exact KT | exact has_alloc KT _) hgx (fun e => by have := (hb2 _ e.symm).1; omega); have y0 := has_cell KT 0 rfl; have y1 := has_cell KT 1 rfl; have y2 := has_cell KT 2 rfl; have f0 := has_free KT 0; have f1 := has_free KT 1; have f2 := has_free KT 2; have O3 := or_of hown2; try have O2 := OQ.grown_ (by first | exact O2 | exact O2.alloc_ _) hgx (fun b e => (hb2 b e).2) (by decide))))
  all_goals
    have hold := has_set (has_set (has_set KT 0 (.int .i64 x.z)) 1 (.slice A2 x.F.length n2)) 2 (.slice A3 x.L.length n3)
    simp only [List.setIfInBounds_toArray, List.set_cons_zero, List.set_cons_succ] at hold
    have g0 := has_cell hold 0 rfl
    have g1 := has_cell hold 1 rfl
    have g2 := has_cell hold 2 rfl
    rw [List.nil_append] at O2 O3
    have fin := copy_fino b0 hSx.2 O2 O3 hz9 (Value.int .i64 x.z) (Value.slice A2 x.F.length n2) (Value.slice A3 x.L.length n3)
    have FIN := Lib.hid fin
    clear fin hSx KT hold O2 O3 y0 y1 y2 f0 f1 f2 hgx S0
    go_wp2_with fail
    refine bodyPost_ret (v := .agg #[.int .i64 x.z, .slice A2 x.F.length n2, .slice A3 x.L.length n3]) (by simp [results, Try.results59, go_sem, g0, g1, g2]) rfl ⟨A2, A3, n2, n3, rfl, FIN.out⟩
end Go.Proofs.Ythfpjfekemelaaa
