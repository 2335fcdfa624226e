/- Chapter 2: GapsOf and FitOf of the model. -/
import Derived.Test.YthfpjfekemelaaaQ09
import Derived.RegionTactic
import Derived.Test.YthfpjfekemelaaaQ05
import Derived.Test.YthfpjfekemelaaaQ01
import Derived.Deep.RegionWith
import Derived.Deep.LoopGhost
import Derived.Deep.RegionHeld3
namespace Go.Proofs.Ythfpjfekemelaaa
open Go.RowKit
set_option linter.unusedVariables false

/-- whether the box below index k can belong to a gap -/
def pO (L : List Bx) : Nat → Bool
  | 0 => false
  | k + 1 => match L[k]? with | some x => opn x | none => false
theorem pO_succ {L : List Bx} {k : Nat} {x : Bx} (h : L[k]? = some x) : pO L (k + 1) = opn x := by simp [pO, h]
structure GapSt (F : List Int) (L : List Bx) (k : Nat) (D : List Gp) (cur : Option Gp) : Prop where
  eq : D ++ gapsC F 0 cur (L.drop k) = gapsL F 0 L
  po : cur.isSome = pO L k
  bd : ∀ g, cur = some g → 0 ≤ g.size ∧ g.size + sumZ (L.drop k) ≤ 24
theorem gapSt_zero (F : List Int) (L : List Bx) : GapSt F L 0 [] none := ⟨by simp [gapsL], rfl, fun g h => by cases h⟩
section
variable {F : List Int} {L : List Bx} {k : Nat} {D : List Gp} {x : Bx}
theorem gapSt_shut {cur : Option Gp} (h : GapSt F L k D cur) (hx : L[k]? = some x) (ho : opn x = false) : GapSt F L (k + 1) (D ++ cur.toList) none := by
  refine ⟨?_, by rw [pO_succ hx, ho]; rfl, fun g h => by cases h⟩
  have := h.eq
  rw [drop_one hx, gapsC_shut ho] at this
  rw [List.append_assoc]; exact this
theorem gapSt_new (h : GapSt F L k D none) (hx : L[k]? = some x) (ho : opn x = true) (hs : 1 ≤ x.size) (hz : x.size + sumZ (L.drop (k + 1)) ≤ 24) : GapSt F L (k + 1) D (some ⟨0, x.low, x.size⟩) := by
  refine ⟨?_, by rw [pO_succ hx, ho]; rfl, fun g e => by injection e with e; subst e; exact ⟨by dsimp only; omega, hz⟩⟩
  have := h.eq
  rw [drop_one hx, gapsC_new ho] at this
  exact this
theorem gapSt_wall {g : Gp} (h : GapSt F L k D (some g)) (hx : L[k]? = some x) (ho : opn x = true) (hw : F.contains x.low = true) (hs : 1 ≤ x.size) (hz : x.size + sumZ (L.drop (k + 1)) ≤ 24) : GapSt F L (k + 1) (D ++ [g]) (some ⟨0, x.low, x.size⟩) := by
  refine ⟨?_, by rw [pO_succ hx, ho]; rfl, fun g e => by injection e with e; subst e; exact ⟨by dsimp only; omega, hz⟩⟩
  have := h.eq
  rw [drop_one hx, gapsC_wall ho hw] at this
  rw [List.append_assoc]; exact this
theorem gapSt_more {g : Gp} (h : GapSt F L k D (some g)) (hx : L[k]? = some x) (ho : opn x = true) (hw : F.contains x.low = false) (hs : 1 ≤ x.size) : GapSt F L (k + 1) D (some ⟨g.col, g.low, g.size + x.size⟩) := by
  have hb := h.bd g rfl
  rw [drop_one hx, sumZ_cons] at hb
  refine ⟨?_, by rw [pO_succ hx, ho]; rfl, fun g e => by injection e with e; subst e; dsimp only; omega⟩
  have := h.eq
  rw [drop_one hx, gapsC_more ho hw] at this
  exact this
theorem gapSt_len {cur : Option Gp} (h : GapSt F L k D cur) (hl : L.length ≤ 24) (hs : L[k]? = some x) : (D ++ cur.toList).length ≤ 24 := by
  have h1 := congrArg List.length h.eq
  have h2 := gapsL_len F 0 L
  rw [List.length_append] at h1
  rcases cur with _ | g
  · simp; omega
  · rw [gapsC_run] at h1; simp at h1 ⊢; omega
theorem gapSt_lenD {cur : Option Gp} (h : GapSt F L k D cur) (hl : L.length ≤ 24) (hx : L[k]? = some x) (ho : opn x = true) (hc : cur.isSome = false ∨ F.contains x.low = true) : (D ++ cur.toList).length < 24 + 1 := by
  have := gapSt_len h hl hx; omega
end

theorem gpV_set_last (D : List Gp) (a b c v : Int) : (gpV (D ++ [⟨a, b, c⟩])).set (D.length * 3 + 2) (.int .i64 v) = gpV (D ++ [⟨a, b, v⟩]) := by
  rw [gpV_app, gpV_app, List.set_append_right _ _ (by rw [gpV_len]; omega)]
  rw [show D.length * 3 + 2 - (gpV D).length = 2 by rw [gpV_len]; omega]
  rfl
set_option maxRecDepth 100000 in
set_option maxHeartbeats 4000000 in
theorem gapsS_any (w : World) (B : Nat) (x : Cl) (hB : B ≤ w.heap.size) (hV : CV w B x) :
    Calls Try.prog 45 #[.agg #[.int .i64 x.z, .slice x.AF x.F.length x.cF, .slice x.AB x.L.length x.cB]] w (GapAns (gapsO x.z x.F x.L) w) := by
  obtain ⟨j0, hj0, hy0, hy1, hy2⟩ := info_parts gpInfo
  have HV := Lib.hid hV; clear hV
  go_enter Try.func45, Try.ntmps45
  go_wp2_with fail
  generalize hW0 : ((w.alloc (.cells #[.int .i64 x.z, .slice x.AF x.F.length x.cF, .slice x.AB x.L.length x.cB] 57)).alloc (.cells #[] 28)) = w0
  have b0 : Below w.heap.size w w0 := by rw [← hW0]; exact bthen (balloc _ _) (balloc _ _)
  have k0 : Has w0 w.heap.size 57 #[.int .i64 x.z, .slice x.AF x.F.length x.cF, .slice x.AB x.L.length x.cB] := by rw [← hW0]; exact has_alloc (has_new _ _ _) _
  have own0 : w0.ownsRow (w.heap.size + 1) 28 3 (.slice (some ⟨w.heap.size + 1, 0, none⟩) 0 0) 0 [] := by rw [← hW0]; exact owns_at _ _ _ _ _ (by simp) (Nat.le_refl _)
  clear hW0
  have K0 := Lib.hid k0; have OW0 := Lib.hid own0; clear k0 own0
  have hz0 := b0.size
  refine (colS_any w0 B x (by omega) (HV.out.later hB b0)).mono ?_
  rintro e w1 ⟨q, rfl, hq, hb1⟩
  have c1 := bthen b0 hb1
  have k1 := has_call K0.out hb1
  have hz1 := hb1.size
  have hkz := has_lt k1
  have HQ := Lib.hid hq; have K1 := Lib.hid k1; clear hq k1
  have OW1 := Lib.hid (own_callG OW0.out hb1); have C1 := Lib.hid c1; clear hb1 c1 b0 OW0
  cases q
  · have hne : ¬ ColOk x.z x.F x.L := fun g => by have := HQ.out.2 g; simp at this
    have HNE := Lib.hid hne; clear hne
    go_wp2_with fail
    go_ret
    rw [gapsO_no HNE.out]
    exact ⟨_, _, rfl, .inl rfl, C1.out⟩
  · have HOK := Lib.hid (HQ.out.1 rfl)
    obtain ⟨hcs, hc24, hcl⟩ := col_sum HOK.out
    have HCS := Lib.hid hcs; clear hcs
    go_wp2_with fail
    go_loopw [3, 4] (fun gv i wr => ∃ (k : Nat) (D : List Gp) (cur : Option Gp) (n : Nat) (A' : Option Addr) (c' : Nat), k ≤ x.L.length ∧ i = .int .i64 k ∧ gv = .slice A' n c' ∧ n = (D ++ cur.toList).length ∧ GapSt x.F x.L k D cur ∧ wr.ownsRow (w.heap.size + 1) 28 3 (.slice A' n c') n (gpV (D ++ cur.toList)) ∧ Has wr w.heap.size 57 #[.int .i64 x.z, .slice x.AF x.F.length x.cF, .slice x.AB x.L.length x.cB] ∧ Below w.heap.size w wr) (fun _ i _ => x.L.length - (intOf i).toNat)
    case atStart => exact ⟨0, [], none, 0, some ⟨w.heap.size + 1, 0, none⟩, 0, Nat.zero_le _, rfl, rfl, rfl, gapSt_zero _ _, OW1.out, K1.out, C1.out⟩
    case round =>
      obtain ⟨k, D, cur, n, A', c', hk, rfl, rfl, hn, hst, hown, hkc, hb⟩ := hrel
      have HN := Lib.hid hn; have HST := Lib.hid hst; have HOW := Lib.hid hown; have HKC := Lib.hid hkc; have HBB := Lib.hid hb
      have hsz := hb.size
      have hkz2 := has_lt hkc
      have e0 := has_cell hkc 0 rfl
      have e1 := has_cell hkc 1 rfl
      have e2 := has_cell hkc 2 rfl
      clear hn hst hown hkc
      by_cases hlt : k < x.L.length
      · obtain ⟨b, off, ⟨x0, x1, x2, x3⟩, hAB, hbB, hx, hc0, hc1, hc2, hc3⟩ := (HV.out.later hB hb).b.at_ hlt
        dsimp only at hc0 hc1 hc2 hc3
        have hxm : 1 ≤ x1 := HCS.out _ (List.mem_of_getElem? hx)
        have hxs : x1 + sumZ (x.L.drop (k + 1)) ≤ 24 := by have h1 := sumZ_drop HCS.out k; rw [drop_one hx, sumZ_cons] at h1; dsimp only at h1; omega
        have hnl : n ≤ 24 := by rw [HN.out]; exact gapSt_len HST.out hcl hx
        have HX := Lib.hid hx; have HAB := Lib.hid hAB; have HIF := Lib.hid (HV.out.later hB hb).f; have HXB := Lib.hid (HV.out.later hB hb).b; clear hx hb
        rw [hAB] at e2
        clear hAB
        have hbw : b < wr.heap.size := by omega
        obtain ⟨op, hop⟩ : ∃ op, op = opn ⟨x0, x1, x2, x3⟩ := ⟨_, rfl⟩
        have HOP := Lib.hid hop; clear hop
        go_wp2_with fail
        generalize hW3 : wr.alloc (.cells #[.int .i64 x0, .int .i64 x1, .int .i64 x2, .bool x3] 65) = w3
        have b3 : Below wr.heap.size wr w3 := by rw [← hW3]; exact balloc _ _
        have k3 : Has w3 wr.heap.size 65 #[.int .i64 x0, .int .i64 x1, .int .i64 x2, .bool x3] := by rw [← hW3]; exact has_new _ _ _
        clear hW3 e0 e1 e2 hc0 hc1 hc2 hc3
        have K3 := Lib.hid k3; clear k3
        refine (openS_any w3 x0 x1 x2 x3).mono ?_
        rintro e w4 ⟨rfl, hb4⟩
        rw [← HOP.out]
        have b4 := bthen b3 hb4
        have hz4 := b4.size
        have hz34 := hb4.size
        have hl3 := has_lt K3.out
        have HKC4 := Lib.hid (has_call HKC.out b4); have K4 := Lib.hid (has_call K3.out hb4); have OW4 := Lib.hid (own_callG HOW.out b4); have HB4 := Lib.hid (HBB.out.trans (b4.mono hsz)); have HXB4 := Lib.hid (HXB.out.later (by omega) b4); have HIF4 := Lib.hid (HIF.out.later (by omega) b4); clear b3 b4 hb4
        have hkz4 := has_lt HKC4.out; have hbz4 := has_lt K4.out
        cases op
        · go_wp2
          go_roundw
          case rel => exact ⟨k + 1, D ++ cur.toList, none, n, A', c', by omega, by go_num, rfl, by rw [HN.out]; simp, gapSt_shut HST.out HX.out HOP.out.symm, by simpa using OW4.out, HKC4.out, HB4.out⟩
          case measure => simp [intOf]; omega
        · by_cases hk0 : k = 0
          · have HCU := Lib.hid (show cur = none from by have := HST.out.po; rw [hk0] at this; simpa [pO] using this)
            have t0 : decide (0 < k) = false := by simp [hk0]
            clear hk0
            have e0 := has_cell HKC4.out 0 rfl; have e1 := has_cell HKC4.out 1 rfl; have e2 := has_cell HKC4.out 2 rfl
            have d0 := has_cell K4.out 0 rfl; have d1 := has_cell K4.out 1 rfl; have d2 := has_cell K4.out 2 rfl; have d3 := has_cell K4.out 3 rfl
            go_wp2_with (at_builtin; go_must (refine list_app rfl _ _ 35 rfl (w.heap.size + 1) 28 j0 (.agg #[.int .i64 0, .int .i64 0, .int .i64 0]) 3 24 Try.underlying35 hj0 hy0 hy1 hy2 rfl (by decide) _ n _ rfl (OW4.out.alloc _) (some ⟨w4.heap.size, 0, none⟩) 1 1 (gpC ⟨0, x0, x1⟩) rfl (src_gp (has_new _ _ _)) (by unfold maxLen; omega) (by omega) (by simp; omega) ?_))
            intro A9 c9 w9 hown9 hgrow9 hrow9
            have hkc9 := has_grown (has_alloc HKC4.out (.cells #[.int .i64 0, .int .i64 x0, .int .i64 x1] 28)) hgrow9 (fun eq => by have := (hrow9 _ eq.symm).1; omega)
            have hb9 : Below w.heap.size w w9 := (HB4.out.alloc (by omega) _).grown hgrow9 (by simp; omega) (fun b hb => by have := (hrow9 b hb).1; omega)
            have HKC9 := Lib.hid hkc9; have HB9 := Lib.hid hb9; have OW9 := Lib.hid hown9; clear hkc9 hb9 hown9 hgrow9 hrow9
            go_wp2
            go_roundw
            case rel => exact ⟨k + 1, D, some ⟨0, x0, x1⟩, n + 1, A9, c9, by omega, by go_num, rfl, by rw [HN.out]; simp [HCU.out], gapSt_new (by have := HST.out; rw [HCU.out] at this; exact this) HX.out HOP.out.symm hxm hxs, by have := OW9.out; rw [← gpV_snoc] at this; simpa [HCU.out] using this, HKC9.out, HB9.out⟩
            case measure => simp [intOf]; omega
          · obtain ⟨m, hm⟩ : ∃ m, m = k - 1 := ⟨_, rfl⟩
            have hm1 : (k : Int) - 1 = (m : Int) := by omega
            have hml : m < x.L.length := by omega
            have t0 : decide (0 < k) = true := by simp; omega
            have HM := Lib.hid (show k = m + 1 by omega); clear hm hk0
            obtain ⟨b', off', ⟨v0, v1, v2, v3⟩, hAB', hbB', hy, hv0, hv1, hv2, hv3⟩ := HXB4.out.at_ hml
            rw [HAB.out] at hAB'; injection hAB' with hAB'; injection hAB' with hq1 hq2; subst hq1; subst hq2
            dsimp only at hv0 hv1 hv2 hv3
            obtain ⟨oy, hoy⟩ : ∃ oy, oy = opn ⟨v0, v1, v2, v3⟩ := ⟨_, rfl⟩
            have HPO := Lib.hid (show cur.isSome = oy by have := HST.out.po; rw [HM.out, pO_succ hy] at this; rw [this, hoy])
            have HOY := Lib.hid hoy; clear hoy hy
            have e0 := has_cell HKC4.out 0 rfl; have e1 := has_cell HKC4.out 1 rfl; have e2 := has_cell HKC4.out 2 rfl
            have d0 := has_cell K4.out 0 rfl; have d1 := has_cell K4.out 1 rfl; have d2 := has_cell K4.out 2 rfl; have d3 := has_cell K4.out 3 rfl
            rw [HAB.out] at e2
            have hbw4 : b < w4.heap.size := by omega
            have hmn : (0 : Int) ≤ (m : Int) := by omega
            have hmn2 : (m : Int) < (x.L.length : Int) := by omega
            go_wp2_with fail
            refine (openS_any w4 v0 v1 v2 v3).mono ?_
            rintro e w5 ⟨rfl, hb5⟩
            rw [← HOY.out]
            clear e0 e1 e2 d0 d1 d2 d3 hv0 hv1 hv2 hv3
            have HKC5 := Lib.hid (has_call HKC4.out hb5); have K5 := Lib.hid (has_call K4.out hb5); have OW5 := Lib.hid (own_callG OW4.out hb5); have HB5 := Lib.hid (HB4.out.trans (hb5.mono (by omega))); have HIF5 := Lib.hid (HIF4.out.later (by omega) hb5)
            have hz5 := hb5.size
            clear hb5
            have hkz5 := has_lt HKC5.out; have hbz5 := has_lt K5.out
            cases oy
            · have HCU := Lib.hid (show cur = none from by have := HPO.out; cases cur; rfl; simp at this)
              have e0 := has_cell HKC5.out 0 rfl; have e1 := has_cell HKC5.out 1 rfl; have e2 := has_cell HKC5.out 2 rfl
              have d0 := has_cell K5.out 0 rfl; have d1 := has_cell K5.out 1 rfl; have d2 := has_cell K5.out 2 rfl; have d3 := has_cell K5.out 3 rfl
              go_wp2_with (at_builtin; go_must (refine list_app rfl _ _ 35 rfl (w.heap.size + 1) 28 j0 (.agg #[.int .i64 0, .int .i64 0, .int .i64 0]) 3 24 Try.underlying35 hj0 hy0 hy1 hy2 rfl (by decide) _ n _ rfl (OW5.out.alloc _) (some ⟨w5.heap.size, 0, none⟩) 1 1 (gpC ⟨0, x0, x1⟩) rfl (src_gp (has_new _ _ _)) (by unfold maxLen; omega) (by omega) (by simp; omega) ?_))
              intro A9 c9 w9 hown9 hgrow9 hrow9
              have hkc9 := has_grown (has_alloc HKC5.out (.cells #[.int .i64 0, .int .i64 x0, .int .i64 x1] 28)) hgrow9 (fun eq => by have := (hrow9 _ eq.symm).1; omega)
              have hb9 : Below w.heap.size w w9 := (HB5.out.alloc (by omega) _).grown hgrow9 (by simp; omega) (fun b hb => by have := (hrow9 b hb).1; omega)
              have HKC9 := Lib.hid hkc9; have HB9 := Lib.hid hb9; have OW9 := Lib.hid hown9; clear hkc9 hb9 hown9 hgrow9 hrow9
              go_wp2
              go_roundw
              case rel => exact ⟨k + 1, D, some ⟨0, x0, x1⟩, n + 1, A9, c9, by omega, by go_num, rfl, by rw [HN.out]; simp [HCU.out], gapSt_new (by have := HST.out; rw [HCU.out] at this; exact this) HX.out HOP.out.symm hxm hxs, by have := OW9.out; rw [← gpV_snoc] at this; simpa [HCU.out] using this, HKC9.out, HB9.out⟩
              case measure => simp [intOf]; omega
            · obtain ⟨⟨g0, g1, g2⟩, hcu⟩ : ∃ g, cur = some g := by have := HPO.out; cases cur; simp at this; exact ⟨_, rfl⟩
              have HCU := Lib.hid hcu; clear hcu
              have e0 := has_cell HKC5.out 0 rfl; have e1 := has_cell HKC5.out 1 rfl; have e2 := has_cell HKC5.out 2 rfl
              have d0 := has_cell K5.out 0 rfl; have d1 := has_cell K5.out 1 rfl; have d2 := has_cell K5.out 2 rfl; have d3 := has_cell K5.out 3 rfl
              go_wp2_with fail
              refine (hasG_any w5 B x.AF x.cF x.F.length x.F x0 rfl HV.out.lf HIF5.out).mono ?_
              rintro e w6 ⟨rfl, hw6⟩
              rw [hw6]; clear hw6 w6
              obtain ⟨fx, hfx⟩ : ∃ fx, x.F.contains x0 = fx := ⟨_, rfl⟩
              rw [hfx]; have HFX := Lib.hid hfx; clear hfx
              cases fx
              · obtain ⟨gb, cap, hva, hgb1, hgb2⟩ := OW5.out.form (by have := HN.out; rw [HCU.out] at this; simp at this; omega)
                simp only [Value.slice.injEq, true_and] at hva; obtain ⟨rfl, rfl⟩ := hva
                obtain ⟨d, hd⟩ : ∃ d, d = D.length := ⟨_, rfl⟩
                have hdn : (n : Int) - 1 = (d : Int) := by have := HN.out; rw [HCU.out] at this; simp at this; omega
                have hnd : n = d + 1 := by omega
                have hgD : (D ++ cur.toList)[d]? = some ⟨g0, g1, g2⟩ := by rw [HCU.out, hd]; simp
                have hga := gpV_at hgD
                have hbd := HST.out.bd _ HCU.out
                rw [drop_one HX.out, sumZ_cons] at hbd
                dsimp only at hbd
                have q2 : w5.cell? ⟨gb, d * 3 + 2, none⟩ = some (.int .i64 g2) := (OW5.out.cellAt (d * 3 + 2) (by omega)).trans hga.2.2
                have qf := OW5.out.frozenAt (d * 3 + 2)
                have hd0 : (0 : Int) ≤ (d : Int) := by omega
                have hdn2 : (d : Int) < (n : Int) := by omega
                have HND := Lib.hid hnd; have HD := Lib.hid hd; have HGA := Lib.hid hga; have HGD := Lib.hid hgD; clear hnd hd hga hgD
                have hsp := sumZ_pos (L := x.L.drop (k + 1)) (fun y hy => HCS.out y (List.mem_of_mem_drop hy))
                have hmx : Try.prog.follows .mixedOrders = true := by kernel_rfl
                go_wp2
                go_region
                have e1' := HCU.out
                have HX2 := Lib.hid (show (w5.setCell ⟨gb, d * 3 + 2, none⟩ (.int .i64 (g2 + x1))).ownsRow (w.heap.size + 1) 28 3 (.slice (some ⟨gb, 0, none⟩) n c') n (gpV (D ++ [⟨g0, g1, g2 + x1⟩])) by
                  have := (OW5.out.stored (d * 3 + 2) (.int .i64 (g2 + x1))).1
                  rw [e1', HD.out] at this
                  rw [HD.out, ← gpV_set_last]; exact this)
                have HK2 := Lib.hid (has_far HKC5.out (p := ⟨gb, d * 3 + 2, none⟩) (by show w.heap.size ≠ gb; omega) (.int .i64 (g2 + x1)))
                have HB2 := Lib.hid ((HB5.out.setCell (p := ⟨gb, d * 3 + 2, none⟩) (by show w.heap.size ≤ gb; omega) (.int .i64 (g2 + x1))).drew)
                go_wp2
                go_roundw
                case rel => exact ⟨k + 1, D, some ⟨g0, g1, g2 + x1⟩, n, some ⟨gb, 0, none⟩, c', by omega, by go_num, rfl, by rw [HN.out]; simp [HCU.out], gapSt_more (by have := HST.out; rw [HCU.out] at this; exact this) HX.out HOP.out.symm HFX.out hxm, HX2.out.drew, has_drew HK2.out, HB2.out⟩
                case measure => simp [intOf]; omega
              · skip
                go_wp2_with (at_builtin; go_must (refine list_app rfl _ _ 35 rfl (w.heap.size + 1) 28 j0 (.agg #[.int .i64 0, .int .i64 0, .int .i64 0]) 3 24 Try.underlying35 hj0 hy0 hy1 hy2 rfl (by decide) _ n _ rfl (OW5.out.alloc _) (some ⟨w5.heap.size, 0, none⟩) 1 1 (gpC ⟨0, x0, x1⟩) rfl (src_gp (has_new _ _ _)) (by unfold maxLen; omega) (by omega) (by simp; omega) ?_))
                intro A9 c9 w9 hown9 hgrow9 hrow9
                have hkc9 := has_grown (has_alloc HKC5.out (.cells #[.int .i64 0, .int .i64 x0, .int .i64 x1] 28)) hgrow9 (fun eq => by have := (hrow9 _ eq.symm).1; omega)
                have hb9 : Below w.heap.size w w9 := (HB5.out.alloc (by omega) _).grown hgrow9 (by simp; omega) (fun b hb => by have := (hrow9 b hb).1; omega)
                have HKC9 := Lib.hid hkc9; have HB9 := Lib.hid hb9; have OW9 := Lib.hid hown9; clear hkc9 hb9 hown9 hgrow9 hrow9
                go_wp2
                go_roundw
                case rel => exact ⟨k + 1, D ++ [⟨g0, g1, g2⟩], some ⟨0, x0, x1⟩, n + 1, A9, c9, by omega, by go_num, rfl, by rw [HN.out]; simp [HCU.out], gapSt_wall (by have := HST.out; rw [HCU.out] at this; exact this) HX.out HOP.out.symm HFX.out hxm hxs, by have := OW9.out; rw [← gpV_snoc] at this; simpa [HCU.out] using this, HKC9.out, HB9.out⟩
                case measure => simp [intOf]; omega
      · go_wp2
        go_ret
        have hkl : k = x.L.length := by omega
        subst hkl
        have hgo : gapsO x.z x.F x.L = D ++ cur.toList := by
          rw [gapsO_ok HOK.out, ← HST.out.eq, List.drop_length]; rfl
        rw [hgo]
        exact ⟨A', c', by rw [HN.out]; rfl, (or_of HOW.out).more (by omega), HBB.out⟩

set_option maxRecDepth 100000 in
set_option maxHeartbeats 1000000 in
theorem fitS_any (w : World) (B : Nat) (x : Cl) (size : Int) (hB : B ≤ w.heap.size) (hV : CV w B x) :
    Calls Try.prog 90 #[.agg #[.int .i64 x.z, .slice x.AF x.F.length x.cF, .slice x.AB x.L.length x.cB], .int .i64 size] w (FitAns (fitV (gapsO x.z x.F x.L) size) w) := by
  have HV := Lib.hid hV; clear hV
  go_enter Try.func90, Try.ntmps90
  go_wp2_with fail
  generalize hW0 : ((w.alloc (.cells #[.int .i64 x.z, .slice x.AF x.F.length x.cF, .slice x.AB x.L.length x.cB] 57)).alloc (.cells #[.int .i64 0, .int .i64 0, .int .i64 0] 28)) = w0
  have b0 : Below w.heap.size w w0 := by rw [← hW0]; exact bthen (balloc _ _) (balloc _ _)
  have k0 : Has w0 (w.heap.size + 1) 28 #[.int .i64 0, .int .i64 0, .int .i64 0] := by
    rw [← hW0]; have := has_new (w.alloc (.cells #[.int .i64 x.z, .slice x.AF x.F.length x.cF, .slice x.AB x.L.length x.cB] 57)) 28 #[.int .i64 0, .int .i64 0, .int .i64 0]; simpa using this
  clear hW0
  have K0 := Lib.hid k0; clear k0
  have hz0 := b0.size
  refine (gapsS_any w0 B x (by omega) (HV.out.later hB b0)).mono ?_
  rintro e w1 ⟨A', c', rfl, hor, hb1⟩
  have c1 := bthen b0 hb1
  have hz1 := hb1.size
  have HOR := Lib.hid hor.gp; clear hor
  have hgl := gapsO_len x.z x.F x.L
  generalize hG : gapsO x.z x.F x.L = G at *
  have k1 := has_call K0.out hb1
  have K1 := Lib.hid k1; clear k1 hG
  go_wp2_with fail
  refine (leastS_any w1 A' _ c' w1.heap.size G size rfl (by unfold maxLen; omega) (Nat.le_refl _) HOR.out).mono ?_
  rintro e w2 ⟨rfl, hb2⟩
  have c2 := bthen c1 hb2
  have k2 := has_call K1.out hb2
  have HOR2 := Lib.hid (HOR.out.later (Nat.le_refl _) hb2)
  have y0 := has_cell k2 0 rfl
  have y1 := has_cell k2 1 rfl
  have y2 := has_cell k2 2 rfl
  have f0 := has_free k2 0
  have f1 := has_free k2 1
  have f2 := has_free k2 2
  have hz2 := c2.size
  have hz12 := hb2.size
  have hk2 := has_lt k2
  have HK2 := Lib.hid k2; have C2 := Lib.hid c2; clear k2 c2 hb2 c1 hb1
  by_cases hs : 1 ≤ size
  · by_cases hneg : leastI size G < 0
    · have hv := fitV_no (l := G) (size := size) (by unfold leastP; rw [if_pos hs]; exact hneg)
      have HFV := Lib.hid hv; clear hv
      have X1 := Lib.hid (set3 (u := .int .i64 0) (v := .int .i64 0) (x := .int .i64 0) HK2.out)
      have FIN := Lib.hid (show Below w.heap.size w (((w2.setCell ⟨w.heap.size + 1, 0, none⟩ (.int .i64 0)).setCell ⟨w.heap.size + 1, 1, none⟩ (.int .i64 0)).setCell ⟨w.heap.size + 1, 2, none⟩ (.int .i64 0)) from ((C2.out.setCell (Nat.le_succ _) _).setCell (Nat.le_succ _) _).setCell (Nat.le_succ _) _)
      generalize leastI size G = lp at *
      go_wp2_with fail
      have g0 := has_cell X1.out 0 rfl
      have g1 := has_cell X1.out 1 rfl
      have g2 := has_cell X1.out 2 rfl
      exact bodyPost_ret (v := .tuple #[.agg #[.int .i64 0, .int .i64 0, .int .i64 0], .bool false]) (by simp [results, Try.results90, go_sem, g0, g1, g2]) rfl ⟨by rw [HFV.out], FIN.out⟩
    · obtain ⟨k, ⟨x0, x1, x2⟩, hkq, hx, hv⟩ := fitV_yes (l := G) (size := size) (by unfold leastP; rw [if_pos hs]; exact hneg)
      unfold leastP at hkq
      rw [if_pos hs] at hkq
      have HFV := Lib.hid hv; clear hv
      have hkl : k < G.length := (List.getElem?_eq_some_iff.1 hx).1
      obtain ⟨b, off, g', rfl, hbB, hx', hc0, hc1, hc2⟩ := HOR2.out.at_ hkl
      obtain rfl : g' = ⟨x0, x1, x2⟩ := by rw [hx] at hx'; injection hx' with hx'; exact hx'.symm
      dsimp only at hc0 hc1 hc2
      clear hx hx'
      have hbw : b < w2.heap.size := by omega
      have X1 := Lib.hid (set3 (u := .int .i64 x0) (v := .int .i64 x1) (x := .int .i64 x2) HK2.out)
      have FIN := Lib.hid (show Below w.heap.size w (((w2.setCell ⟨w.heap.size + 1, 0, none⟩ (.int .i64 x0)).setCell ⟨w.heap.size + 1, 1, none⟩ (.int .i64 x1)).setCell ⟨w.heap.size + 1, 2, none⟩ (.int .i64 x2)) from ((C2.out.setCell (Nat.le_succ _) _).setCell (Nat.le_succ _) _).setCell (Nat.le_succ _) _)
      rw [hkq]
      clear hkq hneg
      go_wp2_with fail
      have g0 := has_cell X1.out 0 rfl
      have g1 := has_cell X1.out 1 rfl
      have g2 := has_cell X1.out 2 rfl
      exact bodyPost_ret (v := .tuple #[.agg #[.int .i64 x0, .int .i64 x1, .int .i64 x2], .bool true]) (by simp [results, Try.results90, go_sem, g0, g1, g2]) rfl ⟨by rw [HFV.out], FIN.out⟩
  · have hv := fitV_no (l := G) (size := size) (by unfold leastP; rw [if_neg hs]; omega)
    have HFV := Lib.hid hv; clear hv
    have X1 := Lib.hid (set3 (u := .int .i64 0) (v := .int .i64 0) (x := .int .i64 0) HK2.out)
    have FIN := Lib.hid (show Below w.heap.size w (((w2.setCell ⟨w.heap.size + 1, 0, none⟩ (.int .i64 0)).setCell ⟨w.heap.size + 1, 1, none⟩ (.int .i64 0)).setCell ⟨w.heap.size + 1, 2, none⟩ (.int .i64 0)) from ((C2.out.setCell (Nat.le_succ _) _).setCell (Nat.le_succ _) _).setCell (Nat.le_succ _) _)
    generalize leastI size G = lp at *
    go_wp2_with fail
    have g0 := has_cell X1.out 0 rfl
    have g1 := has_cell X1.out 1 rfl
    have g2 := has_cell X1.out 2 rfl
    exact bodyPost_ret (v := .tuple #[.agg #[.int .i64 0, .int .i64 0, .int .i64 0], .bool false]) (by simp [results, Try.results90, go_sem, g0, g1, g2]) rfl ⟨by rw [HFV.out], FIN.out⟩
end Go.Proofs.Ythfpjfekemelaaa
namespace Go.Proofs.Ythfpjfekemelaaa
open Go.RowKit
set_option linter.unusedVariables false
section
variable {P : Program} {w : World}
theorem ran_appB (base : Nat) (t ty e : TypeId) (i : TypeInfo) (z : Value) (size bytes : Nat) (ht : P.underlying t = some (.slice e)) (hi : P.info? e = some i) (hz : i.zero = some z)
    (hsize : i.size = size) (hby : i.bytes = bytes) (hzs : z.cells.size = size) (hsz : 0 < size)
    (v : Value) (n : Nat) (xs : List Value) (hown : w.ownsRow base e size v n xs) (A : Option Addr) (m c : Nat) (news : List Value) (hS : Src w A m size news)
    (h63 : n + m ≤ maxLen) (hbytes : (n + m) * bytes ≤ 140737488355328) (hbase : base ≤ w.heap.size) :
    ∃ A' c' w', (Builtin.append_ #[t, t] ty #[v, .slice A m c]).run P w = .ok (.slice A' (n + m) c') w' ∧ w'.ownsRow base e size (.slice A' (n + m) c') (n + m) (xs ++ news) ∧ w.grownBy w' v.ownBlock ∧
      ((Value.slice A' (n + m) c').ownBlock = v.ownBlock ∨ (Value.slice A' (n + m) c').ownBlock = some w.heap.size) := by
  have key : ∃ v' w', (Builtin.append_ #[t, t] ty #[v, .slice A m c]).run P w = .ok v' w' ∧ w'.ownsRow base e size v' (n + m) (xs ++ news) ∧ w.grownBy w' v.ownBlock ∧ (v'.ownBlock = v.ownBlock ∨ v'.ownBlock = some w.heap.size) := by
    cases hA : A with
    | none =>
      obtain rfl := hS.nil hA
      have hn : news = [] := List.eq_nil_of_length_eq_zero (by rw [hS.len]; omega)
      subst hn
      exact ⟨v, w, ran_nil base t ty e i size ht hi v n xs hown c, by simpa using hown, World.grownBy.refl w _, .inl rfl⟩
    | some ad =>
      obtain ⟨v', w', hr, h2, h3, _, h5⟩ := run_append_own_at (P := P) w base t ty e i z size bytes ht hi hz hsize hby hzs hsz v n xs hown ad m c news hS.len (hS.at_ ad hA) hS.one h63 hbytes hbase
      exact ⟨v', w', hr, h2, h3, h5⟩
  obtain ⟨v', w', hr, h2, h3, h5⟩ := key
  have hform : ∃ A' c', v' = .slice A' (n + m) c' := by
    rcases h2.2 with ⟨rfl, h0⟩ | ⟨g, cap, cur, rfl, _⟩
    · exact ⟨none, 0, by rw [h0]⟩
    · exact ⟨_, _, rfl⟩
  obtain ⟨A', c', rfl⟩ := hform
  exact ⟨A', c', w', hr, h2, h3, h5⟩
theorem list_appB {ops : Array Oper} {rest : List Oper} {o : Oper} {a : Act} {Q : Exit → Act → World → Prop} (hgd : o.guard = none) (s x : Operand) (t : TypeId)
    (ho : o.op = .call { callee := .builtin .append, args := #[s, x], argTypes := #[t, t] })
    (base : Nat) (e : TypeId) (i : TypeInfo) (z : Value) (size bytes : Nat) (ht : P.underlying t = some (.slice e)) (hi : P.info? e = some i) (hz : i.zero = some z)
    (hsize : i.size = size) (hby : i.bytes = bytes) (hzs : z.cells.size = size) (hsz : 0 < size)
    (v : Value) (n : Nat) (xs : List Value) (hs : a.eval s = v) (hown : w.ownsRow base e size v n xs) (A : Option Addr) (m c : Nat) (news : List Value) (hx : a.eval x = .slice A m c) (hS : Src w A m size news)
    (h63 : n + m ≤ maxLen) (hbytes : (n + m) * bytes ≤ 140737488355328) (hbase : base ≤ w.heap.size)
    (h : ∀ A' c' w', w'.ownsRow base e size (.slice A' (n + m) c') (n + m) (xs ++ news) → w.grownBy w' v.ownBlock → (∀ b, v.ownBlock = some b → base ≤ b ∧ ∃ cur, Has w b e cur) → ((Value.slice A' (n + m) c').ownBlock = v.ownBlock ∨ (Value.slice A' (n + m) c').ownBlock = some w.heap.size) → wpList P ops Q rest (a.put o.dst (.slice A' (n + m) c')) w') : wpList P ops Q (o :: rest) a w :=
  wpList_plain hgd fun K hK => by
    obtain ⟨A', c', w', hr, h2, h3, h5⟩ := ran_appB (P := P) base t o.type e i z size bytes ht hi hz hsize hby hzs hsz v n xs hown A m c news hS h63 hbytes hbase
    unfold Oper.wp execOp
    simp only [ho, resolve, invoke, builtin, Sem.run_bind, Sem.run_pure, Result.andThen_ok, List.map_toArray, List.map_cons, List.map_nil, hs, hx, hr]
    exact hK _ _ (h A' c' w' h2 h3 (own_has hown) h5)
theorem step_appB {ops : Array Oper} {o : Oper} {a : Act} {K : Act → World → Prop} {Q : Exit → Act → World → Prop} {E : Prop} (hgd : o.guard = none) (s x : Operand) (t : TypeId)
    (ho : o.op = .call { callee := .builtin .append, args := #[s, x], argTypes := #[t, t] })
    (base : Nat) (e : TypeId) (i : TypeInfo) (z : Value) (size bytes : Nat) (ht : P.underlying t = some (.slice e)) (hi : P.info? e = some i) (hz : i.zero = some z)
    (hsize : i.size = size) (hby : i.bytes = bytes) (hzs : z.cells.size = size) (hsz : 0 < size)
    (v : Value) (n : Nat) (xs : List Value) (hs : a.eval s = v) (hown : w.ownsRow base e size v n xs) (A : Option Addr) (m c : Nat) (news : List Value) (hx : a.eval x = .slice A m c) (hS : Src w A m size news)
    (h63 : n + m ≤ maxLen) (hbytes : (n + m) * bytes ≤ 140737488355328) (hbase : base ≤ w.heap.size)
    (h : ∀ A' c' w', w'.ownsRow base e size (.slice A' (n + m) c') (n + m) (xs ++ news) → w.grownBy w' v.ownBlock → (∀ b, v.ownBlock = some b → base ≤ b ∧ ∃ cur, Has w b e cur) → ((Value.slice A' (n + m) c').ownBlock = v.ownBlock ∨ (Value.slice A' (n + m) c').ownBlock = some w.heap.size) → K (a.put o.dst (.slice A' (n + m) c')) w') :
    if Region.wanted o (yielded ops a.tmps) = true then o.wp P a w K Q else E := by
  rw [if_pos (by simp [Region.wanted, hgd])]
  obtain ⟨A', c', w', hr, h2, h3, h5⟩ := ran_appB (P := P) base t o.type e i z size bytes ht hi hz hsize hby hzs hsz v n xs hown A m c news hS h63 hbytes hbase
  unfold Oper.wp execOp
  simp only [ho, resolve, invoke, builtin, Sem.run_bind, Sem.run_pure, Result.andThen_ok, List.map_toArray, List.map_cons, List.map_nil, hs, hx, hr]
  exact h A' c' w' h2 h3 (own_has hown) h5
end
end Go.Proofs.Ythfpjfekemelaaa
namespace Go.Proofs.Ythfpjfekemelaaa
open Go.RowKit
set_option linter.unusedVariables false
section
variable {P : Program} {ops : Array Oper} {Q : Exit → Act → World → Prop} {md : Region.Mode} {S : World → Prop}
theorem any_skip {i : Nat} {oi : Oper} (d : Option Tmp) {fuel : Nat} {listed : Array Bool} {a : Act} {w : World} (hi : ops[i]? = some oi) (hd : oi.dst = d)
    (hs : Region.noSelect ops = true) (hf : Region.free md ops listed i = true) (hr : (Region.ready md ops listed).contains i = true)
    (hQ : ∀ c a w, Q (.panic c) (a.put d undef) w → Q (.panic c) a w) (hy : Region.wanted oi (yielded ops a.tmps) = false) (hS : S w)
    (h : wpAnyH P md ops Q S fuel (listed.setIfInBounds i true) (a.put d undef) w) : wpAnyH P md ops Q S (fuel + 1) listed a w := by
  subst hd; exact wpAnyH_take hi hs hf hr hQ (Or.inr ⟨hy, rfl⟩) hS h
theorem any_take {i : Nat} {oi : Oper} (d : Option Tmp) (v : Value) {fuel : Nat} {listed : Array Bool} {a : Act} {w : World} (hi : ops[i]? = some oi) (hd : oi.dst = d)
    (hs : Region.noSelect ops = true) (hf : Region.free md ops listed i = true) (hr : (Region.ready md ops listed).contains i = true)
    (hQ : ∀ c a w, Q (.panic c) (a.put d v) w → Q (.panic c) a w) (hw : Region.wanted oi (yielded ops a.tmps) = true) (hy : ∀ w, S w → (execOp a.eval oi).run P w = .ok (.value v) w) (hS : S w)
    (h : wpAnyH P md ops Q S fuel (listed.setIfInBounds i true) (a.put d v) w) : wpAnyH P md ops Q S (fuel + 1) listed a w := by
  subst hd; exact wpAnyH_take hi hs hf hr hQ (Or.inl ⟨hw, hy⟩) hS h
end
end Go.Proofs.Ythfpjfekemelaaa
