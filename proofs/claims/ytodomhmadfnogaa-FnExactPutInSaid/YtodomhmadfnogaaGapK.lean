/- Chapter 2: the program's Cleared. -/
import Derived.Test.YtodomhmadfnogaaGapJ
namespace Go.Proofs.Ytodomhmadfnogaa
open Go.RowKit
set_option linter.unusedVariables false

noncomputable def clrO (z : Int) (F : List Int) (L : List Bx) : List Bx := by
  classical exact if ColOk z F L then clrL F L else L
theorem clrO_ok {z : Int} {F : List Int} {L : List Bx} (h : ColOk z F L) : clrO z F L = clrL F L := by unfold clrO; exact if_pos h
theorem clrO_no {z : Int} {F : List Int} {L : List Bx} (h : ¬ ColOk z F L) : clrO z F L = L := by unfold clrO; exact if_neg h
theorem clrC_len (F : List Int) : ∀ (L : List Bx) (cur : Option Bx), (clrC F cur L).length ≤ cur.toList.length + L.length
  | [], cur => by simp [clrC]
  | x :: r, cur => by
    unfold clrC
    split
    · split
      · have := clrC_len F r (some x); simp at this ⊢; omega
      · split
        · have := clrC_len F r (some x); simp at this ⊢; omega
        · rename_i b _; have := clrC_len F r (some ⟨b.low, b.size + x.size, b.par, b.jam⟩); simp at this ⊢; omega
    · have := clrC_len F r none; simp at this ⊢; omega
theorem clrO_len (z : Int) (F : List Int) (L : List Bx) : (clrO z F L).length ≤ L.length := by
  by_cases h : ColOk z F L
  · rw [clrO_ok h]; have := clrC_len F L none; simpa [clrL] using this
  · rw [clrO_no h]; exact Nat.le_refl _
def clrR (z : Int) (F : List Int) (L : List Bx) (z' : Int) (F' : List Int) (L' : List Bx) : Prop := z' = z ∧ F' = F ∧ L' = clrO z F L
theorem clr_det {z : Int} {F : List Int} {L : List Bx} {z1 z2 : Int} {F1 F2 : List Int} {L1 L2 : List Bx} (h1 : clrR z F L z1 F1 L1) (h2 : clrR z F L z2 F2 L2) : z1 = z2 ∧ F1 = F2 ∧ L1 = L2 :=
  ⟨h1.1.trans h2.1.symm, h1.2.1.trans h2.2.1.symm, h1.2.2.trans h2.2.2.symm⟩
/-- the answer is a column of the call's own, of which R holds -/
def ColAnsN (R : Int → List Int → List Bx → Prop) (w : World) (e : Ending) (w' : World) : Prop :=
  ∃ z' F' L' A2 A3 n2 n3, e = .returned (.agg #[.int .i64 z', .slice A2 F'.length n2, .slice A3 L'.length n3]) ∧ R z' F' L' ∧ F'.length ≤ 1048576 ∧ L'.length ≤ 1048576 ∧ OR w' w.heap.size 3 A2 (intV F') ∧ OR w' w.heap.size 52 A3 (boxV L') ∧ Below w.heap.size w w'

set_option maxRecDepth 100000 in
set_option maxHeartbeats 4000000 in
theorem clrI_any (w : World) (B : Nat) (x : Cl) (lf : x.F.length ≤ 1048576) (lb : x.L.length ≤ 1048576) (hB : B ≤ w.heap.size) (hV : CV w B x) :
    Calls Try.prog 23 #[.agg #[.int .i64 x.z, .slice x.AF x.F.length x.cF, .slice x.AB x.L.length x.cB]] w (ColAnsN (clrR x.z x.F x.L) w) := by
  have HV := Lib.hid hV; clear hV
  have hcl := clrO_len x.z x.F x.L
  go_enter Try.func23, Try.ntmps23
  go_wp2_with fail
  generalize hW0 : ((w.alloc (.cells #[.int .i64 x.z, .slice x.AF x.F.length x.cF, .slice x.AB x.L.length x.cB] 31)).alloc (.cells #[.int .i64 0, .slice none 0 0, .slice none 0 0] 31)) = w0
  have b0 : Below w.heap.size w w0 := by rw [← hW0]; exact bthen (balloc _ _) (balloc _ _)
  have hs0 : w.heap.size + 2 ≤ w0.heap.size := by rw [← hW0]; simp
  have k0 : Has w0 w.heap.size 31 #[.int .i64 x.z, .slice x.AF x.F.length x.cF, .slice x.AB x.L.length x.cB] := by rw [← hW0]; exact has_alloc (has_new _ _ _) _
  have k1 : Has w0 (w.heap.size + 1) 31 #[.int .i64 0, .slice none 0 0, .slice none 0 0] := by rw [← hW0]; have := has_new (w.alloc (.cells #[.int .i64 x.z, .slice x.AF x.F.length x.cF, .slice x.AB x.L.length x.cB] 31)) 31 #[.int .i64 0, .slice none 0 0, .slice none 0 0]; simpa using this
  clear hW0
  have K0 := Lib.hid k0; have K1 := Lib.hid k1; clear k0 k1
  refine (colI_any w0 B x (by omega) (HV.out.later hB b0)).mono ?_
  rintro e w1 ⟨qb, rfl, hq, hb1⟩
  have c1 := bthen b0 hb1
  have hz1 := hb1.size
  have k01 := has_call K0.out hb1
  have e0 := has_cell k01 0 rfl; have e1 := has_cell k01 1 rfl; have e2 := has_cell k01 2 rfl
  have hlA := has_lt k01
  have HQ := Lib.hid hq; have K01 := Lib.hid k01; have K11 := Lib.hid (has_call K1.out hb1); have C1 := Lib.hid c1; clear hq k01 c1 b0
  cases qb
  · have hne : ¬ ColOk x.z x.F x.L := fun g => by have := HQ.out.2 g; simp at this
    have HNE := Lib.hid hne; clear hne hb1
    go_wp2_with fail
    refine (copyI_any w1 B x lf lb (by omega) (HV.out.later hB C1.out)).mono ?_
    rintro e w2 ⟨A2, A3, n2, n3, rfl, hP, hQ, hb2⟩
    have kR := has_call K11.out hb2
    have y0' := has_cell kR 0 rfl; have y1' := has_cell kR 1 rfl; have y2' := has_cell kR 2 rfl; have f0 := has_free kR 0; have f1 := has_free kR 1; have f2 := has_free kR 2
    have hlR := has_lt kR
    have X1 := Lib.hid (set3 (u := .int .i64 x.z) (v := .slice A2 x.F.length n2) (x := .slice A3 x.L.length n3) kR)
    have hbel := bthen C1.out hb2
    have FIN := Lib.hid (ans_finr0 (w.heap.size + 1) (w.heap.size + 2) hbel (by omega) (by omega) (hP.more (by omega)) (hQ.more (by omega)) (.int .i64 x.z) (.slice A2 x.F.length n2) (.slice A3 x.L.length n3))
    clear kR hP hQ hbel e0 e1 e2 hb2
    go_wp2_with fail
    have g0' := has_cell X1.out 0 rfl
    have g1' := has_cell X1.out 1 rfl
    have g2' := has_cell X1.out 2 rfl
    exact bodyPost_ret (v := .agg #[.int .i64 x.z, .slice A2 x.F.length n2, .slice A3 x.L.length n3]) (by simp [results, Try.results23, go_sem, g0', g1', g2']) rfl ⟨x.z, x.F, x.L, A2, A3, n2, n3, rfl, ⟨rfl, rfl, (clrO_no HNE.out).symm⟩, lf, lb, FIN.out⟩
  · have hok := HQ.out.1 rfl
    obtain ⟨hcs, hc24, hcl24⟩ := col_sum hok
    have hco := clrO_ok hok
    have HCS := Lib.hid hcs; have HCO := Lib.hid hco; clear hcs hco hok HQ
    have HV1 := Lib.hid (HV.out.later hB C1.out)
    clear hb1
    go_wp2_with fail
    refine (stack_any w1 B x (by omega) HV1.out).mono ?_
    rintro e w2 ⟨bp, gs, rfl, hT, hb2⟩
    have hz2 := hb2.size
    have HT := Lib.hid hT; have B2 := Lib.hid hb2; have HND := Lib.hid hT.nodup; clear hT hb2 e0 e1 e2
    go_wp2_with fail
    go_loopw [4] (fun tv wr => ∃ (P : List Tr) (R : List Bx) (gs1 gs2 : List Nat) (q : Option Addr), tv = .pointer q ∧ TS wr w1.heap.size q bp gs1 P ∧ TL wr w1.heap.size q gs2 (R.map (trOf x.F)) ∧ (gs1 ++ gs2).Nodup ∧ P.map Tr.x ++ clrL x.F R = clrL x.F x.L ∧ (∀ y ∈ R, 1 ≤ y.size) ∧ sumZ R ≤ 24 ∧ Below w1.heap.size w1 wr) (fun tv wr => tlLen wr tv)
    case atStart => exact ⟨[], x.L, [], gs, bp, rfl, rfl, HT.out, HND.out, rfl, HCS.out, hc24, B2.out⟩
    case round =>
      obtain ⟨P, R, gs1, gs2, q, rfl, hTS, hT, hnd, hPR, hs6, hs5, hb⟩ := hrel
      have HTS := Lib.hid hTS; have HNN := Lib.hid hnd; have HPR := Lib.hid hPR; have HBB := Lib.hid hb; clear hTS hnd hPR
      have hszr := hb.size
      clear hb
      rcases R with _ | ⟨⟨y0, y1, y2, y3⟩, r⟩
      · obtain ⟨rfl, rfl⟩ := hT.nil_inv
        have hml : P.map Tr.x = clrL x.F x.L := by have := HPR.out; simpa [clrL, clrC] using this
        have hPl : P.length ≤ 24 := by have h1 := congrArg List.length hml; have h2 := HCO.out; rw [← h2] at h1; simp at h1; omega
        have HALL := Lib.hid (HTS.out.tl (w := wr) (lo := w1.heap.size) (q := none) (gs2 := []) (l2 := []) rfl HNN.out)
        have HML := Lib.hid hml; clear hml hT hs6
        have kA := has_below K01.out HBB.out hlA
        have e0 := has_cell kA 0 rfl; have e1 := has_cell kA 1 rfl; have e2 := has_cell kA 2 rfl
        have hlA2 := has_lt kA
        clear kA
        go_wp2_with fail
        refine (withI_any wr B w1.heap.size x.z x.F x.AF x.AB _ _ x.cF x.cB bp (gs1 ++ []) (P ++ []) rfl lf (by simp; omega) (by omega) (HV1.out.later (by omega) HBB.out).f HALL.out).mono ?_
        rintro e w4 ⟨A2, A3, c2, c3, rfl, hP, hQ', hb4⟩
        rw [List.append_nil, HML.out, ← HCO.out] at hQ' ⊢
        generalize hNL : clrO x.z x.F x.L = NL at *
        have HNL := Lib.hid hNL.symm; clear hNL
        clear e0 e1 e2
        have kR := has_call (has_below K11.out HBB.out (by have := has_lt K11.out; omega)) hb4
        have y0' := has_cell kR 0 rfl; have y1' := has_cell kR 1 rfl; have y2' := has_cell kR 2 rfl; have f0 := has_free kR 0; have f1 := has_free kR 1; have f2 := has_free kR 2
        have hlR := has_lt kR
        have X1 := Lib.hid (set3 (u := .int .i64 x.z) (v := .slice A2 x.F.length c2) (x := .slice A3 NL.length c3) kR)
        have hzz := hb4.size
        have hbel : Below w.heap.size w w4 := C1.out.trans ((HBB.out.mono (by omega)).trans (hb4.mono (by omega)))
        have FIN := Lib.hid (ans_finr0 (w.heap.size + 1) w1.heap.size hbel (by omega) (by omega) (hP.more (by omega)) (hQ'.more (by omega)) (.int .i64 x.z) (.slice A2 x.F.length c2) (.slice A3 NL.length c3))
        clear kR hP hQ' hbel
        go_wp2_with fail
        have g0' := has_cell X1.out 0 rfl
        have g1' := has_cell X1.out 1 rfl
        have g2' := has_cell X1.out 2 rfl
        exact bodyPost_ret (v := .agg #[.int .i64 x.z, .slice A2 x.F.length c2, .slice A3 NL.length c3]) (by simp [results, Try.results23, go_sem, g0', g1', g2']) rfl ⟨x.z, x.F, NL, A2, A3, c2, c3, rfl, ⟨rfl, rfl, HNL.out⟩, lf, by omega, FIN.out⟩
      · rw [List.map_cons] at hT
        obtain ⟨g2, gs3, rfl, rfl, hlo, hni, q2, hH2, hT2⟩ := hT.cons_inv
        have hln := tlLen_eq hT
        have hy := hs6 _ List.mem_cons_self
        have hs7 : ∀ y ∈ r, 1 ≤ y.size := fun y hy => hs6 y (List.mem_cons_of_mem _ hy)
        rw [sumZ_cons] at hs5
        have hsp := sumZ_pos hs7
        dsimp only at hy hs5
        obtain ⟨hn1, hn2, hn3⟩ := List.nodup_append.1 HNN.out
        have hg1 : g2 ∉ gs1 := fun hm => hn3 g2 hm g2 List.mem_cons_self rfl
        have HG1 := Lib.hid hg1
        have HS6 := Lib.hid hs7; have HT2 := Lib.hid hT2; have HH2 := Lib.hid hH2; have HLN := Lib.hid hln; have HNI := Lib.hid hni; have HN3 := Lib.hid hn3; have HN1 := Lib.hid hn1; clear hs6 hs7 hT hT2 hln hni hn1 hn2 hn3 hg1
        have hl2 := has_lt hH2
        have d5 : wr.cell? ⟨g2, 5, none⟩ = some (.pointer q2) := has_cell hH2 5 rfl
        clear hH2
        obtain ⟨op, hop⟩ : ∃ op, op = opn ⟨y0, y1, y2, y3⟩ := ⟨_, rfl⟩
        have HOP := Lib.hid hop; clear hop
        cases op
        · go_wp2_with (go_at_call 50; refine (isFree_any wr g2 ⟨y0, y1, y2, y3⟩ _ q2 HH2.out).mono ?_; rintro e w' ⟨rfl, hw⟩; rw [hw, ← HOP.out]; clear hw)
          go_roundw
          case rel =>
            refine ⟨P ++ [trOf x.F ⟨y0, y1, y2, y3⟩], r, gs1 ++ [g2], gs3, q2, rfl, TS.snoc rfl hlo HH2.out HTS.out, HT2.out, ?_, ?_, HS6.out, by omega, HBB.out⟩
            · rw [List.append_assoc]; exact HNN.out
            · rw [← HPR.out, clrL_shut HOP.out.symm, List.map_append]; simp [trOf]
          case measure =>
            have h1 := tlLen_eq HT2.out
            have h2 := HLN.out
            simp at h2
            simp [h1, h2]
        · go_wp2_with (go_at_call 50; refine (isFree_any wr g2 ⟨y0, y1, y2, y3⟩ _ q2 HH2.out).mono ?_; rintro e w' ⟨rfl, hw⟩; rw [hw, ← HOP.out]; clear hw)
          refine (tgap_any wr w1.heap.size g2 gs3 ⟨y0, y1, y2, y3⟩ _ q2 x.F r HH2.out HT2.out HS6.out hy (by dsimp only; omega)).mono ?_
          rintro e w' ⟨p3, rfl, hT3, n3, rfl⟩
          dsimp only
          have hz3 : wr.heap.size ≤ (wr.drewN n3).heap.size := Nat.le_refl _
          have HT3 := Lib.hid (hT3.kept (w' := wr.drewN n3) fun g _ cs hh => has_drewN hh n3); have HTS3 := Lib.hid (HTS.out.kept (w' := wr.drewN n3) fun g _ cs hh => has_drewN hh n3); have HB3 := Lib.hid (below_drewN HBB.out n3); have HH3 := Lib.hid (has_drewN HH2.out n3); clear hT3 d5
          generalize wr.drewN n3 = w3 at *
          have c1 : w3.cell? ⟨g2, 1, none⟩ = some (.int .i64 y1) := has_cell HH3.out 1 rfl
          have c5 : w3.cell? ⟨g2, 5, none⟩ = some (.pointer q2) := has_cell HH3.out 5 rfl
          have f1 := has_free HH3.out 1; have f5 := has_free HH3.out 5
          have hl3 := has_lt HH3.out
          have hgn : g2 ∉ gs3.drop (runN x.F r) := fun hm => HNI.out (List.mem_of_mem_drop hm)
          have X1 := Lib.hid (tier_set HH3.out (y1 + runZ x.F r) p3)
          have X2 := Lib.hid ((HT3.out.set hgn 1 (.int .i64 (y1 + runZ x.F r))).set hgn 5 (.pointer p3))
          have X3 := Lib.hid ((HTS3.out.set HG1.out 1 (.int .i64 (y1 + runZ x.F r))).set HG1.out 5 (.pointer p3))
          have X4 := Lib.hid ((HB3.out.setCell (p := ⟨g2, 1, none⟩) hlo (.int .i64 (y1 + runZ x.F r))).setCell (p := ⟨g2, 5, none⟩) hlo (.pointer p3))
          clear hgn
          go_upto_region 6 with (fail)
          generalize hX : (w3.setCell ⟨g2, 1, none⟩ (.int .i64 (y1 + runZ x.F r))).setCell ⟨g2, 5, none⟩ (.pointer p3) = w4 at *
          clear hX c1 c5 f1 f5
          have d5 : w4.cell? ⟨g2, 5, none⟩ = some (.pointer p3) := has_cell X1.out 5 rfl
          have hl4 := has_lt X1.out
          go_wp2
          go_roundw
          case rel =>
            refine ⟨P ++ [⟨⟨y0, y1 + runZ x.F r, y2, y3⟩, x.F.contains y0⟩], r.drop (runN x.F r), gs1 ++ [g2], gs3.drop (runN x.F r), p3, rfl, TS.snoc rfl hlo X1.out X3.out, X2.out, ?_, ?_, fun y hy => HS6.out y (List.mem_of_mem_drop hy), ?_, X4.out⟩
            · rw [List.append_assoc]
              have := HNN.out
              refine List.Nodup.sublist ?_ this
              exact (List.Sublist.refl gs1).append (List.Sublist.cons_cons g2 (List.drop_sublist _ _))
            · rw [← HPR.out, clrL_open HOP.out.symm, List.map_append]; simp
            · have := sumZ_drop HS6.out (runN x.F r); omega
          case measure =>
            have h1 := tlLen_eq X2.out
            have h2 := HLN.out
            simp at h2
            simp [h1, h2]
            try omega
end Go.Proofs.Ytodomhmadfnogaa
