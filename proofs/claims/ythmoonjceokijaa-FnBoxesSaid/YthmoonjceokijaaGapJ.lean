/- Chapter 2: the program's filled, Cleared. -/
import Derived.Test.YthmoonjceokijaaGapI
namespace Go.Proofs.Ythmoonjceokijaa
open Go.RowKit
set_option linter.unusedVariables false

theorem map_trx (F : List Int) (L : List Bx) : (L.map (trOf F)).map Tr.x = L := by
  rw [List.map_map]; conv => rhs; rw [← List.map_id L]
  rfl
theorem newB_eq (g : Gp) (p size : Int) : newB g p size = ⟨g.low, size, p, false⟩ :: restL g.low size g.size := rfl
theorem TS.only {w w' : World} {lo g : Nat} {q : Option Addr} {gs : List Nat} {p : Option Addr} {l : List Tr} (h : TS w lo q p gs l) (ho : Only w g w') (hg : g ∉ gs) : TS w' lo q p gs l :=
  h.kept fun g' hg' cs hh => (ho.block g' (has_lt hh) (fun e => hg (by have e' : g' = g := by injection e
                                                                       rw [← e']; exact hg'))).trans hh
theorem has_only {w w' : World} {g k : Nat} {t : TypeId} {cs : Array Value} (h : Has w k t cs) (ho : Only w g w') (hne : k ≠ g) : Has w' k t cs := (ho.block k (has_lt h) (fun e => hne (by injection e))).trans h

set_option maxRecDepth 100000 in
set_option maxHeartbeats 4000000 in
theorem filledI_any (w : World) (B : Nat) (x : Cl) (g0 g1 g2 p size : Int) (Q : List Bx) (y : Bx) (r : List Bx) (lf : x.F.length ≤ 1048576) (hB : B ≤ w.heap.size) (hV : CV w B x) (hok : ColOk x.z x.F x.L)
    (hL : x.L = Q ++ y :: r) (ho : opn y = true) (hg1 : g1 = y.low) (hg2 : g2 = y.size + runZ x.F r) (hQ : ∀ b ∈ Q, b.low < y.low) (hsz : 0 ≤ size) (hle : size ≤ g2) :
    Calls Try.prog 28 #[.agg #[.int .i64 x.z, .slice x.AF x.F.length x.cF, .slice x.AB x.L.length x.cB], .agg #[.int .i64 g0, .int .i64 g1, .int .i64 g2], .int .i64 p, .int .i64 size] w (ColAns0 x.z x.F (Q ++ newB ⟨g0, g1, g2⟩ p size ++ r.drop (runN x.F r)) w) := by
  obtain ⟨hcs, hc24, hcl⟩ := col_sum hok
  have hlow : ∀ b ∈ x.L, 0 ≤ b.low ∧ b.low ≤ 24 := fun b hb => by have := con_low (con_all hok.box) b hb; omega
  have HV := Lib.hid hV; have HL := Lib.hid hL; have HO := Lib.hid ho; have HQ := Lib.hid hQ; have HG := Lib.hid (And.intro hg1 hg2); have HCS := Lib.hid hcs; have HLW := Lib.hid hlow
  clear hV hL ho hQ hok hcs hlow hg1 hg2
  go_enter Try.func28, Try.ntmps28
  go_wp2_with fail
  generalize hW0 : (((w.alloc (.cells #[.int .i64 x.z, .slice x.AF x.F.length x.cF, .slice x.AB x.L.length x.cB] 27)).alloc (.cells #[.int .i64 g0, .int .i64 g1, .int .i64 g2] 36)).alloc (.cells #[.int .i64 0, .slice none 0 0, .slice none 0 0] 27)) = w0
  have b0 : Below w.heap.size w w0 := by rw [← hW0]; exact bthen (bthen (balloc _ _) (balloc _ _)) (balloc _ _)
  have hs0 : w.heap.size + 3 ≤ w0.heap.size := by rw [← hW0]; simp
  have k0 : Has w0 w.heap.size 27 #[.int .i64 x.z, .slice x.AF x.F.length x.cF, .slice x.AB x.L.length x.cB] := by rw [← hW0]; exact has_alloc (has_alloc (has_new _ _ _) _) _
  have k1 : Has w0 (w.heap.size + 1) 36 #[.int .i64 g0, .int .i64 g1, .int .i64 g2] := by rw [← hW0]; have := has_alloc (has_new (w.alloc (.cells #[.int .i64 x.z, .slice x.AF x.F.length x.cF, .slice x.AB x.L.length x.cB] 27)) 36 #[.int .i64 g0, .int .i64 g1, .int .i64 g2]) (.cells #[.int .i64 0, .slice none 0 0, .slice none 0 0] 27); simpa using this
  have k2 : Has w0 (w.heap.size + 2) 27 #[.int .i64 0, .slice none 0 0, .slice none 0 0] := by rw [← hW0]; have := has_new ((w.alloc (.cells #[.int .i64 x.z, .slice x.AF x.F.length x.cF, .slice x.AB x.L.length x.cB] 27)).alloc (.cells #[.int .i64 g0, .int .i64 g1, .int .i64 g2] 36)) 27 #[.int .i64 0, .slice none 0 0, .slice none 0 0]; simpa using this
  clear hW0
  have K0 := Lib.hid k0; have K1 := Lib.hid k1; have K2 := Lib.hid k2; clear k0 k1 k2
  refine (stack_any w0 B x (by omega) (HV.out.later hB b0)).mono ?_
  rintro e w1 ⟨bp, gs, rfl, hT, hb1⟩
  have BB := Lib.hid b0; have B1 := Lib.hid hb1; have HT := Lib.hid hT; clear b0 hT
  have hz1 := hb1.size
  clear hb1
  go_wp2_with fail
  go_loopw [10] (fun tv wr => ∃ (P S : List Bx) (gs1 gs2 : List Nat) (q : Option Addr), tv = .pointer q ∧ Q = P ++ S ∧ TS wr w0.heap.size q bp gs1 (P.map (trOf x.F)) ∧ TL wr w0.heap.size q gs2 ((S ++ y :: r).map (trOf x.F)) ∧ gs = gs1 ++ gs2 ∧ Below w1.heap.size w1 wr) (fun tv wr => tlLen wr tv)
  case atStart => exact ⟨[], Q, [], gs, bp, rfl, rfl, rfl, by rw [← HL.out]; exact HT.out, rfl, Below.refl _ _⟩
  case round =>
    obtain ⟨P, S, gs1, gs2, q, rfl, hPS, hTS, hT, hgs, hb⟩ := hrel
    have hszr := hb.size
    have HBB := Lib.hid (B1.out.trans (hb.mono hz1)); have HRB := Lib.hid hb; clear hb
    have HPS := Lib.hid hPS; have HTS := Lib.hid hTS; have HGS := Lib.hid hgs; clear hPS hTS hgs
    have kG := has_call K1.out HBB.out
    have q1 := has_cell kG 1 rfl
    have hlG := has_lt kG
    clear kG
    rcases S with _ | ⟨⟨s0, s1, s2, s3⟩, S'⟩
    · -- the gap's lowest box
      obtain ⟨y0, y1, y2, y3⟩ := y
      rw [List.nil_append, List.map_cons] at hT
      obtain ⟨g3, gs3, rfl, rfl, hlo, hni, q3, hH3, hT3⟩ := hT.cons_inv
      have hnd := (HT.out).nodup
      have HT3 := Lib.hid hT3; have HH3 := Lib.hid hH3; have HNI := Lib.hid hni; have HND := Lib.hid hnd; clear hT hT3 hni hnd
      have hl3 := has_lt hH3
      have d0 : wr.cell? ⟨g3, 0, none⟩ = some (.int .i64 y0) := has_cell hH3 0 rfl
      clear hH3
      have t1 : (y0 != g1) = false := by have := HG.out.1; simp [this]
      go_wp2
      go_quiet (fail)
      have kA := has_drewN (has_call K0.out HBB.out) nq
      have HH4 := Lib.hid (has_drewN HH3.out nq); have HT4 := Lib.hid (HT3.out.kept (w' := wr.drewN nq) fun g _ cs hh => has_drewN hh nq); have HTS4 := Lib.hid (HTS.out.kept (w' := wr.drewN nq) fun g _ cs hh => has_drewN hh nq); have HB4 := Lib.hid (below_drewN HBB.out nq)
      have hz4 : w0.heap.size ≤ (wr.drewN nq).heap.size := by show w0.heap.size ≤ wr.heap.size; omega
      have hl4 := has_lt HH4.out
      have HKA := Lib.hid kA; clear kA HH3 HT3 HTS HBB d0 q1
      generalize wr.drewN nq = w2 at *
      have hQP : Q = P := by have := HPS.out; simpa using this
      have hsum : y1 + sumZ r ≤ 24 ∧ 1 ≤ y1 ∧ (∀ b ∈ r, 1 ≤ b.size) ∧ 0 ≤ y0 ∧ y0 ≤ 24 := by
        have h1 := sumZ_app Q (⟨y0, y1, y2, y3⟩ :: r)
        rw [← HL.out, sumZ_cons] at h1
        have h2 := sumZ_pos (L := Q) fun b hb => HCS.out b (by rw [HL.out]; exact List.mem_append_left _ hb)
        have h3 := HLW.out ⟨y0, y1, y2, y3⟩ (by rw [HL.out]; simp)
        exact ⟨by dsimp only at h1; omega, HCS.out ⟨y0, y1, y2, y3⟩ (by rw [HL.out]; simp), fun b hb => HCS.out b (by rw [HL.out]; simp [hb]), h3.1, h3.2⟩
      obtain ⟨hsu1, hsu2, hsu3, hsu4, hsu5⟩ := hsum
      have HSU := Lib.hid hsu3; have HQP := Lib.hid hQP; clear hsu3 hQP
      have hle2 : size ≤ y1 + runZ x.F r := by have := HG.out.2; omega
      go_wp2_with fail
      refine (fill_any w2 w0.heap.size g3 gs3 ⟨y0, y1, y2, y3⟩ _ q3 x.F r p size HH4.out HT4.out hz4 HNI.out HSU.out hsu2 hsu1 hsz hle2 hsu4 hsu5).mono ?_
      rintro e w3 ⟨m, gs', l', rfl, hg3, hT', hl', hsub, honly⟩
      have hlo3 := (HT4.out.lt)
      have hne3 : w.heap.size ≠ g3 := by omega
      have hz3 := honly.size
      have kA3 := has_only HKA.out honly hne3
      have e0 := has_cell kA3 0 rfl; have e1 := has_cell kA3 1 rfl; have e2 := has_cell kA3 2 rfl
      have hlA := has_lt kA3
      have hgn : g3 ∉ gs' := fun hm => by
        rcases hsub g3 hm with h | h
        · exact HNI.out h
        · omega
      have hnd := HND.out
      rw [HGS.out] at hnd
      obtain ⟨hn1, hn2, hn3⟩ := List.nodup_append.1 hnd
      have hg1 : g3 ∉ gs1 := fun hm => hn3 g3 hm g3 List.mem_cons_self rfl
      have hTS3 : TS w3 w0.heap.size (some ⟨g3, 0, none⟩) bp gs1 (P.map (trOf x.F)) := HTS4.out.only honly hg1
      have htl : TL w3 w0.heap.size (some ⟨g3, 0, none⟩) (g3 :: gs') (⟨⟨y0, size, p, y3⟩, x.F.contains y0⟩ :: l') := ⟨rfl, hlo, hgn, m, hg3, hT'⟩
      have hndd : (gs1 ++ g3 :: gs').Nodup := List.nodup_append.2 ⟨hn1, List.nodup_cons.2 ⟨hgn, hT'.nodup⟩, fun a ha b hb => by
        rcases List.mem_cons.1 hb with e | e
        · subst e; exact fun h => hg1 (h ▸ ha)
        · rcases hsub b e with h | h
          · exact hn3 a ha b (List.mem_cons_of_mem _ h)
          · intro h'; have := (HTS4.out.lt a ha).2; omega⟩
      have HALL := Lib.hid (hTS3.tl htl hndd)
      have hll : (P.map (trOf x.F) ++ ⟨⟨y0, size, p, y3⟩, x.F.contains y0⟩ :: l').map Tr.x = Q ++ newB ⟨g0, g1, g2⟩ p size ++ r.drop (runN x.F r) := by
        rw [List.map_append, map_trx, List.map_cons, hl', newB_eq, HQP.out]
        have h1 := (opn_zero HO.out).2
        have h2 := HG.out.1
        have h3 := HG.out.2
        dsimp only at h1 h2 h3 ⊢
        subst h1; rw [h2, h3]; simp
      have hlen : (P.map (trOf x.F) ++ (⟨⟨y0, size, p, y3⟩, x.F.contains y0⟩ : Tr) :: l').length ≤ 1048576 := by
        have h1 := congrArg List.length hl'
        have h2 := congrArg List.length HL.out
        have h3 : (restL y0 size (y1 + runZ x.F r)).length ≤ 1 := by unfold restL; split <;> simp
        have h4 := congrArg List.length HQP.out
        simp only [List.length_map, List.length_append, List.length_cons, List.length_drop] at h1 h2 ⊢
        omega
      have HLL := Lib.hid hll; clear hll
      generalize hLT : P.map (trOf x.F) ++ (⟨⟨y0, size, p, y3⟩, x.F.contains y0⟩ : Tr) :: l' = LT at *
      have hbw3 : Below w0.heap.size w0 w3 := ⟨honly.os.trans HB4.out.os, honly.tape.trans HB4.out.tape, honly.output.trans HB4.out.output, Nat.le_trans HB4.out.size hz3, fun k hk => (honly.block k (Nat.lt_of_lt_of_le hk hz4) (fun e => by injection e; omega)).trans (HB4.out.block k hk)⟩
      have HF3 := Lib.hid ((HV.out.later hB BB.out).f.below (hbw3.mono (by omega)))
      have HBW := Lib.hid hbw3
      have HKA3 := Lib.hid kA3
      clear hLT htl hndd hTS3 hn1 hn2 hn3 hnd hg1 hgn hg3 hT' hl' hsub honly kA3 hlo3
      go_wp2_with fail
      refine (withI_any w3 B w0.heap.size x.z x.F x.AF x.AB _ _ x.cF x.cB bp (gs1 ++ g3 :: gs') LT rfl lf hlen (by omega) HF3.out HALL.out).mono ?_
      rintro e w4 ⟨A2, A3, c2, c3, rfl, hP, hQ', hb4⟩
      rw [HLL.out] at hQ' ⊢
      generalize hNL : Q ++ newB ⟨g0, g1, g2⟩ p size ++ r.drop (runN x.F r) = NL at *
      clear e0 e1 e2 hNL
      have kR := has_call (has_below K2.out HBW.out (by omega)) hb4
      have y0' := has_cell kR 0 rfl; have y1' := has_cell kR 1 rfl; have y2' := has_cell kR 2 rfl; have f0 := has_free kR 0; have f1 := has_free kR 1; have f2 := has_free kR 2
      have hlR := has_lt kR
      have X1 := Lib.hid (set3 (u := .int .i64 x.z) (v := .slice A2 x.F.length c2) (x := .slice A3 NL.length c3) kR)
      have hzz := hb4.size
      have hbel : Below w.heap.size w w4 := BB.out.trans ((HBW.out.mono (by omega)).trans (hb4.mono (by omega)))
      have FIN := Lib.hid (ans_finr0 (w.heap.size + 2) w0.heap.size hbel (by omega) (by omega) (hP.more (by omega)) (hQ'.more (by omega)) (.int .i64 x.z) (.slice A2 x.F.length c2) (.slice A3 NL.length c3))
      clear kR hP hQ' hbel
      go_wp2_with fail
      have g0' := has_cell X1.out 0 rfl
      have g1' := has_cell X1.out 1 rfl
      have g2' := has_cell X1.out 2 rfl
      exact bodyPost_ret (v := .agg #[.int .i64 x.z, .slice A2 x.F.length c2, .slice A3 NL.length c3]) (by simp [results, Try.results28, go_sem, g0', g1', g2']) rfl ⟨A2, A3, c2, c3, rfl, FIN.out⟩
    · rw [List.cons_append, List.map_cons] at hT
      obtain ⟨g3, gs3, rfl, rfl, hlo, hni, q3, hH3, hT3⟩ := hT.cons_inv
      have hln := tlLen_eq hT
      have HT3 := Lib.hid hT3; have HH3 := Lib.hid hH3; have HLN := Lib.hid hln; have HLO := Lib.hid hlo; clear hT hT3 hni hln
      have hl3 := has_lt hH3
      have d0 : wr.cell? ⟨g3, 0, none⟩ = some (.int .i64 s0) := has_cell hH3 0 rfl
      clear hH3
      have hlt : s0 < y.low := HQ.out ⟨s0, s1, s2, s3⟩ (by rw [HPS.out]; simp)
      have t1 : (s0 != g1) = true := by have := HG.out.1; simp; omega
      clear hlt
      go_wp2
      go_quiet (fail)
      have HH4 := Lib.hid (has_drewN HH3.out nq); have HT4 := Lib.hid (HT3.out.kept (w' := wr.drewN nq) fun g _ cs hh => has_drewN hh nq); have HTS4 := Lib.hid (HTS.out.kept (w' := wr.drewN nq) fun g _ cs hh => has_drewN hh nq); have HB4 := Lib.hid (below_drewN HRB.out nq)
      have hl4 := has_lt HH4.out
      have d5 : (wr.drewN nq).cell? ⟨g3, 5, none⟩ = some (.pointer q3) := has_cell HH4.out 5 rfl
      go_wp2
      go_roundw
      case rel => exact ⟨P ++ [⟨s0, s1, s2, s3⟩], S', gs1 ++ [g3], gs3, q3, rfl, by rw [HPS.out]; simp, by rw [List.map_append]; exact TS.snoc rfl HLO.out HH4.out HTS4.out, HT4.out, by rw [HGS.out]; simp, HB4.out⟩
      case measure =>
        have h1 := tlLen_eq HT4.out
        have h2 := HLN.out
        simp at h2
        simp [h1, h2]

noncomputable def clrO (z : Int) (F : List Int) (L : List Bx) : List Bx := by
  classical exact if ColOk z F L then clrL F L else L
theorem clrO_ok {z : Int} {F : List Int} {L : List Bx} (h : ColOk z F L) : clrO z F L = clrL F L := by unfold clrO; exact if_pos h
theorem clrO_no {z : Int} {F : List Int} {L : List Bx} (h : ¬ ColOk z F L) : clrO z F L = L := by unfold clrO; exact if_neg h
theorem clrC_len (F : List Int) : ∀ (L : List Bx) (cur : Option Bx), (clrC F cur L).length ≤ cur.toList.length + L.length
  | [], cur => by simp [clrC]
  | x :: r, cur => by
    unfold clrC
    split
    · split
      · have := clrC_len F r (some x); simp at this ⊢; omega
      · split
        · have := clrC_len F r (some x); simp at this ⊢; omega
        · rename_i b _; have := clrC_len F r (some ⟨b.low, b.size + x.size, b.par, b.jam⟩); simp at this ⊢; omega
    · have := clrC_len F r none; simp at this ⊢; omega
theorem clrO_len (z : Int) (F : List Int) (L : List Bx) : (clrO z F L).length ≤ L.length := by
  by_cases h : ColOk z F L
  · rw [clrO_ok h]; have := clrC_len F L none; simpa [clrL] using this
  · rw [clrO_no h]; exact Nat.le_refl _
def clrR (z : Int) (F : List Int) (L : List Bx) (z' : Int) (F' : List Int) (L' : List Bx) : Prop := z' = z ∧ F' = F ∧ L' = clrO z F L
theorem clr_det {z : Int} {F : List Int} {L : List Bx} {z1 z2 : Int} {F1 F2 : List Int} {L1 L2 : List Bx} (h1 : clrR z F L z1 F1 L1) (h2 : clrR z F L z2 F2 L2) : z1 = z2 ∧ F1 = F2 ∧ L1 = L2 :=
  ⟨h1.1.trans h2.1.symm, h1.2.1.trans h2.2.1.symm, h1.2.2.trans h2.2.2.symm⟩
/-- the answer is a column of the call's own, of which R holds -/
def ColAnsN (R : Int → List Int → List Bx → Prop) (w : World) (e : Ending) (w' : World) : Prop :=
  ∃ z' F' L' A2 A3 n2 n3, e = .returned (.agg #[.int .i64 z', .slice A2 F'.length n2, .slice A3 L'.length n3]) ∧ R z' F' L' ∧ F'.length ≤ 1048576 ∧ L'.length ≤ 1048576 ∧ OR w' w.heap.size 3 A2 (intV F') ∧ OR w' w.heap.size 47 A3 (boxV L') ∧ Below w.heap.size w w'

set_option maxRecDepth 100000 in
set_option maxHeartbeats 4000000 in
theorem clrI_any (w : World) (B : Nat) (x : Cl) (lf : x.F.length ≤ 1048576) (lb : x.L.length ≤ 1048576) (hB : B ≤ w.heap.size) (hV : CV w B x) :
    Calls Try.prog 17 #[.agg #[.int .i64 x.z, .slice x.AF x.F.length x.cF, .slice x.AB x.L.length x.cB]] w (ColAnsN (clrR x.z x.F x.L) w) := by
  have HV := Lib.hid hV; clear hV
  have hcl := clrO_len x.z x.F x.L
  go_enter Try.func17, Try.ntmps17
  go_wp2_with fail
  generalize hW0 : ((w.alloc (.cells #[.int .i64 x.z, .slice x.AF x.F.length x.cF, .slice x.AB x.L.length x.cB] 27)).alloc (.cells #[.int .i64 0, .slice none 0 0, .slice none 0 0] 27)) = w0
  have b0 : Below w.heap.size w w0 := by rw [← hW0]; exact bthen (balloc _ _) (balloc _ _)
  have hs0 : w.heap.size + 2 ≤ w0.heap.size := by rw [← hW0]; simp
  have k0 : Has w0 w.heap.size 27 #[.int .i64 x.z, .slice x.AF x.F.length x.cF, .slice x.AB x.L.length x.cB] := by rw [← hW0]; exact has_alloc (has_new _ _ _) _
  have k1 : Has w0 (w.heap.size + 1) 27 #[.int .i64 0, .slice none 0 0, .slice none 0 0] := by rw [← hW0]; have := has_new (w.alloc (.cells #[.int .i64 x.z, .slice x.AF x.F.length x.cF, .slice x.AB x.L.length x.cB] 27)) 27 #[.int .i64 0, .slice none 0 0, .slice none 0 0]; simpa using this
  clear hW0
  have K0 := Lib.hid k0; have K1 := Lib.hid k1; clear k0 k1
  refine (colI_any w0 B x (by omega) (HV.out.later hB b0)).mono ?_
  rintro e w1 ⟨qb, rfl, hq, hb1⟩
  have c1 := bthen b0 hb1
  have hz1 := hb1.size
  have k01 := has_call K0.out hb1
  have e0 := has_cell k01 0 rfl; have e1 := has_cell k01 1 rfl; have e2 := has_cell k01 2 rfl
  have hlA := has_lt k01
  have HQ := Lib.hid hq; have K01 := Lib.hid k01; have K11 := Lib.hid (has_call K1.out hb1); have C1 := Lib.hid c1; clear hq k01 c1 b0
  cases qb
  · have hne : ¬ ColOk x.z x.F x.L := fun g => by have := HQ.out.2 g; simp at this
    have HNE := Lib.hid hne; clear hne hb1
    go_wp2_with fail
    refine (copyI_any w1 B x lf lb (by omega) (HV.out.later hB C1.out)).mono ?_
    rintro e w2 ⟨A2, A3, n2, n3, rfl, hP, hQ, hb2⟩
    have kR := has_call K11.out hb2
    have y0' := has_cell kR 0 rfl; have y1' := has_cell kR 1 rfl; have y2' := has_cell kR 2 rfl; have f0 := has_free kR 0; have f1 := has_free kR 1; have f2 := has_free kR 2
    have hlR := has_lt kR
    have X1 := Lib.hid (set3 (u := .int .i64 x.z) (v := .slice A2 x.F.length n2) (x := .slice A3 x.L.length n3) kR)
    have hbel := bthen C1.out hb2
    have FIN := Lib.hid (ans_finr0 (w.heap.size + 1) (w.heap.size + 2) hbel (by omega) (by omega) (hP.more (by omega)) (hQ.more (by omega)) (.int .i64 x.z) (.slice A2 x.F.length n2) (.slice A3 x.L.length n3))
    clear kR hP hQ hbel e0 e1 e2 hb2
    go_wp2_with fail
    have g0' := has_cell X1.out 0 rfl
    have g1' := has_cell X1.out 1 rfl
    have g2' := has_cell X1.out 2 rfl
    exact bodyPost_ret (v := .agg #[.int .i64 x.z, .slice A2 x.F.length n2, .slice A3 x.L.length n3]) (by simp [results, Try.results17, go_sem, g0', g1', g2']) rfl ⟨x.z, x.F, x.L, A2, A3, n2, n3, rfl, ⟨rfl, rfl, (clrO_no HNE.out).symm⟩, lf, lb, FIN.out⟩
  · have hok := HQ.out.1 rfl
    obtain ⟨hcs, hc24, hcl24⟩ := col_sum hok
    have hco := clrO_ok hok
    have HCS := Lib.hid hcs; have HCO := Lib.hid hco; clear hcs hco hok HQ
    have HV1 := Lib.hid (HV.out.later hB C1.out)
    clear hb1
    go_wp2_with fail
    refine (stack_any w1 B x (by omega) HV1.out).mono ?_
    rintro e w2 ⟨bp, gs, rfl, hT, hb2⟩
    have hz2 := hb2.size
    have HT := Lib.hid hT; have B2 := Lib.hid hb2; have HND := Lib.hid hT.nodup; clear hT hb2 e0 e1 e2
    go_wp2_with fail
    go_loopw [4] (fun tv wr => ∃ (P : List Tr) (R : List Bx) (gs1 gs2 : List Nat) (q : Option Addr), tv = .pointer q ∧ TS wr w1.heap.size q bp gs1 P ∧ TL wr w1.heap.size q gs2 (R.map (trOf x.F)) ∧ (gs1 ++ gs2).Nodup ∧ P.map Tr.x ++ clrL x.F R = clrL x.F x.L ∧ (∀ y ∈ R, 1 ≤ y.size) ∧ sumZ R ≤ 24 ∧ Below w1.heap.size w1 wr) (fun tv wr => tlLen wr tv)
    case atStart => exact ⟨[], x.L, [], gs, bp, rfl, rfl, HT.out, HND.out, rfl, HCS.out, hc24, B2.out⟩
    case round =>
      obtain ⟨P, R, gs1, gs2, q, rfl, hTS, hT, hnd, hPR, hs6, hs5, hb⟩ := hrel
      have HTS := Lib.hid hTS; have HNN := Lib.hid hnd; have HPR := Lib.hid hPR; have HBB := Lib.hid hb; clear hTS hnd hPR
      have hszr := hb.size
      clear hb
      rcases R with _ | ⟨⟨y0, y1, y2, y3⟩, r⟩
      · obtain ⟨rfl, rfl⟩ := hT.nil_inv
        have hml : P.map Tr.x = clrL x.F x.L := by have := HPR.out; simpa [clrL, clrC] using this
        have hPl : P.length ≤ 24 := by have h1 := congrArg List.length hml; have h2 := HCO.out; rw [← h2] at h1; simp at h1; omega
        have HALL := Lib.hid (HTS.out.tl (w := wr) (lo := w1.heap.size) (q := none) (gs2 := []) (l2 := []) rfl HNN.out)
        have HML := Lib.hid hml; clear hml hT hs6
        have kA := has_below K01.out HBB.out hlA
        have e0 := has_cell kA 0 rfl; have e1 := has_cell kA 1 rfl; have e2 := has_cell kA 2 rfl
        have hlA2 := has_lt kA
        clear kA
        go_wp2_with fail
        refine (withI_any wr B w1.heap.size x.z x.F x.AF x.AB _ _ x.cF x.cB bp (gs1 ++ []) (P ++ []) rfl lf (by simp; omega) (by omega) (HV1.out.later (by omega) HBB.out).f HALL.out).mono ?_
        rintro e w4 ⟨A2, A3, c2, c3, rfl, hP, hQ', hb4⟩
        rw [List.append_nil, HML.out, ← HCO.out] at hQ' ⊢
        generalize hNL : clrO x.z x.F x.L = NL at *
        have HNL := Lib.hid hNL.symm; clear hNL
        clear e0 e1 e2
        have kR := has_call (has_below K11.out HBB.out (by have := has_lt K11.out; omega)) hb4
        have y0' := has_cell kR 0 rfl; have y1' := has_cell kR 1 rfl; have y2' := has_cell kR 2 rfl; have f0 := has_free kR 0; have f1 := has_free kR 1; have f2 := has_free kR 2
        have hlR := has_lt kR
        have X1 := Lib.hid (set3 (u := .int .i64 x.z) (v := .slice A2 x.F.length c2) (x := .slice A3 NL.length c3) kR)
        have hzz := hb4.size
        have hbel : Below w.heap.size w w4 := C1.out.trans ((HBB.out.mono (by omega)).trans (hb4.mono (by omega)))
        have FIN := Lib.hid (ans_finr0 (w.heap.size + 1) w1.heap.size hbel (by omega) (by omega) (hP.more (by omega)) (hQ'.more (by omega)) (.int .i64 x.z) (.slice A2 x.F.length c2) (.slice A3 NL.length c3))
        clear kR hP hQ' hbel
        go_wp2_with fail
        have g0' := has_cell X1.out 0 rfl
        have g1' := has_cell X1.out 1 rfl
        have g2' := has_cell X1.out 2 rfl
        exact bodyPost_ret (v := .agg #[.int .i64 x.z, .slice A2 x.F.length c2, .slice A3 NL.length c3]) (by simp [results, Try.results17, go_sem, g0', g1', g2']) rfl ⟨x.z, x.F, NL, A2, A3, c2, c3, rfl, ⟨rfl, rfl, HNL.out⟩, lf, by omega, FIN.out⟩
      · rw [List.map_cons] at hT
        obtain ⟨g2, gs3, rfl, rfl, hlo, hni, q2, hH2, hT2⟩ := hT.cons_inv
        have hln := tlLen_eq hT
        have hy := hs6 _ List.mem_cons_self
        have hs7 : ∀ y ∈ r, 1 ≤ y.size := fun y hy => hs6 y (List.mem_cons_of_mem _ hy)
        rw [sumZ_cons] at hs5
        have hsp := sumZ_pos hs7
        dsimp only at hy hs5
        obtain ⟨hn1, hn2, hn3⟩ := List.nodup_append.1 HNN.out
        have hg1 : g2 ∉ gs1 := fun hm => hn3 g2 hm g2 List.mem_cons_self rfl
        have HG1 := Lib.hid hg1
        have HS6 := Lib.hid hs7; have HT2 := Lib.hid hT2; have HH2 := Lib.hid hH2; have HLN := Lib.hid hln; have HNI := Lib.hid hni; have HN3 := Lib.hid hn3; have HN1 := Lib.hid hn1; clear hs6 hs7 hT hT2 hln hni hn1 hn2 hn3 hg1
        have hl2 := has_lt hH2
        have d5 : wr.cell? ⟨g2, 5, none⟩ = some (.pointer q2) := has_cell hH2 5 rfl
        clear hH2
        obtain ⟨op, hop⟩ : ∃ op, op = opn ⟨y0, y1, y2, y3⟩ := ⟨_, rfl⟩
        have HOP := Lib.hid hop; clear hop
        cases op
        · go_wp2_with (go_at_call 44; refine (isFree_any wr g2 ⟨y0, y1, y2, y3⟩ _ q2 HH2.out).mono ?_; rintro e w' ⟨rfl, hw⟩; rw [hw, ← HOP.out]; clear hw)
          go_roundw
          case rel =>
            refine ⟨P ++ [trOf x.F ⟨y0, y1, y2, y3⟩], r, gs1 ++ [g2], gs3, q2, rfl, TS.snoc rfl hlo HH2.out HTS.out, HT2.out, ?_, ?_, HS6.out, by omega, HBB.out⟩
            · rw [List.append_assoc]; exact HNN.out
            · rw [← HPR.out, clrL_shut HOP.out.symm, List.map_append]; simp [trOf]
          case measure =>
            have h1 := tlLen_eq HT2.out
            have h2 := HLN.out
            simp at h2
            simp [h1, h2]
        · go_wp2_with (go_at_call 44; refine (isFree_any wr g2 ⟨y0, y1, y2, y3⟩ _ q2 HH2.out).mono ?_; rintro e w' ⟨rfl, hw⟩; rw [hw, ← HOP.out]; clear hw)
          refine (tgap_any wr w1.heap.size g2 gs3 ⟨y0, y1, y2, y3⟩ _ q2 x.F r HH2.out HT2.out HS6.out hy (by dsimp only; omega)).mono ?_
          rintro e w' ⟨p3, rfl, hT3, n3, rfl⟩
          dsimp only
          have hz3 : wr.heap.size ≤ (wr.drewN n3).heap.size := Nat.le_refl _
          have HT3 := Lib.hid (hT3.kept (w' := wr.drewN n3) fun g _ cs hh => has_drewN hh n3); have HTS3 := Lib.hid (HTS.out.kept (w' := wr.drewN n3) fun g _ cs hh => has_drewN hh n3); have HB3 := Lib.hid (below_drewN HBB.out n3); have HH3 := Lib.hid (has_drewN HH2.out n3); clear hT3 d5
          generalize wr.drewN n3 = w3 at *
          have c1 : w3.cell? ⟨g2, 1, none⟩ = some (.int .i64 y1) := has_cell HH3.out 1 rfl
          have c5 : w3.cell? ⟨g2, 5, none⟩ = some (.pointer q2) := has_cell HH3.out 5 rfl
          have f1 := has_free HH3.out 1; have f5 := has_free HH3.out 5
          have hl3 := has_lt HH3.out
          have hgn : g2 ∉ gs3.drop (runN x.F r) := fun hm => HNI.out (List.mem_of_mem_drop hm)
          have X1 := Lib.hid (tier_set HH3.out (y1 + runZ x.F r) p3)
          have X2 := Lib.hid ((HT3.out.set hgn 1 (.int .i64 (y1 + runZ x.F r))).set hgn 5 (.pointer p3))
          have X3 := Lib.hid ((HTS3.out.set HG1.out 1 (.int .i64 (y1 + runZ x.F r))).set HG1.out 5 (.pointer p3))
          have X4 := Lib.hid ((HB3.out.setCell (p := ⟨g2, 1, none⟩) hlo (.int .i64 (y1 + runZ x.F r))).setCell (p := ⟨g2, 5, none⟩) hlo (.pointer p3))
          clear hgn
          go_upto_region 6 with (fail)
          generalize hX : (w3.setCell ⟨g2, 1, none⟩ (.int .i64 (y1 + runZ x.F r))).setCell ⟨g2, 5, none⟩ (.pointer p3) = w4 at *
          clear hX c1 c5 f1 f5
          have d5 : w4.cell? ⟨g2, 5, none⟩ = some (.pointer p3) := has_cell X1.out 5 rfl
          have hl4 := has_lt X1.out
          go_wp2
          go_roundw
          case rel =>
            refine ⟨P ++ [⟨⟨y0, y1 + runZ x.F r, y2, y3⟩, x.F.contains y0⟩], r.drop (runN x.F r), gs1 ++ [g2], gs3.drop (runN x.F r), p3, rfl, TS.snoc rfl hlo X1.out X3.out, X2.out, ?_, ?_, fun y hy => HS6.out y (List.mem_of_mem_drop hy), ?_, X4.out⟩
            · rw [List.append_assoc]
              have := HNN.out
              refine List.Nodup.sublist ?_ this
              exact (List.Sublist.refl gs1).append (List.Sublist.cons_cons g2 (List.drop_sublist _ _))
            · rw [← HPR.out, clrL_open HOP.out.symm, List.map_append]; simp
            · have := sumZ_drop HS6.out (runN x.F r); omega
          case measure =>
            have h1 := tlLen_eq X2.out
            have h2 := HLN.out
            simp at h2
            simp [h1, h2]
            try omega
end Go.Proofs.Ythmoonjceokijaa
