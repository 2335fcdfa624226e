/- Chapter 7: the laws' own helpers over rounds: copies, comparisons, marks (gen_touh.py). -/
import Derived.Test.YtjcmndbjpbnogaaTouE
import Derived.Deep.RegionHeld3
import Derived.Deep.DeepMust
import Derived.WalkLawsBesides
namespace Go.Proofs.Ytjcmndbjpbnogaa
open Go.RowKit
set_option linter.unusedVariables false

/-- a copy of a round's lists, in blocks of its own from lo to hi -/
structure RdCo (w : World) (lo hi : Nat) (AL : Option Addr) (R : List Rw) (AS : Option Addr) (S : List Sp) : Prop where
  rows : R = [] ∨ ∃ (g : Nat) (cs : Array Value), AL = some ⟨g, 0, none⟩ ∧ lo ≤ g ∧ g < hi ∧ Has w g 27 cs ∧ ∀ (j : Nat) (x : Rw), R[j]? = some x → cs[j]? = some (.slice x.A x.l.length x.c)
  vals : ∀ x ∈ R, OI w lo hi 3 x.A (intV x.l)
  stops : OI w lo hi 60 AS (spV S)
theorem RdCo.within {w w' : World} {lo hi a b : Nat} {AL AS : Option Addr} {R : List Rw} {S : List Sp} (h : RdCo w lo hi AL R AS S) (hw : Within a b w w') (ho : hi ≤ a ∨ b ≤ lo) : RdCo w' lo hi AL R AS S := by
  refine ⟨?_, fun x hx => hw.oi (h.vals x hx) (by omega), hw.oi h.stops (by omega)⟩
  rcases h.rows with h1 | ⟨g, cs, e, h2, h3, h4, h5⟩
  · exact .inl h1
  · exact .inr ⟨g, cs, e, h2, h3, hw.has h4 (by omega), h5⟩
theorem RdCo.call {w w' : World} {lo hi : Nat} {AL AS : Option Addr} {R : List Rw} {S : List Sp} (h : RdCo w lo hi AL R AS S) (hb : Below w.heap.size w w') : RdCo w' lo hi AL R AS S := by
  refine ⟨?_, fun x hx => (h.vals x hx).call hb, h.stops.call hb⟩
  rcases h.rows with h1 | ⟨g, cs, e, h2, h3, h4, h5⟩
  · exact .inl h1
  · exact .inr ⟨g, cs, e, h2, h3, has_call h4 hb, h5⟩
theorem RdCo.in_ {w : World} {lo hi : Nat} {AL AS : Option Addr} {R : List Rw} {S : List Sp} (h : RdCo w lo hi AL R AS S) (hs : SmallRd R S) : RdIn w w.heap.size AL R AS S := by
  unfold SmallRd at hs
  refine ⟨?_, fun x hx => ⟨(h.vals x hx).il, ?_⟩, h.stops.sp, by unfold maxLen; omega, by unfold maxLen; omega⟩
  · rcases h.rows with h1 | ⟨g, cs, rfl, h2, h3, h4, h5⟩
    · exact .inl h1
    · exact .inr ⟨g, 0, rfl, has_lt h4, fun k x hx => by rw [Nat.zero_add]; exact has_cell h4 k (h5 k x hx)⟩
  · have := totR_mem (G := gOf R) (List.mem_map_of_mem (f := Rw.l) hx)
    unfold maxLen; omega
theorem RdCo.wider {w : World} {lo hi lo' hi' : Nat} {AL AS : Option Addr} {R : List Rw} {S : List Sp} (h : RdCo w lo hi AL R AS S) (h1 : lo' ≤ lo) (h2 : hi ≤ hi') : RdCo w lo' hi' AL R AS S := by
  have oi : ∀ {e A xs}, OI w lo hi e A xs → OI w lo' hi' e A xs := fun h => by
    rcases h with h | ⟨g, cur, e, h3, h4, h5, h6⟩
    · exact .inl h
    · exact .inr ⟨g, cur, e, by omega, by omega, h5, h6⟩
  refine ⟨?_, fun x hx => oi (h.vals x hx), oi h.stops⟩
  rcases h.rows with h0 | ⟨g, cs, e, h3, h4, h5, h6⟩
  · exact .inl h0
  · exact .inr ⟨g, cs, e, by omega, by omega, h5, h6⟩
/-- block g holds the first of n rows -/
structure CopiedR (w : World) (g : Nat) (cs : Array Value) (R : List Rw) (n : Nat) : Prop where
  heap : Has w g 27 cs
  size : cs.size = n
  got : ∀ (j : Nat) (x : Rw), R[j]? = some x → cs[j]? = some (.slice x.A x.l.length x.c)
theorem CopiedR.step {w : World} {g : Nat} {cs : Array Value} {R : List Rw} {n : Nat} (h : CopiedR w g cs R n) (hk : R.length < n) (x : Rw) :
    CopiedR (w.setCell ⟨g, R.length, none⟩ (.slice x.A x.l.length x.c)) g (cs.setIfInBounds R.length (.slice x.A x.l.length x.c)) (R ++ [x]) n := by
  refine ⟨has_set h.heap _ _, by simp [h.size], fun j y hy => ?_⟩
  rw [Array.getElem?_setIfInBounds]
  rcases Nat.lt_or_ge j R.length with hj | hj
  · rw [List.getElem?_append_left hj] at hy
    rw [if_neg (by omega)]; exact h.got j y hy
  · rw [List.getElem?_append_right hj] at hy
    have hjl : j = R.length := by
      have := (List.getElem?_eq_some_iff.1 hy).1
      simp at this; omega
    subst hjl
    simp at hy
    subst hy
    rw [if_pos rfl, if_pos (by rw [h.size]; exact hk)]
theorem gOf_snoc {R R' : List Rw} {k : Nat} {x y : Rw} (h : gOf R' = gOf (R.take k)) (hx : R[k]? = some x) (hy : y.l = x.l) : gOf (R' ++ [y]) = gOf (R.take (k + 1)) := by
  have e : gOf (R.take (k + 1)) = gOf (R.take k) ++ [x.l] := by simp [gOf, List.take_add_one, hx]
  rw [e, ← h]; simp [gOf, hy]
theorem issInfo : (Try.prog.info? 27).map (fun i => (i.zero, i.size, i.bytes)) = some (some (.slice none 0 0), 1, 24) := by kernel_rfl
theorem OR.rng {w w' : World} {lo : Nat} {e : TypeId} {A : Option Addr} {xs : List Value} (h : OR w lo e A xs) (hb : Below w.heap.size w w') : OI w' lo w'.heap.size e A xs := OI.of_or (h.below hb)

set_option maxRecDepth 100000 in
set_option maxHeartbeats 2000000 in
theorem toIntSS_any (w : World) (B : Nat) (A : Option Addr) (c : Nat) (R : List Rw) (hl : R.length ≤ 1048576) (hsm : ∀ x ∈ R, x.l.length ≤ 1048576) (hB : B ≤ w.heap.size) (hS : rwL w B A R) (hV : ∀ x ∈ R, RV w B x) :
    Calls Try.prog 19 #[.slice A R.length c] w fun e w' => ∃ (R' : List Rw) (cs : Array Value), e = .returned (.slice (some ⟨w.heap.size, 0, none⟩) R.length R.length) ∧ R'.length = R.length ∧ gOf R' = gOf R ∧ CopiedR w' w.heap.size cs R' R.length ∧ (∀ x ∈ R', OR w' (w.heap.size + 1) 3 x.A (intV x.l)) ∧ Below w.heap.size w w' := by
  have hmk : ∀ W : World, (Instr.makeSlice 22 (.int .i64 (R.length : Int)) (.int .i64 (R.length : Int))).run Try.prog W = .ok (.slice (some ⟨W.heap.size, 0, none⟩) R.length R.length) (W.alloc (.cells (madeCells #[.slice none 0 0] R.length) 27)) := by
    intro W
    obtain ⟨i, hi, hz0, hz1, hz2⟩ := info_parts issInfo
    have := run_make (P := Try.prog) W 22 27 i _ Try.underlying22 hi hz0 .i64 .i64 (R.length : Int) (R.length : Int) (by omega) (by omega) (by rw [hz2]; omega) (by omega)
    simpa [hz1, Value.cells] using this
  have HS := Lib.hid hS; have HV := Lib.hid hV; have HSM := Lib.hid hsm; clear hS hV hsm
  go_enter Try.func19, Try.ntmps19
  go_wp2
  go_loopw [4] (fun i wr => ∃ (k : Nat) (cs : Array Value) (R' : List Rw), k ≤ R.length ∧ i = .int .i64 k ∧ R'.length = k ∧ gOf R' = gOf (R.take k) ∧ CopiedR wr w.heap.size cs R' R.length ∧ (∀ x ∈ R', OR wr (w.heap.size + 1) 3 x.A (intV x.l)) ∧ Below w.heap.size w wr) (fun i _ => R.length - (intOf i).toNat)
  case atStart => exact ⟨0, _, [], Nat.zero_le _, rfl, rfl, rfl, ⟨has_new _ _ _, by simp [size_madeCells], fun j x hj => by simp at hj⟩, fun x hx => by simp at hx, balloc _ _⟩
  case round =>
    obtain ⟨k, cs, R', hk, rfl, hlk, hct, hcp, hro, hb⟩ := hrel
    have HC := Lib.hid hcp; have HCT := Lib.hid hct; have HRO := Lib.hid hro; clear hcp hct hro
    clear hmk
    have hsz := hb.size
    by_cases hlt : k < R.length
    · obtain ⟨b, off, x, rfl, hbB, hx, hc0⟩ := (HS.out.later hB hb).at_ hlt
      have hv := (HV.out x (List.mem_of_getElem? hx)).later hB hb
      have hs := HSM.out x (List.mem_of_getElem? hx)
      obtain ⟨XA, xc, xl⟩ := x
      dsimp only at hc0 hs
      have HX := Lib.hid hx; have HVX := Lib.hid hv; have HSX := Lib.hid hs; clear hx hv hs
      have HLK := Lib.hid hlk; clear hlk
      go_wp2_with fail
      refine (toIntS_any wr B XA xc xl HSX.out (by omega) HVX.out.1).mono ?_
      rintro e w1 ⟨A2, n2, rfl, ho2, hb1⟩
      have hz1 := hb1.size
      have hC1 : CopiedR w1 w.heap.size cs R' R.length := ⟨has_call HC.out.heap hb1, HC.out.size, HC.out.got⟩
      have hgl : w.heap.size < wr.heap.size := has_lt HC.out.heap
      have hst := hC1.step (by rw [HLK.out]; exact hlt) ⟨A2, n2, xl⟩
      rw [HLK.out] at hst
      dsimp only at hst
      have hro1 : ∀ x ∈ R' ++ [(⟨A2, n2, xl⟩ : Rw)], OR (w1.setCell ⟨w.heap.size, k, none⟩ (.slice A2 xl.length n2)) (w.heap.size + 1) 3 x.A (intV x.l) := fun y hy => by
        have h1 : OR w1 (w.heap.size + 1) 3 y.A (intV y.l) := by
          rcases List.mem_append.1 hy with hy | hy
          · exact (HRO.out y hy).below hb1
          · simp at hy; subst hy
            exact OR.more (base := wr.heap.size) ho2 (by omega)
        refine h1.kept fun g hg _ => ?_
        exact Below.heap_setCell w1 ⟨w.heap.size, k, none⟩ _ g (by show g ≠ w.heap.size; omega)
      obtain ⟨u0, hu0⟩ : ∃ u, w1.cell? ⟨w.heap.size, k, none⟩ = some u := ⟨cs[k]'(by rw [hC1.size]; exact hlt), has_cell hC1.heap k (Array.getElem?_eq_getElem _)⟩
      have hf0 := has_free hC1.heap k
      have HST := Lib.hid hst; have HR1 := Lib.hid hro1; clear hst hro1 hC1 ho2
      go_wp2
      go_roundw
      case rel => exact ⟨k + 1, _, R' ++ [⟨A2, n2, xl⟩], by omega, by go_num, by simp [HLK.out], gOf_snoc HCT.out HX.out rfl, HST.out, HR1.out, (hb.trans (hb1.mono hsz)).setCell (Nat.le_refl _) _⟩
      case measure => simp [intOf]; omega
    · go_wp2
      go_ret
      have hkl : k = R.length := by omega
      subst hkl
      have hct := HCT.out
      rw [List.take_length] at hct
      exact ⟨R', cs, rfl, hlk, hct, HC.out, HRO.out, hb⟩

set_option maxRecDepth 100000 in
set_option maxHeartbeats 2000000 in
theorem eqIntSS_any (w : World) (B B' : Nat) (A A' : Option Addr) (c c' n : Nat) (R R' : List Rw) (hl : R.length ≤ maxLen) (hn : n = R.length) (hc : gOf R' = gOf R) (hB : B ≤ w.heap.size) (hB' : B' ≤ w.heap.size) (hS : rwL w B A R) (hV : ∀ x ∈ R, RV w B x) (hS' : rwL w B' A' R') (hV' : ∀ x ∈ R', RV w B' x) :
    Calls Try.prog 24 #[.slice A n c, .slice A' n c'] w fun e w' => e = .returned (.bool true) ∧ Below w.heap.size w w' := by
  unfold maxLen at hl
  subst hn
  have hll : R'.length = R.length := by have := congrArg List.length hc; simpa [gOf] using this
  have HS := Lib.hid hS; have HV := Lib.hid hV; have HS' := Lib.hid hS'; have HV' := Lib.hid hV'; have HC := Lib.hid hc; have HLL := Lib.hid hll; clear hS hV hS' hV' hc hll
  have e0 : ((R.length : Int) != (R.length : Int)) = false := by simp
  go_enter Try.func24, Try.ntmps24
  go_wp2
  clear e0
  go_loopw [5] (fun i wr => ∃ k : Nat, k ≤ R.length ∧ i = .int .i64 k ∧ Below w.heap.size w wr) (fun i _ => R.length - (intOf i).toNat)
  case atStart => exact ⟨0, Nat.zero_le _, rfl, Below.refl _ _⟩
  case round =>
    obtain ⟨k, hk, rfl, hb⟩ := hrel
    by_cases hlt : k < R.length
    · have hsz := hb.size
      obtain ⟨b, off, x, rfl, hbB, hx, hc0⟩ := (HS.out.below (hb.mono hB)).at_ hlt
      obtain ⟨b', off', y, rfl, hbB', hy, hd0⟩ := (HS'.out.below (hb.mono hB')).at_ (k := k) (by rw [HLL.out]; exact hlt)
      have hv := (HV.out x (List.mem_of_getElem? hx)).later hB hb
      have hv' := (HV'.out y (List.mem_of_getElem? hy)).later hB' hb
      have hxy : y.l = x.l := by
        have h1 := gOf_at hy
        have h2 := gOf_at hx
        rw [HC.out, h2] at h1; injection h1 with h1; exact h1.symm
      obtain ⟨XA, xc, xl⟩ := x
      obtain ⟨YA, yc, yl⟩ := y
      dsimp only at hxy hc0 hd0
      subst hxy
      have HVX := Lib.hid hv; have HVY := Lib.hid hv'; clear hx hy hv hv'
      have hbw : b < wr.heap.size := by omega
      have hbw' : b' < wr.heap.size := by omega
      go_wp2
      go_still_tail 8, (by kernel_rfl)
      change wpList _ _ _ _ _ wr.drew
      go_wp2_with (go_at_call 9; refine (eqIntS_any _ B B' XA YA xc yc yl HVX.out.2 (by simp; omega) (by simp; omega) (HVX.out.1.below (Below.refl _ _).drew) (HVY.out.1.below (Below.refl _ _).drew)).mono ?_; rintro e w1 ⟨rfl, hb1⟩)
      go_roundw
      case rel => exact ⟨k + 1, by omega, by go_num, (hb.drew).trans (hb1.mono hsz)⟩
      case measure => simp [intOf]; omega
    · go_wp2
      go_ret
      exact ⟨rfl, hb⟩

set_option maxRecDepth 100000 in
set_option maxHeartbeats 4000000 in
theorem toRound_any (w : World) (B : Nat) (b r : Int) (AL AS : Option Addr) (cL cS : Nat) (R : List Rw) (S : List Sp) (hs : SmallRd R S) (hB : B ≤ w.heap.size) (hR : RdIn w B AL R AS S) :
    Calls Try.prog 7 #[.agg #[.int .i64 b, .int .i64 r, .slice AL R.length cL, .slice AS S.length cS]] w fun e w' => ∃ (AL' AS' : Option Addr) (cL' cS' : Nat) (R' : List Rw), e = .returned (.agg #[.int .i64 b, .int .i64 r, .slice AL' R'.length cL', .slice AS' S.length cS']) ∧ gOf R' = gOf R ∧ RdCo w' w.heap.size w'.heap.size AL' R' AS' S ∧ Below w.heap.size w w' := by
  have HR := Lib.hid hR; clear hR
  have hl1 : R.length ≤ 1048576 := by unfold SmallRd at hs; omega
  have hl2 : S.length ≤ 1048576 := by unfold SmallRd at hs; omega
  have HSM := Lib.hid (fun (x : Rw) (hx : x ∈ R) => (show x.l.length ≤ 1048576 by have := totR_mem (G := gOf R) (List.mem_map_of_mem (f := Rw.l) hx); unfold SmallRd at hs; omega))
  clear hs
  go_enter Try.func7, Try.ntmps7
  go_wp2_with fail
  generalize hX : (w.alloc (.cells #[.int .i64 b, .int .i64 r, .slice AL R.length cL, .slice AS S.length cS] 25)) = w1
  have hb : Below w.heap.size w w1 := by rw [← hX]; exact balloc _ _
  have hk : Has w1 w.heap.size 25 #[.int .i64 b, .int .i64 r, .slice AL R.length cL, .slice AS S.length cS] := by rw [← hX]; exact has_new _ _ _
  have hzw1 : w1.heap.size = w.heap.size + 1 := by rw [← hX]; simp
  clear hX
  have zb := hb; clear hb
  have za := hk; clear hk
  generalize hX : (w1.alloc (.cells #[.int .i64 0, .int .i64 0, .slice none 0 0, .slice none 0 0] 32)) = w2
  have hb : Below w1.heap.size w1 w2 := by rw [← hX]; exact balloc _ _
  have hk : Has w2 w1.heap.size 32 #[.int .i64 0, .int .i64 0, .slice none 0 0, .slice none 0 0] := by rw [← hX]; exact has_new _ _ _
  have hzw2 : w2.heap.size = w.heap.size + 2 := by rw [← hX]; simp [hzw1]
  clear hX
  rw [hzw1] at hk
  replace za := has_call za hb
  replace zb := bthen zb hb; clear hb
  have zr := hk; clear hk
  generalize hX : (w2.alloc (.cells #[.int .i64 b, .int .i64 r, .slice none 0 0, .slice none 0 0] 32)) = w3
  have hb : Below w2.heap.size w2 w3 := by rw [← hX]; exact balloc _ _
  have hk : Has w3 w2.heap.size 32 #[.int .i64 b, .int .i64 r, .slice none 0 0, .slice none 0 0] := by rw [← hX]; exact has_new _ _ _
  have hzw3 : w3.heap.size = w.heap.size + 3 := by rw [← hX]; simp [hzw2]
  clear hX
  rw [hzw2] at hk
  replace za := has_call za hb
  replace zr := has_call zr hb
  replace zb := bthen zb hb; clear hb
  have zo := hk; clear hk
  clear hzw1 hzw2 hzw3
  have ZB := Lib.hid zb; clear zb
  refine (toIntSS_any _ w.heap.size AL cL R hl1 HSM.out (by have := ZB.out.size; omega) ((HR.out.later hB ZB.out).rows.more hB) (fun x hx => ⟨((HR.out.later hB ZB.out).vals x hx).1.more hB, ((HR.out.later hB ZB.out).vals x hx).2⟩)).mono ?_
  rintro e w4 ⟨R1, cs1, rfl, hlen1, hg1, hcp1, hor1, hb4⟩
  have hz3 := ZB.out.size
  have hl3 := has_lt zo
  replace za := has_call za hb4; replace zr := has_call zr hb4; replace zo := has_call zo hb4
  have zb4 := bthen ZB.out hb4
  have hz4 := hb4.size
  have zac3 := has_cell za 3 rfl
  have zoc2 := has_cell zo 2 rfl; have zof2 := has_free zo 2
  have HG1 := Lib.hid hg1; have HL1 := Lib.hid hlen1; clear hg1 hlen1
  have hsize1 := hcp1.size
  have hgs := has_lt hcp1.heap
  have HCP := Lib.hid hcp1; have HOR := Lib.hid hor1; clear hcp1 hor1 hsize1
  have ZA := Lib.hid za; have ZR := Lib.hid zr; have ZO := Lib.hid zo; have ZB4 := Lib.hid zb4; clear za zr zo zb4 ZB hb4
  go_wp2_with fail
  clear zac3 zoc2 zof2
  generalize hX : World.setCell _ _ _ = w5
  have ho5 : Only w4 (w.heap.size + 2) w5 := by rw [← hX]; exact only_set (only_refl _ _) _ _
  have zo5 : Has w5 (w.heap.size + 2) 32 #[.int .i64 b, .int .i64 r, .slice (some ⟨w3.heap.size, 0, none⟩) R.length R.length, .slice none 0 0] := by rw [← hX]; simpa using has_set ZO.out 2 _
  clear hX
  have hz5 := ho5.size
  replace ZA := Lib.hid (has_onl ZA.out ho5 (by omega)); replace ZR := Lib.hid (has_onl ZR.out ho5 (by omega))
  replace HCP := Lib.hid (show CopiedR w5 w3.heap.size cs1 R1 R.length from ⟨has_onl HCP.out.heap ho5 (by omega), HCP.out.size, HCP.out.got⟩)
  replace HOR := Lib.hid (fun (x : Rw) (hx : x ∈ R1) => (HOR.out x hx).kept (w' := w5) (fun g hg hgs => ho5.block g hgs (fun e => by injection e with e; omega)))
  replace ZB4 := Lib.hid (ZB4.out.trans (only_below ho5 (B := w.heap.size) (by omega) (by omega)))
  clear ho5
  refine (toStopS_any _ w.heap.size AS cS S hl2 (by omega) ((HR.out.later hB ZB4.out).stops.more hB)).mono ?_
  rintro e w6 ⟨A6, c6, rfl, hor6, hb6⟩
  have hz6 := hb6.size
  have za := has_call ZA.out hb6; have zr := has_call ZR.out hb6; have zo := has_call zo5 hb6; have zb6 := bthen ZB4.out hb6
  replace HCP := Lib.hid (show CopiedR w6 w3.heap.size cs1 R1 R.length from ⟨has_call HCP.out.heap hb6, HCP.out.size, HCP.out.got⟩)
  replace HOR := Lib.hid (fun (x : Rw) (hx : x ∈ R1) => (HOR.out x hx).below hb6)
  have HO6 := Lib.hid hor6; clear hor6 ZA ZR ZB4 zo5 hb6
  have zoc0 := has_cell zo 0 rfl; have zoc1 := has_cell zo 1 rfl; have zoc2 := has_cell zo 2 rfl; have zoc3 := has_cell zo 3 rfl; have zof3 := has_free zo 3
  have zrc0 := has_cell zr 0 rfl; have zrc1 := has_cell zr 1 rfl; have zrc2 := has_cell zr 2 rfl; have zrc3 := has_cell zr 3 rfl
  have zrf0 := has_free zr 0; have zrf1 := has_free zr 1; have zrf2 := has_free zr 2; have zrf3 := has_free zr 3
  have hzl := has_lt zr; have hzl2 := has_lt zo
  have ZO := Lib.hid zo; have ZR := Lib.hid zr; have ZB6 := Lib.hid zb6; clear zo zr za zb6
  go_wp2_with fail
  refine bodyPost_ret (v := .agg #[.int .i64 b, .int .i64 r, .slice (some ⟨w3.heap.size, 0, none⟩) R.length R.length, .slice A6 S.length c6]) (by simp [results, Try.results7, go_sem, zoc0, zoc1, zoc2, zoc3, zof3, zrc0, zrc1, zrc2, zrc3, zrf0, zrf1, zrf2, zrf3, hzl, hzl2]) rfl ?_
  generalize hX : World.setCell _ _ _ = w9
  have ho1 : Only w6 (w.heap.size + 2) (w6.setCell ⟨w.heap.size + 2, 3, none⟩ (.slice A6 S.length c6)) := only_set (only_refl _ _) _ _
  have ho2 : Only (w6.setCell ⟨w.heap.size + 2, 3, none⟩ (.slice A6 S.length c6)) (w.heap.size + 1) w9 := by rw [← hX]; with_reducible exact only_set4 _ _ _ _ _ _
  clear hX
  have hkeep : ∀ g, w.heap.size + 2 < g → g < w6.heap.size → w9.heap[g]? = w6.heap[g]? := fun g hg hgs => by
    rw [ho2.block g (by rw [size_set]; exact hgs) (fun e => by injection e with e; omega)]
    exact ho1.block g hgs (fun e => by injection e with e; omega)
  have hs9 : w6.heap.size ≤ w9.heap.size := by have := ho2.size; rw [size_set] at this; exact this
  have hlR : R1.length = R.length := HL1.out
  refine ⟨some ⟨w3.heap.size, 0, none⟩, A6, R.length, c6, R1, by rw [hlR], HG1.out, ⟨?_, fun x hx => ?_, ?_⟩, ?_⟩
  · exact .inr ⟨w3.heap.size, cs1, rfl, by omega, by have := has_lt HCP.out.heap; omega, (hkeep _ (by omega) (has_lt HCP.out.heap)).trans HCP.out.heap, HCP.out.got⟩
  · rcases HOR.out x hx with h | ⟨g, cur, e, h2, h3, h4⟩
    · exact .inl h
    · exact .inr ⟨g, cur, e, by omega, by have := has_lt h3; omega, (hkeep _ (by omega) (has_lt h3)).trans h3, h4⟩
  · rcases HO6.out with h | ⟨g, cur, e, h2, h3, h4⟩
    · exact .inl h
    · exact .inr ⟨g, cur, e, by omega, by have := has_lt h3; omega, (hkeep _ (by omega) (has_lt h3)).trans h3, h4⟩
  · exact (ZB6.out.trans (only_below ho1 (B := w.heap.size) (by omega) (by omega))).trans (only_below ho2 (B := w.heap.size) (by rw [size_set]; omega) (by omega))
set_option maxRecDepth 100000 in
set_option maxHeartbeats 2000000 in
theorem eqRound_any (w : World) (B B' : Nat) (b r : Int) (AL AS AL' AS' : Option Addr) (cL cS cL' cS' : Nat) (R R' : List Rw) (S : List Sp) (hc : gOf R' = gOf R) (hB : B ≤ w.heap.size) (hB' : B' ≤ w.heap.size) (hR : RdIn w B AL R AS S) (hR' : RdIn w B' AL' R' AS' S) :
    Calls Try.prog 10 #[.agg #[.int .i64 b, .int .i64 r, .slice AL R.length cL, .slice AS S.length cS], .agg #[.int .i64 b, .int .i64 r, .slice AL' R'.length cL', .slice AS' S.length cS']] w fun e w' => e = .returned (.bool true) ∧ Below w.heap.size w w' := by
  have hb0 : ∀ o1 o2, Below w.heap.size w ((w.alloc o1).alloc o2) := fun o1 o2 => bthen (balloc w o1) (balloc _ o2)
  have hlR : R'.length = R.length := by have := congrArg List.length hc; simpa [gOf] using this
  have HR := Lib.hid hR; have HR' := Lib.hid hR'; have H0 := Lib.hid hb0; have HC := Lib.hid hc; clear hR hR' hb0 hc
  rw [hlR]; have HLR := Lib.hid hlR; clear hlR
  have e0 : (b != b) = false := by simp
  have e1 : (r != r) = false := by simp
  go_enter Try.func10, Try.ntmps10
  go_wp2_with fail
  clear e0 e1
  refine (eqIntSS_any _ B B' AL AL' cL cL' R.length R R' HR.out.lr rfl HC.out (by simp; omega) (by simp; omega) (HR.out.later hB (H0.out _ _)).rows (HR.out.later hB (H0.out _ _)).vals (HR'.out.later hB' (H0.out _ _)).rows (HR'.out.later hB' (H0.out _ _)).vals).mono ?_
  rintro e w1 ⟨rfl, hb1⟩
  have hbx := bthen (H0.out _ _) hb1
  have hold := bold hb1
  go_wp2_with fail
  clear hold
  refine (eqStopS_any _ B B' AS AS' cS cS' S HR.out.ls (by have := hbx.size; omega) (by have := hbx.size; omega) (HR.out.later hB hbx).stops (HR'.out.later hB' hbx).stops).mono ?_
  rintro e w2 ⟨rfl, hb2⟩
  go_wp2_with fail
  go_ret
  exact ⟨rfl, bthen hbx hb2⟩

theorem small_copy {R R' : List Rw} {S : List Sp} (h : SmallRd R S) (hg : gOf R' = gOf R) : SmallRd R' S := by
  have hl : R'.length = R.length := by have := congrArg List.length hg; simpa [gOf] using this
  unfold SmallRd at h ⊢; rw [hg, hl]; exact h
theorem len_copy {R R' : List Rw} (hg : gOf R' = gOf R) : R'.length = R.length := by have := congrArg List.length hg; simpa [gOf] using this
set_option maxHeartbeats 400000 in
theorem toIntC_any (w : World) (B : Nat) (A : Option Addr) (c : Nat) (l : List Int) (hl : l.length ≤ 1048576) (hB : B ≤ w.heap.size) (hS : IL w B A l) :
    Calls Try.prog 33 #[.slice A l.length c] w fun e w' => ∃ A', e = .returned (.slice A' l.length l.length) ∧ OR w' w.heap.size 3 A' (intV l) ∧ Below w.heap.size w w' := by
  have hmk : ∀ W : World, (Instr.makeSlice 27 (.int .i64 (l.length : Int)) (.int .i64 (l.length : Int))).run Try.prog W = .ok (.slice (some ⟨W.heap.size, 0, none⟩) l.length l.length) (W.alloc (.cells (madeCells #[.int .i64 0] l.length) 3)) := by
    intro W
    obtain ⟨i, hi, hz0, hz1, hz2⟩ := info_parts intInfo
    have := run_make (P := Try.prog) W 27 3 i _ Try.underlying27 hi hz0 .i64 .i64 (l.length : Int) (l.length : Int) (by omega) (by omega) (by rw [hz2]; omega) (by omega)
    simpa [hz1, Value.cells] using this
  have HS := Lib.hid hS; clear hS
  go_enter Try.func33, Try.ntmps33
  go_wp2
  go_loopw [4] (fun i wr => ∃ (k : Nat) (cs : Array Value), k ≤ l.length ∧ i = .int .i64 k ∧ Has wr w.heap.size 3 cs ∧ cs.size = l.length ∧ (∀ j x, j < k → l[j]? = some x → cs[j]? = some (.int .i64 x)) ∧ Below w.heap.size w wr) (fun i _ => l.length - (intOf i).toNat)
  case atStart => exact ⟨0, _, Nat.zero_le _, rfl, has_new _ _ _, by simp [size_madeCells], fun j x hj => absurd hj (by omega), balloc _ _⟩
  case round =>
    obtain ⟨k, cs, hk, rfl, hH, hcs, hg, hb⟩ := hrel
    have HG := Lib.hid hg; clear hg
    clear hmk
    have hsz := hb.size
    by_cases hlt : k < l.length
    · obtain ⟨b, off, x, rfl, hbB, hx, hc0⟩ := (HS.out.later hB hb).at_ hlt
      obtain ⟨uc, huc⟩ : ∃ uc, cs[k]? = some uc := ⟨_, Array.getElem?_eq_getElem (by omega)⟩
      have hs0 := has_cell hH k huc
      clear huc
      have hf0 := has_free hH k
      have HX := Lib.hid hx; clear hx
      have HH := Lib.hid hH; clear hH
      have hset : (∀ j y, j < k + 1 → l[j]? = some y → (cs.setIfInBounds k (.int .i64 x))[j]? = some (.int .i64 y)) := fun j y hj hy => by
        rw [Array.getElem?_setIfInBounds]
        by_cases e : k = j
        · subst e
          rw [if_pos rfl, if_pos (by omega)]
          rw [HX.out] at hy; injection hy with hy; rw [hy]
        · rw [if_neg e]; exact HG.out j y (by omega) hy
      have HSET := Lib.hid hset; clear hset
      have HCS := Lib.hid hcs; clear hcs
      go_wp2
      go_roundw
      case rel => exact ⟨k + 1, _, by omega, by go_num, has_set HH.out k _, by simp [HCS.out], HSET.out, hb.setCell (Nat.le_refl _) _⟩
      case measure => simp [intOf]; omega
    · go_wp2
      go_ret
      have hkl : k = l.length := by omega
      subst hkl
      refine ⟨_, rfl, .inr ⟨_, cs, rfl, Nat.le_refl _, hH, fun j u hu => ?_⟩, hb⟩
      have hj : j < l.length := by have := (List.getElem?_eq_some_iff.1 hu).1; rwa [intV_len] at this
      have hx := List.getElem?_eq_getElem hj
      rw [intV_at hx] at hu
      rw [← hu]; exact HG.out j _ hj hx

end Go.Proofs.Ytjcmndbjpbnogaa
