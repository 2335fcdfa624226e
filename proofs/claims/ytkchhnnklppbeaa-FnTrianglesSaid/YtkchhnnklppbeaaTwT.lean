/- Chapter 7: the walk of the law on triangles (gen_twt.py). -/
import Derived.Test.YtkchhnnklppbeaaTwQ
import Derived.Test.YtkchhnnklppbeaaTwS
import Derived.Deep.DeepCutAuto
import Derived.RegionTactic
import Derived.Deep.RegionWith
import Derived.Deep.AppendLies
import Derived.Laws.OwnMore
import Derived.Deep.RegionHeld3
import Derived.Deep.DeepMust
import Derived.WalkLawsBesides
namespace Go.Proofs.Ytkchhnnklppbeaa
open Go.RowKit
set_option linter.unusedVariables false

theorem src_il {w : World} {B : Nat} {A : Option Addr} {l : List Int} (h : IL w B A l) : Src w A l.length 1 (intV l) := by
  refine ⟨by rw [intV_len]; omega, fun u hu => ?_, fun e => ?_, fun ad e j u hu => ?_⟩
  · obtain ⟨x, _, rfl⟩ := List.mem_map.1 hu; rfl
  · rcases h with h | ⟨b, off, e2, _⟩
    · rw [h]; rfl
    · rw [e] at e2; cases e2
  · rcases h with h | ⟨b, off, e2, _, h3⟩
    · rw [h] at hu; simp [intV] at hu
    · rw [e] at e2; injection e2 with e2; subst e2
      rw [addW]
      have hj : j < l.length := by have := (List.getElem?_eq_some_iff.1 hu).1; rwa [intV_len] at this
      have h5 := intV_at (List.getElem?_eq_getElem hj)
      rw [h5] at hu; injection hu with hu; subst hu
      exact h3 j _ (List.getElem?_eq_getElem hj)
theorem src_il2 {w : World} {B n : Nat} {A : Option Addr} {l : List Int} (hn : l.length = n) (h : IL w B A l) : Src w A n 1 (intV l) := hn ▸ src_il h
theorem il_drop {w : World} {B b off : Nat} {l : List Int} (h : IL w B (some ⟨b, off, none⟩) l) (j : Nat) : IL w B (some ⟨b, off + j, none⟩) (l.drop j) := by
  rcases h with h | ⟨b2, off2, e, h2, h3⟩
  · exact .inl (by rw [h]; simp)
  · injection e with e; injection e with e1 e2; subst e1; subst e2
    refine .inr ⟨b, off + j, rfl, h2, fun k x hx => ?_⟩
    rw [List.getElem?_drop] at hx
    have := h3 (j + k) x hx
    rwa [show off + (j + k) = off + j + k by omega] at this
theorem below_grow {B : Nat} {a w w' : World} {row : Option Nat} (h : Below B a w) (hg : w.grownBy w' row) (hl : B ≤ w.heap.size) (hr : ∀ b, row = some b → B ≤ b) : Below B a w' :=
  ⟨hg.os.trans h.os, hg.tape.trans h.tape, hg.output.trans h.output, Nat.le_trans h.size hg.size, fun k hk => (hg.block k (by omega) (fun e => by have := hr k e.symm; omega)).trans (h.block k hk)⟩
theorem rideN (W : World) (b r : Int) (AL AS : Option Addr) (cL cS : Nat) (R : List Rw) (S : List Sp) (AO : Option Addr) (n cO : Nat) (O : List Int) {v : List Int × Int × Bool} (hn : O.length = n) (hv : rideW (rideT b r (gOf R) S O) = v) (hR : RdIn W W.heap.size AL R AS S) (lO : n ≤ maxLen) (hO : IL W W.heap.size AO O) :
    Calls Try.prog 9 #[.agg #[.int .i64 b, .int .i64 r, .slice AL R.length cL, .slice AS S.length cS], .slice AO n cO] W (AnsW v W) := by
  subst hn
  exact (rideI_any W W.heap.size b r AL AS cL cS R S AO cO O (Nat.le_refl _) hR lO hO).mono fun e w' h => rideW_v hv h
set_option maxRecDepth 100000 in
set_option maxHeartbeats 8000000 in
theorem triangles_walk (w : World) (A : Option Addr) (na ca : Nat) (hn : na ≤ maxLen) (hS : BS w w.heap.size A na) : Calls Try.prog 3 #[.slice A na ca] w fun e w' => e = .returned (.bool true) ∧ Below w.heap.size w w' := by
  have HS := Lib.hid hS; clear hS
  have HBG := Lib.hid (fun W => big_any W A na ca hn)
  have HDR := Lib.hid (fun W (h : BS W W.heap.size A na) => drawRound_any W A na ca hn h)
  clear hn
  obtain ⟨i0_i, hi0, hz0, hz1, hz2⟩ := info_parts intInfo
  have hi_i := Lib.hid hi0; have hz0_i := Lib.hid hz0; have hz1_i := Lib.hid hz1; have hz2_i := Lib.hid hz2; clear hi0 hz0 hz1 hz2
  by_cases hbig : (1048576 : Int) < na
  · have hd : decide ((1048576 : Int) < na) = true := by simpa using hbig
    have HD := Lib.hid hd; clear hd
    go_enter Try.func3, Try.ntmps3
    go_wp2_with (refine (HBG.out _).mono ?_; rintro e w' ⟨rfl, hw⟩; rw [hw, HD.out]; clear hw)
    go_ret
    exact ⟨rfl, Below.refl _ _⟩
  have hd : decide ((1048576 : Int) < na) = false := by simpa using hbig
  have HD := Lib.hid hd; clear hd hbig
  go_enter Try.func3, Try.ntmps3
  go_wp2_with (go_at_call 5; refine (HBG.out _).mono ?_; rintro e w' ⟨rfl, hw⟩; rw [hw, HD.out]; clear hw)
  refine (HDR.out w HS.out).mono ?_
  rintro e w1 ⟨b, r, AL, AS, cL, cS, R, S, rfl, hT, hS4, hin, zb0⟩
  have HIN := Lib.hid hin; have HT := Lib.hid hT; have HZ0 := Lib.hid zb0
  have hw01 := zb0.size
  have HS4 := Lib.hid hS4
  clear hin hT zb0 hS4 HBG HDR
  have ZB := Lib.hid (Below.refl w1.heap.size w1)
  go_upto_region 4 with fail
  generalize hX : (w1.alloc (.cells #[.int .i64 b, .int .i64 r, .slice AL R.length cL, .slice AS S.length cS] 27)) = w2
  have hb : Below w1.heap.size w1 w2 := by rw [← hX]; exact balloc _ _
  have hk : Has w2 w1.heap.size 27 #[.int .i64 b, .int .i64 r, .slice AL R.length cL, .slice AS S.length cS] := by rw [← hX]; exact has_new _ _ _
  clear hX
  have kk := bthen ZB.out hb; clear ZB; have ZB := Lib.hid kk; clear kk
  have hsw2 := hb.size; clear hb
  obtain ⟨Zt, hZe⟩ : ∃ q, w1.heap.size = q := ⟨_, rfl⟩
  rw [hZe] at hk ⊢
  have hltt : Zt < w2.heap.size := has_lt hk
  have HX_t := Lib.hid hk; clear hk hZe
  have tc0 := has_cell HX_t.out 0 rfl; have tc1 := has_cell HX_t.out 1 rfl; have tc2 := has_cell HX_t.out 2 rfl; have tc3 := has_cell HX_t.out 3 rfl
  have tl := has_lt HX_t.out
  go_wp2_with fail
  clear tc0 tc1 tc2 tc3 tl
  refine (most_any w1 _ b r AL AS cL cS R S HT.out HS4.out HIN.out ZB.out).mono ?_
  rintro e w3 ⟨AO, cO, f0, O, d, rfl, hil, ho4, hoc, hcm, hrd, hb⟩
  have kk := has_call HX_t.out hb; clear HX_t; have HX_t := Lib.hid kk; clear kk
  have kk := bthen ZB.out hb; clear ZB; have ZB := Lib.hid kk; clear kk
  have hsw3 := hb.size; clear hb
  have HI_o := Lib.hid hil; have HRD := Lib.hid hrd; clear hil hrd
  unfold maxLen at hcm
  obtain ⟨l9, hl9⟩ : ∃ q, d.begins = q := ⟨_, rfl⟩; obtain ⟨f, hf⟩ : ∃ q, d.fin = q := ⟨_, rfl⟩
  have HV0 := Lib.hid (show rideW (rideT b r (gOf R) S O) = (l9, f, true) by rw [HRD.out, rideW, hl9, hf])
  have HF := Lib.hid hf; clear hl9 hf
  have tc0 := has_cell HX_t.out 0 rfl; have tc1 := has_cell HX_t.out 1 rfl; have tc2 := has_cell HX_t.out 2 rfl; have tc3 := has_cell HX_t.out 3 rfl
  have tl := has_lt HX_t.out
  go_wp2_with fail
  clear tc0 tc1 tc2 tc3 tl
  refine (triI_any _ w1.heap.size b r AL AS cL cS R S ZB.out.size (HIN.out.below ZB.out)).mono ?_
  rintro e w4 ⟨V, rfl, hv, hb⟩
  have kk := has_call HX_t.out hb; clear HX_t; have HX_t := Lib.hid kk; clear kk
  have kk := (HI_o.out.below hb).more hb.size; clear HI_o; have HI_o := Lib.hid kk; clear kk
  have kk := bthen ZB.out hb; clear ZB; have ZB := Lib.hid kk; clear kk
  have hsw4 := hb.size; clear hb
  have HV := Lib.hid hv; clear hv
  have nv : (V != V) = false := by simp
  have tc0 := has_cell HX_t.out 0 rfl; have tc1 := has_cell HX_t.out 1 rfl; have tc2 := has_cell HX_t.out 2 rfl; have tc3 := has_cell HX_t.out 3 rfl
  have tl := has_lt HX_t.out
  go_wp2_with fail
  clear tc0 tc1 tc2 tc3 tl
  refine (rideN _ b r AL AS cL cS R S AO O.length cO O rfl HV0.out (rdIn_more (HIN.out.below ZB.out) ZB.out.size) (by unfold maxLen; omega) HI_o.out).mono ?_
  rintro e w5 ⟨yA, yc, rfl, yo, hb⟩
  clear yo
  have kk := has_call HX_t.out hb; clear HX_t; have HX_t := Lib.hid kk; clear kk
  have kk := (HI_o.out.below hb).more hb.size; clear HI_o; have HI_o := Lib.hid kk; clear kk
  have kk := bthen ZB.out hb; clear ZB; have ZB := Lib.hid kk; clear kk
  have hsw5 := hb.size; clear hb
  have tc0 := has_cell HX_t.out 0 rfl; have tc1 := has_cell HX_t.out 1 rfl; have tc2 := has_cell HX_t.out 2 rfl; have tc3 := has_cell HX_t.out 3 rfl
  have tl := has_lt HX_t.out
  go_wp2_with fail
  clear tc0 tc1 tc2 tc3 tl
  refine (triS_any _ w1.heap.size b r AL AS cL cS R S ZB.out.size (HIN.out.below ZB.out)).mono ?_
  rintro e w6 ⟨V2, rfl, hv, hb⟩
  have kk := has_call HX_t.out hb; clear HX_t; have HX_t := Lib.hid kk; clear kk
  have kk := (HI_o.out.below hb).more hb.size; clear HI_o; have HI_o := Lib.hid kk; clear kk
  have kk := bthen ZB.out hb; clear ZB; have ZB := Lib.hid kk; clear kk
  have hsw6 := hb.size; clear hb
  obtain rfl : V2 = V := by rw [Bool.eq_iff_iff, hv, HV.out]
  clear hv
  go_wp2_with fail
  go_loopw [11] (fun iv wr => ∃ k : Nat, k ≤ O.length ∧ iv = .int .i64 (k : Int) ∧ Has wr Zt 27 #[.int .i64 b, .int .i64 r, .slice AL R.length cL, .slice AS S.length cS] ∧ IL wr wr.heap.size AO O ∧ Below w1.heap.size w1 wr) (fun iv _ => O.length - (intOf iv).toNat)
  case atStart => exact ⟨0, Nat.zero_le _, rfl, HX_t.out, HI_o.out, ZB.out⟩
  clear HX_t HI_o ZB
  case round =>
    obtain ⟨k, hk, rfl, hzt, hil, hzb⟩ := hrel
    have HZT := Lib.hid hzt; have HIL := Lib.hid hil; have HZB := Lib.hid hzb; clear hzt hil hzb
    have hswr := HZB.out.size; have hltt : Zt < wr.heap.size := has_lt HZT.out
    by_cases hlt : k < O.length
    rotate_left
    · skip
      go_wp2_with fail
      go_ret
      exact ⟨rfl, HZ0.out.trans (HZB.out.mono hw01)⟩
    cases V2
    · skip
      go_wp2_with fail
      go_ret
      exact ⟨rfl, HZ0.out.trans (HZB.out.mono hw01)⟩
    have htri := (HV.out.1 rfl).2
    have hRl : R.length = S.length + 1 := by have := HT.out.len; rwa [gOf_len] at this
    rw [hRl] at htri
    clear hRl
    obtain ⟨bo, fo, i0, hAO, hbO, hx, ho0⟩ := HIL.out.at_ hlt
    clear ho0
    subst hAO
    obtain ⟨pre, hpre⟩ : ∃ q, O.take k = q := ⟨_, rfl⟩; obtain ⟨suf, hsuf⟩ : ∃ q, O.drop (k + 1) = q := ⟨_, rfl⟩
    have hcut := cut_at hx; rw [hpre, hsuf] at hcut
    have hrd9 := HRD.out; rw [hcut] at hrd9
    obtain ⟨d9, hd9, hf9⟩ := ride_less1 htri hrd9
    rw [HF.out] at hf9
    obtain ⟨l8, hl8⟩ : ∃ q, d9.begins = q := ⟨_, rfl⟩; obtain ⟨f9, hf9q⟩ : ∃ q, d9.fin = q := ⟨_, rfl⟩
    have HV9 := Lib.hid (show rideW (rideT b r (gOf R) S (pre ++ suf)) = (l8, f9, true) by rw [hd9, rideW, hl8, hf9q])
    rw [hf9q] at hf9
    have hnf : ¬ (f < f9) := by omega
    obtain ⟨m2, hm2⟩ : ∃ q, O.length - (k + 1) = q := ⟨_, rfl⟩
    have hpl : pre.length = k := by rw [← hpre, List.length_take]; omega
    have hsl : suf.length = m2 := by rw [← hsuf, List.length_drop]; exact hm2
    have hipre : IL wr wr.heap.size (some ⟨bo, fo, none⟩) pre := by rw [← hpre]; exact HIL.out.take k
    have hisuf : IL wr wr.heap.size (some ⟨bo, fo + (k + 1), none⟩) suf := by rw [← hsuf]; exact il_drop HIL.out (k + 1)
    have HPL := Lib.hid hpl; have HSL := Lib.hid hsl; have HIP := Lib.hid hipre; have HIS := Lib.hid hisuf; have HM2 := Lib.hid hm2
    have hm4 : m2 ≤ 4 := by omega
    have hk4 : k ≤ 4 := by omega
    have hk1 : k + 1 ≤ O.length := hlt
    have hkI : (k : Int) + 1 ≤ (O.length : Int) := by omega
    have hkI2 : (k : Int) < (O.length : Int) := by omega
    have hcI : (O.length : Int) ≤ (cO : Int) := by omega
    have hkc : (k : Int) ≤ (cO : Int) := by omega
    clear hpl hsl hipre hisuf hcut hrd9 hd9 hf9 hl8 hf9q hx htri hm2 hpre hsuf nv
    have ZR := Lib.hid (Below.refl wr.heap.size wr)
    have hcc0 : (k + 1 = cO) ∨ ¬ (k + 1 = cO) := Decidable.em _
    rcases hcc0 with hcc | hcc
    · skip
      have hm0 : m2 = 0 := by have := HM2.out; omega
      have hccI : (k : Int) + 1 = (cO : Int) := by omega
      have hOcn : ¬ (O.length < cO) := by omega
      have hzz : (0 : Nat) = O.length - cO := by omega
      have HZZ := Lib.hid hzz; clear hzz
      have hs0 : suf = [] := List.eq_nil_of_length_eq_zero (HSL.out.trans hm0)
      have hwc : IntKind.i64.wrap (cO : Int) = (cO : Int) := IntWalk.i64_in _ (by omega)
      subst hs0
      clear HIS hm0
      have tc0 := has_cell HZT.out 0 rfl; have tc1 := has_cell HZT.out 1 rfl; have tc2 := has_cell HZT.out 2 rfl; have tc3 := has_cell HZT.out 3 rfl
      go_wp2_with fail
      have S0 : (fun W : World => W.cell? ⟨Zt, 0, none⟩ = some (.int .i64 b) ∧ W.cell? ⟨Zt, 1, none⟩ = some (.int .i64 r) ∧ W.cell? ⟨Zt, 2, none⟩ = some (.slice AL R.length cL) ∧ W.cell? ⟨Zt, 3, none⟩ = some (.slice AS S.length cS)) wr.drew := ⟨tc0, tc1, tc2, tc3⟩
      clear tc0 tc1 tc2 tc3
      refine wp_region_held_drew (S := (fun W : World => W.cell? ⟨Zt, 0, none⟩ = some (.int .i64 b) ∧ W.cell? ⟨Zt, 1, none⟩ = some (.int .i64 r) ∧ W.cell? ⟨Zt, 2, none⟩ = some (.slice AL R.length cL) ∧ W.cell? ⟨Zt, 3, none⟩ = some (.slice AS S.length cS))) (by kernel_rfl) S0 (fun _ => ?_)
      obtain ⟨w51, hdw⟩ : ∃ q, q = wr.drew := ⟨_, rfl⟩
      rw [← hdw] at S0 ⊢
      have hb : Below wr.heap.size wr w51 := by rw [hdw]; exact (Below.refl _ _).drew
      clear hdw
      have kk := bthen ZR.out hb; clear ZR; have ZR := Lib.hid kk; clear kk
      have hsw51 := hb.size; clear hb
      refine any_take (i := 0) (some 52) (.agg #[.int .i64 b, .int .i64 r, .slice AL R.length cL, .slice AS S.length cS]) rfl rfl (by kernel_rfl) (by kernel_rfl) (by kernel_rfl) (fun _ _ _ h => h) rfl (fun W hSw => ?_) (S0) ?_
      · (try dsimp only at hSw); go_simp <;> with_reducible rfl
      try simp only [Act.put, List.setIfInBounds_toArray, List.set_cons_zero, List.set_cons_succ]
      refine any_take (i := 2) (some 54) (.slice (some ⟨bo, fo, none⟩) O.length cO) rfl rfl (by kernel_rfl) (by kernel_rfl) (by kernel_rfl) (fun _ _ _ h => h) rfl (fun W hSw => ?_) (S0) ?_
      · (try dsimp only at hSw); go_simp <;> with_reducible rfl
      try simp only [Act.put, List.setIfInBounds_toArray, List.set_cons_zero, List.set_cons_succ]
      refine any_take (i := 3) (some 55) (.int .i64 (k : Int)) rfl rfl (by kernel_rfl) (by kernel_rfl) (by kernel_rfl) (fun _ _ _ h => h) rfl (fun W hSw => ?_) (S0) ?_
      · (try dsimp only at hSw); go_simp <;> with_reducible rfl
      try simp only [Act.put, List.setIfInBounds_toArray, List.set_cons_zero, List.set_cons_succ]
      refine any_take (i := 4) (some 56) (.slice (some ⟨bo, fo, none⟩) k cO) rfl rfl (by kernel_rfl) (by kernel_rfl) (by kernel_rfl) (fun _ _ _ h => h) rfl (fun W hSw => ?_) (S0) ?_
      · (try dsimp only at hSw); go_simp <;> with_reducible rfl
      try simp only [Act.put, List.setIfInBounds_toArray, List.set_cons_zero, List.set_cons_succ]
      refine any_take (i := 6) (some 58) (.slice (some ⟨bo, fo, none⟩) O.length cO) rfl rfl (by kernel_rfl) (by kernel_rfl) (by kernel_rfl) (fun _ _ _ h => h) rfl (fun W hSw => ?_) (S0) ?_
      · (try dsimp only at hSw); go_simp <;> with_reducible rfl
      try simp only [Act.put, List.setIfInBounds_toArray, List.set_cons_zero, List.set_cons_succ]
      refine any_take (i := 7) (some 59) (.int .i64 (k : Int)) rfl rfl (by kernel_rfl) (by kernel_rfl) (by kernel_rfl) (fun _ _ _ h => h) rfl (fun W hSw => ?_) (S0) ?_
      · (try dsimp only at hSw); go_simp <;> with_reducible rfl
      try simp only [Act.put, List.setIfInBounds_toArray, List.set_cons_zero, List.set_cons_succ]
      refine any_take (i := 8) (some 60) (.int .i64 ((k : Int) + 1)) rfl rfl (by kernel_rfl) (by kernel_rfl) (by kernel_rfl) (fun _ _ _ h => h) rfl (fun W hSw => ?_) (S0) ?_
      · (try dsimp only at hSw); go_simp <;> with_reducible rfl
      try simp only [Act.put, List.setIfInBounds_toArray, List.set_cons_zero, List.set_cons_succ]
      refine any_take (i := 9) (some 61) (.slice (some ⟨bo, fo, none⟩) (O.length - cO) 0) rfl rfl (by kernel_rfl) (by kernel_rfl) (by kernel_rfl) (fun _ _ _ h => h) rfl (fun W hSw => ?_) (S0) ?_
      · (try dsimp only at hSw); go_simp <;> with_reducible rfl
      try simp only [Act.put, List.setIfInBounds_toArray, List.set_cons_zero, List.set_cons_succ]
      refine wpAnyH_ready (rs := [1]) (by kernel_rfl) (by simp) ?_
      refine AllReadyH.cons rfl (fun K hK => ?_) AllReadyH.nil
      go_simp
      generalize hX : (w51.alloc (.cells #[] 3)) = w52
      have hb : Below w51.heap.size w51 w52 := by rw [← hX]; exact balloc _ _
      have hown : w52.ownsRow wr.heap.size 3 1 (.slice (some ⟨w51.heap.size, 0, none⟩) 0 0) 0 [] := by rw [← hX]; exact owns_new w51 wr.heap.size 3 1 (by omega)
      clear hX
      have kk := bthen ZR.out hb; clear ZR; have ZR := Lib.hid kk; clear kk
      have hsw52 := hb.size; clear hb
      have H_no := Lib.hid hown; clear hown
      refine hK.out _ _ (show (fun W : World => W.cell? ⟨Zt, 0, none⟩ = some (.int .i64 b) ∧ W.cell? ⟨Zt, 1, none⟩ = some (.int .i64 r) ∧ W.cell? ⟨Zt, 2, none⟩ = some (.slice AL R.length cL) ∧ W.cell? ⟨Zt, 3, none⟩ = some (.slice AS S.length cS)) _ from ⟨(bold ZR.out _ _ (by omega)).trans (has_cell HZT.out 0 rfl), (bold ZR.out _ _ (by omega)).trans (has_cell HZT.out 1 rfl), (bold ZR.out _ _ (by omega)).trans (has_cell HZT.out 2 rfl), (bold ZR.out _ _ (by omega)).trans (has_cell HZT.out 3 rfl)⟩) (fun _ => ?_)
      clear hK K
      try simp only [Act.put, List.setIfInBounds_toArray, List.set_cons_zero, List.set_cons_succ]
      refine wpAnyH_ready (rs := [5]) (by kernel_rfl) (by simp) ?_
      refine AllReadyH.cons rfl (fun K hK => ?_) AllReadyH.nil
      refine step_app rfl _ _ 29 rfl wr.heap.size 3 i0_i (.int .i64 0) 1 8 Try.underlying29 hi_i.out hz0_i.out hz1_i.out hz2_i.out rfl (by decide) _ 0 _ rfl H_no.out (some ⟨bo, fo, none⟩) k cO (intV pre) rfl (src_il2 HPL.out (HIP.out.below ZR.out)) (by unfold maxLen; omega) (by omega) (by omega) ?_
      intro aA ac w53 hown3 hgrow3 hrow3
      have kk := below_grow ZR.out hgrow3 (by omega) (fun b7 hb7 => (hrow3 b7 hb7).1); clear ZR; have ZR := Lib.hid kk; clear kk
      have hsw53 := hgrow3.size; clear hgrow3 hrow3 H_no
      have H_no := Lib.hid (show w53.ownsRow wr.heap.size 3 1 (.slice aA (0 + k) ac) (0 + k) (intV pre) from by simpa [intV] using hown3); clear hown3
      change K (Act.put _ (some 57) _) _
      refine hK.out _ _ (show (fun W : World => W.cell? ⟨Zt, 0, none⟩ = some (.int .i64 b) ∧ W.cell? ⟨Zt, 1, none⟩ = some (.int .i64 r) ∧ W.cell? ⟨Zt, 2, none⟩ = some (.slice AL R.length cL) ∧ W.cell? ⟨Zt, 3, none⟩ = some (.slice AS S.length cS)) _ from ⟨(bold ZR.out _ _ (by omega)).trans (has_cell HZT.out 0 rfl), (bold ZR.out _ _ (by omega)).trans (has_cell HZT.out 1 rfl), (bold ZR.out _ _ (by omega)).trans (has_cell HZT.out 2 rfl), (bold ZR.out _ _ (by omega)).trans (has_cell HZT.out 3 rfl)⟩) (fun _ => ?_)
      clear hK K
      try simp only [Act.put, List.setIfInBounds_toArray, List.set_cons_zero, List.set_cons_succ]
      refine wpAnyH_ready (rs := [10]) (by kernel_rfl) (by simp) ?_
      refine AllReadyH.cons rfl (fun K hK => ?_) AllReadyH.nil
      refine step_app rfl _ _ 29 rfl wr.heap.size 3 i0_i (.int .i64 0) 1 8 Try.underlying29 hi_i.out hz0_i.out hz1_i.out hz2_i.out rfl (by decide) (.slice aA (0 + k) ac) (0 + k) _ rfl H_no.out (some ⟨bo, fo, none⟩) 0 0 (intV ([] : List Int)) rfl (src_il2 (l := []) rfl (.inl rfl : IL w53 w53.heap.size (some ⟨bo, fo, none⟩) [])) (by unfold maxLen; omega) (by omega) (by omega) ?_
      intro eA ec w54 hown3 hgrow3 hrow3
      have kk := below_grow ZR.out hgrow3 (by omega) (fun b7 hb7 => (hrow3 b7 hb7).1); clear ZR; have ZR := Lib.hid kk; clear kk
      have hsw54 := hgrow3.size; clear hgrow3 hrow3 H_no
      have H_no := Lib.hid (show w54.ownsRow wr.heap.size 3 1 (.slice eA (0 + k + 0) ec) (0 + k + 0) (intV (pre ++ ([] : List Int))) from by simpa [intV] using hown3); clear hown3
      change K (Act.put _ (some 62) _) _
      refine hK.out _ _ (show (fun W : World => W.cell? ⟨Zt, 0, none⟩ = some (.int .i64 b) ∧ W.cell? ⟨Zt, 1, none⟩ = some (.int .i64 r) ∧ W.cell? ⟨Zt, 2, none⟩ = some (.slice AL R.length cL) ∧ W.cell? ⟨Zt, 3, none⟩ = some (.slice AS S.length cS)) _ from ⟨(bold ZR.out _ _ (by omega)).trans (has_cell HZT.out 0 rfl), (bold ZR.out _ _ (by omega)).trans (has_cell HZT.out 1 rfl), (bold ZR.out _ _ (by omega)).trans (has_cell HZT.out 2 rfl), (bold ZR.out _ _ (by omega)).trans (has_cell HZT.out 3 rfl)⟩) (fun _ => ?_)
      clear hK K
      try simp only [Act.put, List.setIfInBounds_toArray, List.set_cons_zero, List.set_cons_succ]
      refine wpAnyH_ready (rs := [11]) (by kernel_rfl) (by simp) ?_
      refine AllReadyH.cons rfl (fun K hK => ?_) AllReadyH.nil
      go_simp
      go_at_call 9
      have hlen9 : (pre ++ ([] : List Int)).length = k := by rw [List.length_append, HPL.out]; rfl
      have hin9 := rdIn_more (HIN.out.below (bthen HZB.out ZR.out)) (show w1.heap.size ≤ w54.heap.size by omega)
      refine (rideN w54 b r AL AS cL cS R S eA k ec (pre ++ ([] : List Int)) hlen9 HV9.out hin9 (by unfold maxLen; omega) (or_own' H_no.out).il).mono ?_
      rintro e w55 ⟨zA, zc, rfl, zo, hb⟩
      clear zo hin9 hlen9
      have kk := bthen ZR.out hb; clear ZR; have ZR := Lib.hid kk; clear kk
      have hsw55 := hb.size; clear hb
      go_wp2_with fail
      have S1 : (fun W : World => W.cell? ⟨Zt, 0, none⟩ = some (.int .i64 b) ∧ W.cell? ⟨Zt, 1, none⟩ = some (.int .i64 r) ∧ W.cell? ⟨Zt, 2, none⟩ = some (.slice AL R.length cL) ∧ W.cell? ⟨Zt, 3, none⟩ = some (.slice AS S.length cS)) w55 := ⟨(bold ZR.out _ _ (by omega)).trans (has_cell HZT.out 0 rfl), (bold ZR.out _ _ (by omega)).trans (has_cell HZT.out 1 rfl), (bold ZR.out _ _ (by omega)).trans (has_cell HZT.out 2 rfl), (bold ZR.out _ _ (by omega)).trans (has_cell HZT.out 3 rfl)⟩
      refine hK.out _ _ S1 (fun _ => ?_)
      clear hK K
      try simp only [Act.put, List.setIfInBounds_toArray, List.set_cons_zero, List.set_cons_succ]
      refine any_take (i := 12) (some 51) (.tuple #[.slice zA l8.length zc, .int .i64 f9, .bool true]) rfl rfl (by kernel_rfl) (by kernel_rfl) (by kernel_rfl) (fun _ _ _ h => h) rfl (fun W hSw => ?_) (S1) ?_
      · (try dsimp only at hSw); go_simp <;> with_reducible rfl
      try simp only [Act.put, List.setIfInBounds_toArray, List.set_cons_zero, List.set_cons_succ]
      refine any_take (i := 13) (some 64) (.slice zA l8.length zc) rfl rfl (by kernel_rfl) (by kernel_rfl) (by kernel_rfl) (fun _ _ _ h => h) rfl (fun W hSw => ?_) (S1) ?_
      · (try dsimp only at hSw); go_simp <;> with_reducible rfl
      try simp only [Act.put, List.setIfInBounds_toArray, List.set_cons_zero, List.set_cons_succ]
      refine any_take (i := 14) (some 65) (.int .i64 f9) rfl rfl (by kernel_rfl) (by kernel_rfl) (by kernel_rfl) (fun _ _ _ h => h) rfl (fun W hSw => ?_) (S1) ?_
      · (try dsimp only at hSw); go_simp <;> with_reducible rfl
      try simp only [Act.put, List.setIfInBounds_toArray, List.set_cons_zero, List.set_cons_succ]
      refine any_take (i := 15) (some 66) (.bool true) rfl rfl (by kernel_rfl) (by kernel_rfl) (by kernel_rfl) (fun _ _ _ h => h) rfl (fun W hSw => ?_) (S1) ?_
      · (try dsimp only at hSw); go_simp <;> with_reducible rfl
      try simp only [Act.put, List.setIfInBounds_toArray, List.set_cons_zero, List.set_cons_succ]
      refine any_take (i := 16) (some 12) (.slice zA l8.length zc) rfl rfl (by kernel_rfl) (by kernel_rfl) (by kernel_rfl) (fun _ _ _ h => h) rfl (fun W hSw => ?_) (S1) ?_
      · (try dsimp only at hSw); go_simp <;> with_reducible rfl
      try simp only [Act.put, List.setIfInBounds_toArray, List.set_cons_zero, List.set_cons_succ]
      refine any_take (i := 17) (some 13) (.int .i64 f9) rfl rfl (by kernel_rfl) (by kernel_rfl) (by kernel_rfl) (fun _ _ _ h => h) rfl (fun W hSw => ?_) (S1) ?_
      · (try dsimp only at hSw); go_simp <;> with_reducible rfl
      try simp only [Act.put, List.setIfInBounds_toArray, List.set_cons_zero, List.set_cons_succ]
      refine any_take (i := 18) (some 14) (.bool true) rfl rfl (by kernel_rfl) (by kernel_rfl) (by kernel_rfl) (fun _ _ _ h => h) rfl (fun W hSw => ?_) (S1) ?_
      · (try dsimp only at hSw); go_simp <;> with_reducible rfl
      try simp only [Act.put, List.setIfInBounds_toArray, List.set_cons_zero, List.set_cons_succ]
      refine wpAnyH_done (by kernel_rfl) ?_ _
      clear S0 S1 hccI hwc hOcn
      go_wp2_with fail
      go_roundw
      case rel => exact ⟨k + 1, by omega, by go_num, has_call HZT.out ZR.out, (HIL.out.below ZR.out).more ZR.out.size, bthen HZB.out ZR.out⟩
      case measure => simp [intOf]; omega
    · skip
      have hccI : ¬ ((k : Int) + 1 = (cO : Int)) := by omega
      have hwc : IntKind.i64.wrap ((k : Int) + 1) = (k : Int) + 1 := IntWalk.i64_in _ (by omega)
      have hOcn : ¬ (cO = k + 1) := by omega
      have hk01 : (0 : Int) ≤ (k : Int) + 1 := by omega
      have tc0 := has_cell HZT.out 0 rfl; have tc1 := has_cell HZT.out 1 rfl; have tc2 := has_cell HZT.out 2 rfl; have tc3 := has_cell HZT.out 3 rfl
      go_wp2_with fail
      have S0 : (fun W : World => W.cell? ⟨Zt, 0, none⟩ = some (.int .i64 b) ∧ W.cell? ⟨Zt, 1, none⟩ = some (.int .i64 r) ∧ W.cell? ⟨Zt, 2, none⟩ = some (.slice AL R.length cL) ∧ W.cell? ⟨Zt, 3, none⟩ = some (.slice AS S.length cS)) wr.drew := ⟨tc0, tc1, tc2, tc3⟩
      clear tc0 tc1 tc2 tc3
      refine wp_region_held_drew (S := (fun W : World => W.cell? ⟨Zt, 0, none⟩ = some (.int .i64 b) ∧ W.cell? ⟨Zt, 1, none⟩ = some (.int .i64 r) ∧ W.cell? ⟨Zt, 2, none⟩ = some (.slice AL R.length cL) ∧ W.cell? ⟨Zt, 3, none⟩ = some (.slice AS S.length cS))) (by kernel_rfl) S0 (fun _ => ?_)
      obtain ⟨w51, hdw⟩ : ∃ q, q = wr.drew := ⟨_, rfl⟩
      rw [← hdw] at S0 ⊢
      have hb : Below wr.heap.size wr w51 := by rw [hdw]; exact (Below.refl _ _).drew
      clear hdw
      have kk := bthen ZR.out hb; clear ZR; have ZR := Lib.hid kk; clear kk
      have hsw51 := hb.size; clear hb
      refine any_take (i := 0) (some 52) (.agg #[.int .i64 b, .int .i64 r, .slice AL R.length cL, .slice AS S.length cS]) rfl rfl (by kernel_rfl) (by kernel_rfl) (by kernel_rfl) (fun _ _ _ h => h) rfl (fun W hSw => ?_) (S0) ?_
      · (try dsimp only at hSw); go_simp <;> with_reducible rfl
      try simp only [Act.put, List.setIfInBounds_toArray, List.set_cons_zero, List.set_cons_succ]
      refine any_take (i := 2) (some 54) (.slice (some ⟨bo, fo, none⟩) O.length cO) rfl rfl (by kernel_rfl) (by kernel_rfl) (by kernel_rfl) (fun _ _ _ h => h) rfl (fun W hSw => ?_) (S0) ?_
      · (try dsimp only at hSw); go_simp <;> with_reducible rfl
      try simp only [Act.put, List.setIfInBounds_toArray, List.set_cons_zero, List.set_cons_succ]
      refine any_take (i := 3) (some 55) (.int .i64 (k : Int)) rfl rfl (by kernel_rfl) (by kernel_rfl) (by kernel_rfl) (fun _ _ _ h => h) rfl (fun W hSw => ?_) (S0) ?_
      · (try dsimp only at hSw); go_simp <;> with_reducible rfl
      try simp only [Act.put, List.setIfInBounds_toArray, List.set_cons_zero, List.set_cons_succ]
      refine any_take (i := 4) (some 56) (.slice (some ⟨bo, fo, none⟩) k cO) rfl rfl (by kernel_rfl) (by kernel_rfl) (by kernel_rfl) (fun _ _ _ h => h) rfl (fun W hSw => ?_) (S0) ?_
      · (try dsimp only at hSw); go_simp <;> with_reducible rfl
      try simp only [Act.put, List.setIfInBounds_toArray, List.set_cons_zero, List.set_cons_succ]
      refine any_take (i := 6) (some 58) (.slice (some ⟨bo, fo, none⟩) O.length cO) rfl rfl (by kernel_rfl) (by kernel_rfl) (by kernel_rfl) (fun _ _ _ h => h) rfl (fun W hSw => ?_) (S0) ?_
      · (try dsimp only at hSw); go_simp <;> with_reducible rfl
      try simp only [Act.put, List.setIfInBounds_toArray, List.set_cons_zero, List.set_cons_succ]
      refine any_take (i := 7) (some 59) (.int .i64 (k : Int)) rfl rfl (by kernel_rfl) (by kernel_rfl) (by kernel_rfl) (fun _ _ _ h => h) rfl (fun W hSw => ?_) (S0) ?_
      · (try dsimp only at hSw); go_simp <;> with_reducible rfl
      try simp only [Act.put, List.setIfInBounds_toArray, List.set_cons_zero, List.set_cons_succ]
      refine any_take (i := 8) (some 60) (.int .i64 ((k : Int) + 1)) rfl rfl (by kernel_rfl) (by kernel_rfl) (by kernel_rfl) (fun _ _ _ h => h) rfl (fun W hSw => ?_) (S0) ?_
      · (try dsimp only at hSw); go_simp <;> with_reducible rfl
      try simp only [Act.put, List.setIfInBounds_toArray, List.set_cons_zero, List.set_cons_succ]
      refine any_take (i := 9) (some 61) (.slice (some ⟨bo, fo + (k + 1), none⟩) (O.length - (k + 1)) (cO - (k + 1))) rfl rfl (by kernel_rfl) (by kernel_rfl) (by kernel_rfl) (fun _ _ _ h => h) rfl (fun W hSw => ?_) (S0) ?_
      · (try dsimp only at hSw); go_simp <;> with_reducible rfl
      try simp only [Act.put, List.setIfInBounds_toArray, List.set_cons_zero, List.set_cons_succ]
      refine wpAnyH_ready (rs := [1]) (by kernel_rfl) (by simp) ?_
      refine AllReadyH.cons rfl (fun K hK => ?_) AllReadyH.nil
      go_simp
      generalize hX : (w51.alloc (.cells #[] 3)) = w52
      have hb : Below w51.heap.size w51 w52 := by rw [← hX]; exact balloc _ _
      have hown : w52.ownsRow wr.heap.size 3 1 (.slice (some ⟨w51.heap.size, 0, none⟩) 0 0) 0 [] := by rw [← hX]; exact owns_new w51 wr.heap.size 3 1 (by omega)
      clear hX
      have kk := bthen ZR.out hb; clear ZR; have ZR := Lib.hid kk; clear kk
      have hsw52 := hb.size; clear hb
      have H_no := Lib.hid hown; clear hown
      refine hK.out _ _ (show (fun W : World => W.cell? ⟨Zt, 0, none⟩ = some (.int .i64 b) ∧ W.cell? ⟨Zt, 1, none⟩ = some (.int .i64 r) ∧ W.cell? ⟨Zt, 2, none⟩ = some (.slice AL R.length cL) ∧ W.cell? ⟨Zt, 3, none⟩ = some (.slice AS S.length cS)) _ from ⟨(bold ZR.out _ _ (by omega)).trans (has_cell HZT.out 0 rfl), (bold ZR.out _ _ (by omega)).trans (has_cell HZT.out 1 rfl), (bold ZR.out _ _ (by omega)).trans (has_cell HZT.out 2 rfl), (bold ZR.out _ _ (by omega)).trans (has_cell HZT.out 3 rfl)⟩) (fun _ => ?_)
      clear hK K
      try simp only [Act.put, List.setIfInBounds_toArray, List.set_cons_zero, List.set_cons_succ]
      refine wpAnyH_ready (rs := [5]) (by kernel_rfl) (by simp) ?_
      refine AllReadyH.cons rfl (fun K hK => ?_) AllReadyH.nil
      refine step_app rfl _ _ 29 rfl wr.heap.size 3 i0_i (.int .i64 0) 1 8 Try.underlying29 hi_i.out hz0_i.out hz1_i.out hz2_i.out rfl (by decide) _ 0 _ rfl H_no.out (some ⟨bo, fo, none⟩) k cO (intV pre) rfl (src_il2 HPL.out (HIP.out.below ZR.out)) (by unfold maxLen; omega) (by omega) (by omega) ?_
      intro aA ac w53 hown3 hgrow3 hrow3
      have kk := below_grow ZR.out hgrow3 (by omega) (fun b7 hb7 => (hrow3 b7 hb7).1); clear ZR; have ZR := Lib.hid kk; clear kk
      have hsw53 := hgrow3.size; clear hgrow3 hrow3 H_no
      have H_no := Lib.hid (show w53.ownsRow wr.heap.size 3 1 (.slice aA (0 + k) ac) (0 + k) (intV pre) from by simpa [intV] using hown3); clear hown3
      change K (Act.put _ (some 57) _) _
      refine hK.out _ _ (show (fun W : World => W.cell? ⟨Zt, 0, none⟩ = some (.int .i64 b) ∧ W.cell? ⟨Zt, 1, none⟩ = some (.int .i64 r) ∧ W.cell? ⟨Zt, 2, none⟩ = some (.slice AL R.length cL) ∧ W.cell? ⟨Zt, 3, none⟩ = some (.slice AS S.length cS)) _ from ⟨(bold ZR.out _ _ (by omega)).trans (has_cell HZT.out 0 rfl), (bold ZR.out _ _ (by omega)).trans (has_cell HZT.out 1 rfl), (bold ZR.out _ _ (by omega)).trans (has_cell HZT.out 2 rfl), (bold ZR.out _ _ (by omega)).trans (has_cell HZT.out 3 rfl)⟩) (fun _ => ?_)
      clear hK K
      try simp only [Act.put, List.setIfInBounds_toArray, List.set_cons_zero, List.set_cons_succ]
      refine wpAnyH_ready (rs := [10]) (by kernel_rfl) (by simp) ?_
      refine AllReadyH.cons rfl (fun K hK => ?_) AllReadyH.nil
      refine step_app rfl _ _ 29 rfl wr.heap.size 3 i0_i (.int .i64 0) 1 8 Try.underlying29 hi_i.out hz0_i.out hz1_i.out hz2_i.out rfl (by decide) (.slice aA (0 + k) ac) (0 + k) _ rfl H_no.out (some ⟨bo, fo + (k + 1), none⟩) (O.length - (k + 1)) (cO - (k + 1)) (intV suf) rfl (src_il2 (HSL.out.trans HM2.out.symm) (HIS.out.below ZR.out)) (by unfold maxLen; omega) (by omega) (by omega) ?_
      intro eA ec w54 hown3 hgrow3 hrow3
      have kk := below_grow ZR.out hgrow3 (by omega) (fun b7 hb7 => (hrow3 b7 hb7).1); clear ZR; have ZR := Lib.hid kk; clear kk
      have hsw54 := hgrow3.size; clear hgrow3 hrow3 H_no
      have H_no := Lib.hid (show w54.ownsRow wr.heap.size 3 1 (.slice eA (0 + k + (O.length - (k + 1))) ec) (0 + k + (O.length - (k + 1))) (intV (pre ++ suf)) from by simpa [intV] using hown3); clear hown3
      change K (Act.put _ (some 62) _) _
      refine hK.out _ _ (show (fun W : World => W.cell? ⟨Zt, 0, none⟩ = some (.int .i64 b) ∧ W.cell? ⟨Zt, 1, none⟩ = some (.int .i64 r) ∧ W.cell? ⟨Zt, 2, none⟩ = some (.slice AL R.length cL) ∧ W.cell? ⟨Zt, 3, none⟩ = some (.slice AS S.length cS)) _ from ⟨(bold ZR.out _ _ (by omega)).trans (has_cell HZT.out 0 rfl), (bold ZR.out _ _ (by omega)).trans (has_cell HZT.out 1 rfl), (bold ZR.out _ _ (by omega)).trans (has_cell HZT.out 2 rfl), (bold ZR.out _ _ (by omega)).trans (has_cell HZT.out 3 rfl)⟩) (fun _ => ?_)
      clear hK K
      try simp only [Act.put, List.setIfInBounds_toArray, List.set_cons_zero, List.set_cons_succ]
      refine wpAnyH_ready (rs := [11]) (by kernel_rfl) (by simp) ?_
      refine AllReadyH.cons rfl (fun K hK => ?_) AllReadyH.nil
      go_simp
      go_at_call 9
      have hlen9 : (pre ++ suf).length = (k + (O.length - (k + 1))) := by rw [List.length_append, HPL.out]; rw [HSL.out, HM2.out]
      have hin9 := rdIn_more (HIN.out.below (bthen HZB.out ZR.out)) (show w1.heap.size ≤ w54.heap.size by omega)
      refine (rideN w54 b r AL AS cL cS R S eA (k + (O.length - (k + 1))) ec (pre ++ suf) hlen9 HV9.out hin9 (by unfold maxLen; omega) (or_own' H_no.out).il).mono ?_
      rintro e w55 ⟨zA, zc, rfl, zo, hb⟩
      clear zo hin9 hlen9
      have kk := bthen ZR.out hb; clear ZR; have ZR := Lib.hid kk; clear kk
      have hsw55 := hb.size; clear hb
      go_wp2_with fail
      have S1 : (fun W : World => W.cell? ⟨Zt, 0, none⟩ = some (.int .i64 b) ∧ W.cell? ⟨Zt, 1, none⟩ = some (.int .i64 r) ∧ W.cell? ⟨Zt, 2, none⟩ = some (.slice AL R.length cL) ∧ W.cell? ⟨Zt, 3, none⟩ = some (.slice AS S.length cS)) w55 := ⟨(bold ZR.out _ _ (by omega)).trans (has_cell HZT.out 0 rfl), (bold ZR.out _ _ (by omega)).trans (has_cell HZT.out 1 rfl), (bold ZR.out _ _ (by omega)).trans (has_cell HZT.out 2 rfl), (bold ZR.out _ _ (by omega)).trans (has_cell HZT.out 3 rfl)⟩
      refine hK.out _ _ S1 (fun _ => ?_)
      clear hK K
      try simp only [Act.put, List.setIfInBounds_toArray, List.set_cons_zero, List.set_cons_succ]
      refine any_take (i := 12) (some 51) (.tuple #[.slice zA l8.length zc, .int .i64 f9, .bool true]) rfl rfl (by kernel_rfl) (by kernel_rfl) (by kernel_rfl) (fun _ _ _ h => h) rfl (fun W hSw => ?_) (S1) ?_
      · (try dsimp only at hSw); go_simp <;> with_reducible rfl
      try simp only [Act.put, List.setIfInBounds_toArray, List.set_cons_zero, List.set_cons_succ]
      refine any_take (i := 13) (some 64) (.slice zA l8.length zc) rfl rfl (by kernel_rfl) (by kernel_rfl) (by kernel_rfl) (fun _ _ _ h => h) rfl (fun W hSw => ?_) (S1) ?_
      · (try dsimp only at hSw); go_simp <;> with_reducible rfl
      try simp only [Act.put, List.setIfInBounds_toArray, List.set_cons_zero, List.set_cons_succ]
      refine any_take (i := 14) (some 65) (.int .i64 f9) rfl rfl (by kernel_rfl) (by kernel_rfl) (by kernel_rfl) (fun _ _ _ h => h) rfl (fun W hSw => ?_) (S1) ?_
      · (try dsimp only at hSw); go_simp <;> with_reducible rfl
      try simp only [Act.put, List.setIfInBounds_toArray, List.set_cons_zero, List.set_cons_succ]
      refine any_take (i := 15) (some 66) (.bool true) rfl rfl (by kernel_rfl) (by kernel_rfl) (by kernel_rfl) (fun _ _ _ h => h) rfl (fun W hSw => ?_) (S1) ?_
      · (try dsimp only at hSw); go_simp <;> with_reducible rfl
      try simp only [Act.put, List.setIfInBounds_toArray, List.set_cons_zero, List.set_cons_succ]
      refine any_take (i := 16) (some 12) (.slice zA l8.length zc) rfl rfl (by kernel_rfl) (by kernel_rfl) (by kernel_rfl) (fun _ _ _ h => h) rfl (fun W hSw => ?_) (S1) ?_
      · (try dsimp only at hSw); go_simp <;> with_reducible rfl
      try simp only [Act.put, List.setIfInBounds_toArray, List.set_cons_zero, List.set_cons_succ]
      refine any_take (i := 17) (some 13) (.int .i64 f9) rfl rfl (by kernel_rfl) (by kernel_rfl) (by kernel_rfl) (fun _ _ _ h => h) rfl (fun W hSw => ?_) (S1) ?_
      · (try dsimp only at hSw); go_simp <;> with_reducible rfl
      try simp only [Act.put, List.setIfInBounds_toArray, List.set_cons_zero, List.set_cons_succ]
      refine any_take (i := 18) (some 14) (.bool true) rfl rfl (by kernel_rfl) (by kernel_rfl) (by kernel_rfl) (fun _ _ _ h => h) rfl (fun W hSw => ?_) (S1) ?_
      · (try dsimp only at hSw); go_simp <;> with_reducible rfl
      try simp only [Act.put, List.setIfInBounds_toArray, List.set_cons_zero, List.set_cons_succ]
      refine wpAnyH_done (by kernel_rfl) ?_ _
      clear S0 S1 hccI hwc hOcn
      go_wp2_with fail
      go_roundw
      case rel => exact ⟨k + 1, by omega, by go_num, has_call HZT.out ZR.out, (HIL.out.below ZR.out).more ZR.out.size, bthen HZB.out ZR.out⟩
      case measure => simp [intOf]; omega
end Go.Proofs.Ytkchhnnklppbeaa
