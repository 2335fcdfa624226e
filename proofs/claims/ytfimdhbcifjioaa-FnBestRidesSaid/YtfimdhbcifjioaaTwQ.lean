/- Chapter 7: the best of all orders, by the model; the drawing of a round for a law (gen_twq.py). -/
import Derived.Test.YtfimdhbcifjioaaTwO
import Derived.Test.YtfimdhbcifjioaaTouG
import Derived.Deep.DeepCutAuto
import Derived.RegionTactic
import Derived.Deep.RegionWith
import Derived.Test.YtfimdhbcifjioaaAny
import Derived.Deep.RegionHeld3
import Derived.Deep.DeepMust
import Derived.WalkLawsBesides
namespace Go.Proofs.Ytfimdhbcifjioaa
open Go.RowKit
set_option linter.unusedVariables false

theorem cntP_le {n : Nat} (h : n ≤ 4) : cntP n ≤ 85 := by
  rcases n with _ | _ | _ | _ | _ | n
  all_goals first | omega | decide
theorem rideT_nil {b r : Int} {G : List (List Int)} {S : List Sp} (h : RoundT b r G S) : ∃ d, rideT b r G S [] = some d := by
  have ho : orderB b r G S [] = true := (orderB_iff _ _ _ _ _).2 ⟨h, List.nodup_nil, fun x hx => by cases hx⟩
  exact ⟨_, (rideT_yes ho).trans (driveT_yes rfl (by show (loadT S [] : Int) ≤ r; simpa [loadT] using h.r0))⟩
theorem or_far {w w' : World} {base g : Nat} {e T : TypeId} {A : Option Addr} {xs : List Value} {cs : Array Value} (h : OR w base e A xs) (hz : Has w g T cs) (hne : e ≠ T) (ho : Only w g w') : OR w' base e A xs := by
  rcases h with h | ⟨b, cur, rfl, hb, hh, hc⟩
  · exact .inl h
  · exact .inr ⟨b, cur, rfl, hb, has_onl hh ho (has_ne hh hz hne), hc⟩
theorem spL_more {w : World} {B B' : Nat} {A : Option Addr} {S : List Sp} (h : spL w B A S) (hB : B ≤ B') : spL w B' A S := by
  rcases h with h | ⟨b, off, h1, h2, h3⟩
  · exact .inl h
  · exact .inr ⟨b, off, h1, by omega, h3⟩
theorem rdIn_more {w : World} {B B' : Nat} {AL AS : Option Addr} {R : List Rw} {S : List Sp} (h : RdIn w B AL R AS S) (hB : B ≤ B') : RdIn w B' AL R AS S :=
  ⟨h.rows.more hB, fun x hx => ⟨(h.vals x hx).1.more hB, (h.vals x hx).2⟩, spL_more h.stops hB, h.lr, h.ls⟩
/-- what a ride answers -/
def rideW (x : Option Dv) : List Int × Int × Bool := match x with | none => ([], 0, false) | some d => (d.begins, d.fin, true)
def AnsW (v : List Int × Int × Bool) (w : World) (e : Ending) (w' : World) : Prop := ∃ (A' : Option Addr) (c' : Nat), e = .returned (.tuple #[.slice A' v.1.length c', .int .i64 v.2.1, .bool v.2.2]) ∧ OR w' w.heap.size 3 A' (intV v.1) ∧ Below w.heap.size w w'
theorem rideW_v {b r : Int} {G : List (List Int)} {S : List Sp} {O : List Int} {w : World} {e : Ending} {w' : World} {v : List Int × Int × Bool} (hv : rideW (rideT b r G S O) = v) (h : RideA b r G S O w e w') : AnsW v w e w' := by
  subst hv
  obtain ⟨⟨h1, rfl⟩ | ⟨d, A', c', h1, h2, h3, rfl⟩, hb⟩ := h
  · rw [h1]; exact ⟨none, 0, rfl, .inl rfl, hb⟩
  · rw [h1]; exact ⟨A', c', by simp only [rideW, h2], h3, hb⟩
def BestW (b r : Int) (G : List (List Int)) (S : List Sp) (w : World) (e : Ending) (w' : World) : Prop := ∃ (A : Option Addr) (c : Nat) (f : Int) (O : List Int) (d : Dv), e = .returned (.tuple #[.slice A O.length c, .int .i64 f, .bool true]) ∧ IL w' w'.heap.size A O ∧ O.length ≤ 4 ∧ O.length ≤ c ∧ c ≤ maxLen ∧ rideT b r G S O = some d ∧ Below w.heap.size w w'
theorem best_init {b r : Int} {G : List (List Int)} {S : List Sp} : ∀ (g : Bool), g = false → (g = true → ∃ d, rideT b r G S [] = some d) := fun g h1 h2 => by rw [h1] at h2; cases h2
set_option maxRecDepth 100000 in
set_option maxHeartbeats 8000000 in
theorem best_any (w0 w1 : World) (b r : Int) (AL AS : Option Addr) (cL cS : Nat) (R : List Rw) (S : List Sp) (hT : RoundT b r (gOf R) S) (hS4 : S.length ≤ 4) (hR : RdIn w0 w0.heap.size AL R AS S) (hb0 : Below w0.heap.size w0 w1) :
    Calls Try.prog 20 #[.agg #[.int .i64 b, .int .i64 r, .slice AL R.length cL, .slice AS S.length cS], .int .i64 0] w1 (BestW b r (gOf R) S w1) := by
  have HIN := Lib.hid hR; have HT := Lib.hid hT; have ZB := Lib.hid hb0; have ZW := Lib.hid (Below.refl w1.heap.size w1)
  have HRB := Lib.hid ((roundB_iff _ _ _ _).2 hT)
  clear hR hT hb0
  go_enter Try.func20, Try.ntmps20
  go_wp2_with fail
  generalize hX : (w1.alloc (.cells #[.int .i64 b, .int .i64 r, .slice AL R.length cL, .slice AS S.length cS] 27)) = w2
  have hb : Below w1.heap.size w1 w2 := by rw [← hX]; exact balloc _ _
  have hk : Has w2 w1.heap.size 27 #[.int .i64 b, .int .i64 r, .slice AL R.length cL, .slice AS S.length cS] := by rw [← hX]; exact has_new _ _ _
  clear hX
  have kk := bthen ZB.out hb; clear ZB; have ZB := Lib.hid kk; clear kk
  have kk := bthen ZW.out hb; clear ZW; have ZW := Lib.hid kk; clear kk
  have hsw2 := hb.size; clear hb
  obtain ⟨Zt, hZe⟩ : ∃ q, w1.heap.size = q := ⟨_, rfl⟩
  rw [hZe] at hk ⊢
  have hltt : Zt < w2.heap.size := has_lt hk
  have HX_t := Lib.hid hk; clear hk hZe
  obtain ⟨Ze, hZe⟩ : ∃ q, Zt + 1 = q := ⟨_, rfl⟩
  generalize hX : (w2.alloc (.cells #[] 3)) = w3
  have hb : Below w2.heap.size w2 w3 := by rw [← hX]; exact balloc _ _
  clear hX
  have kk := has_call HX_t.out hb; clear HX_t; have HX_t := Lib.hid kk; clear kk
  have kk := bthen ZB.out hb; clear ZB; have ZB := Lib.hid kk; clear kk
  have kk := bthen ZW.out hb; clear ZW; have ZW := Lib.hid kk; clear kk
  have hsw3 := hb.size; clear hb
  rw [hZe]
  clear hZe
  refine (roundS_any _ w0.heap.size b r AL AS cL cS R S ZB.out.size (HIN.out.below ZB.out)).mono ?_
  rintro e w4 ⟨rfl, hb⟩
  rw [HRB.out]
  have kk := has_call HX_t.out hb; clear HX_t; have HX_t := Lib.hid kk; clear kk
  have kk := bthen ZB.out hb; clear ZB; have ZB := Lib.hid kk; clear kk
  have kk := bthen ZW.out hb; clear ZW; have ZW := Lib.hid kk; clear kk
  have hsw4 := hb.size; clear hb
  have tc0 := has_cell HX_t.out 0 rfl; have tc1 := has_cell HX_t.out 1 rfl; have tc2 := has_cell HX_t.out 2 rfl; have tc3 := has_cell HX_t.out 3 rfl
  have tl := has_lt HX_t.out
  go_wp2_with fail
  clear tc0 tc1 tc2 tc3 tl
  obtain ⟨Zd, hZd⟩ : ∃ q, w4.heap.size = q := ⟨_, rfl⟩
  generalize hX : (w4.alloc (.cells #[] 3)) = w5
  have hb : Below w4.heap.size w4 w5 := by rw [← hX]; exact balloc _ _
  clear hX
  have kk := has_call HX_t.out hb; clear HX_t; have HX_t := Lib.hid kk; clear kk
  have kk := bthen ZB.out hb; clear ZB; have ZB := Lib.hid kk; clear kk
  have kk := bthen ZW.out hb; clear ZW; have ZW := Lib.hid kk; clear kk
  have hsw5 := hb.size; clear hb
  rw [hZd]
  clear hZd
  have hcp := cntP_le hS4
  refine (ordS_all S.length hS4 S.length w5 w5.heap.size none (some ⟨Zd, 0, none⟩) 0 0 0 0 [] [] rfl (by omega) ((orderT_iff _ _).2 ⟨List.nodup_nil, fun x hx => by cases hx⟩) (.inl rfl) (Nat.le_refl _) rfl (World.ownsRow_nil _ _ _ _) (fun x hx => by cases hx) (by omega)).mono ?_
  rintro e w6 ⟨AA, N, cA, T, rfl, hN, hTl, hT4, hown, hrk, hkp⟩
  rw [List.nil_append] at hN hown hrk
  have hb := hkp.below; clear hkp
  have kk := has_call HX_t.out hb; clear HX_t; have HX_t := Lib.hid kk; clear kk
  have kk := bthen ZB.out hb; clear ZB; have ZB := Lib.hid kk; clear kk
  have kk := bthen ZW.out hb; clear ZW; have ZW := Lib.hid kk; clear kk
  have hsw6 := hb.size; clear hb
  have hN1 : 1 ≤ N := by rw [← hN]; simp
  have hNb : N ≤ 1000 := by have := cntP_le hS4; rw [← hN]; simp only [List.length_cons]; omega
  obtain ⟨LL, hLL⟩ : ∃ q, (⟨some ⟨Zd, 0, none⟩, 0, []⟩ : Rw) :: T = q := ⟨_, rfl⟩
  have hfirst : ∀ x, LL[0]? = some x → x.l = [] := fun x hx => by rw [← hLL] at hx; simp at hx; rw [← hx]
  have hcaps : ∀ x ∈ LL, x.l.length ≤ 4 ∧ x.l.length ≤ x.c ∧ x.c ≤ maxLen := fun x hx => by
    rw [← hLL] at hx; rcases List.mem_cons.1 hx with hx | hx
    · subst hx; exact ⟨by simp, by simp, Nat.zero_le _⟩
    · exact hT4 x hx
  rw [hLL] at hN hown hrk
  have hrw : rwL w6 w6.heap.size AA LL := by
    rcases or_own' hown with h3 | ⟨g, cur, rfl, _, h4, h5⟩
    · exact .inl (by simpa [rwV] using h3)
    · exact .inr ⟨g, 0, rfl, has_lt h4, fun k x hx => by rw [Nat.zero_add]; exact has_cell h4 k (h5 k _ (by simp [rwV, hx]))⟩
  have hvl : ∀ x ∈ LL, IL w6 w6.heap.size x.A x.l := fun x hx => (hrk x hx).il
  have HN := Lib.hid hN; have HFI := Lib.hid hfirst; have HCA := Lib.hid hcaps; have HRW := Lib.hid hrw; have HVL := Lib.hid hvl; clear hN hfirst hcaps hrw hvl hown hrk hT4 hTl hLL
  have ZL := Lib.hid (Below.refl w6.heap.size w6)
  go_wp2_with fail
  go_loopw [7, 8, 9, 11] (fun bv fv gv iv wr => ∃ (k n1 : Nat) (f1 : Int) (g1 : Bool) (A1 : Option Addr) (c1 : Nat) (l1 : List Int), k ≤ N ∧ iv = .int .i64 (k : Int) ∧ bv = .slice A1 n1 c1 ∧ fv = .int .i64 f1 ∧ gv = .bool g1 ∧ l1.length = n1 ∧ n1 ≤ 4 ∧ n1 ≤ c1 ∧ c1 ≤ maxLen ∧ (g1 = true → ∃ d, rideT b r (gOf R) S l1 = some d) ∧ (0 < k → g1 = true) ∧ IL wr wr.heap.size A1 l1 ∧ Has wr Zt 27 #[.int .i64 b, .int .i64 r, .slice AL R.length cL, .slice AS S.length cS] ∧ Below w0.heap.size w0 wr ∧ Below w1.heap.size w1 wr ∧ Below w6.heap.size w6 wr) (fun _ _ _ iv _ => N - (intOf iv).toNat)
  case atStart => exact ⟨0, 0, 0, false, some ⟨Ze, 0, none⟩, 0, [], Nat.zero_le _, rfl, rfl, rfl, rfl, rfl, Nat.zero_le _, Nat.le_refl _, Nat.zero_le _, best_init false rfl, (fun h => absurd h (by omega)), .inl rfl, HX_t.out, ZB.out, ZW.out, ZL.out⟩
  clear HX_t ZB ZW ZL
  case round =>
    obtain ⟨k, n1, f1, g1, A1, c1, l1, hk, rfl, rfl, rfl, rfl, hl1, h14, h1c, hc1, hfd, hkg, hil, hzt, hz0, hz1, hzl⟩ := hrel
    have HL1 := Lib.hid hl1; have HFD := Lib.hid hfd; have HKG := Lib.hid hkg; have HI_b := Lib.hid hil; have HX_t := Lib.hid hzt; have ZB := Lib.hid hz0; have ZW := Lib.hid hz1; have ZL := Lib.hid hzl; have HC1 := Lib.hid hc1; clear hl1 hfd hkg hil hzt hz0 hz1 hzl hc1
    have hswr := ZL.out.size
    have hltt : Zt < wr.heap.size := has_lt HX_t.out
    by_cases hlt : k < N
    · skip
      obtain ⟨bl, fl, xx, hAA, hblB, hxx, hl0⟩ := (HRW.out.below ZL.out).at_ (k := k) (by have := HN.out; omega)
      have hcap := HCA.out xx (List.mem_of_getElem? hxx)
      have hxil := HVL.out xx (List.mem_of_getElem? hxx)
      have hk0 : k = 0 → xx.l = [] := fun h => HFI.out xx (by rw [← h]; exact hxx)
      obtain ⟨XA, xc, xl⟩ := xx
      dsimp only at hcap hxil hk0 hl0
      obtain ⟨hx4, hxc, hxm⟩ := hcap
      unfold maxLen at hxm
      have HXC := Lib.hid (show xl.length ≤ xc ∧ xc ≤ maxLen from ⟨hxc, by unfold maxLen; omega⟩)
      have HXI := Lib.hid hxil; have HK0 := Lib.hid hk0; clear hxil hk0 hxx
      subst hAA
      have hxn : ¬ ((xl.length : Int) < 0) := by omega
      have hkN : (k : Int) < (N : Int) := by omega
      obtain ⟨v, hv⟩ : ∃ v, rideT b r (gOf R) S xl = v := ⟨_, rfl⟩
      obtain ⟨lv, fv, gv, hw9⟩ : ∃ lv fv gv, rideW v = (lv, fv, gv) := ⟨_, _, _, rfl⟩
      have HV := Lib.hid (show rideW (rideT b r (gOf R) S xl) = (lv, fv, gv) by rw [hv]; exact hw9)
      have HVV := Lib.hid hv; have HW9 := Lib.hid hw9; clear hv hw9
      go_wp2_with fail
      have tc0 := has_cell HX_t.out 0 rfl; have tc1 := has_cell HX_t.out 1 rfl; have tc2 := has_cell HX_t.out 2 rfl; have tc3 := has_cell HX_t.out 3 rfl
      have tl := has_lt HX_t.out
      have S0 : (fun W : World => (W.cell? ⟨Zt, 0, none⟩ = some (.int .i64 b) ∧ W.cell? ⟨Zt, 1, none⟩ = some (.int .i64 r) ∧ W.cell? ⟨Zt, 2, none⟩ = some (.slice AL R.length cL) ∧ W.cell? ⟨Zt, 3, none⟩ = some (.slice AS S.length cS)) ∧ W.cell? ⟨bl, fl + k, none⟩ = some (.slice XA xl.length xc)) wr.drew := ⟨⟨tc0, tc1, tc2, tc3⟩, hl0⟩
      clear tc0 tc1 tc2 tc3 tl
      have HL0 := Lib.hid hl0; clear hl0
      refine wp_region_held_drew (S := (fun W : World => (W.cell? ⟨Zt, 0, none⟩ = some (.int .i64 b) ∧ W.cell? ⟨Zt, 1, none⟩ = some (.int .i64 r) ∧ W.cell? ⟨Zt, 2, none⟩ = some (.slice AL R.length cL) ∧ W.cell? ⟨Zt, 3, none⟩ = some (.slice AS S.length cS)) ∧ W.cell? ⟨bl, fl + k, none⟩ = some (.slice XA xl.length xc))) (by kernel_rfl) S0 (fun _ => ?_)
      obtain ⟨w7, hdw⟩ : ∃ q, q = wr.drew := ⟨_, rfl⟩
      rw [← hdw] at S0 ⊢
      have hb : Below wr.heap.size wr w7 := by rw [hdw]; exact (Below.refl _ _).drew
      clear hdw
      have hbr := hb
      have kk := has_call HX_t.out hb; clear HX_t; have HX_t := Lib.hid kk; clear kk
      have kk := (HI_b.out.below hb).more hb.size; clear HI_b; have HI_b := Lib.hid kk; clear kk
      have kk := bthen ZB.out hb; clear ZB; have ZB := Lib.hid kk; clear kk
      have kk := bthen ZW.out hb; clear ZW; have ZW := Lib.hid kk; clear kk
      have kk := bthen ZL.out hb; clear ZL; have ZL := Lib.hid kk; clear kk
      have hsw7 := hb.size; clear hb
      refine any_take (i := 0) (some 38) (.agg #[.int .i64 b, .int .i64 r, .slice AL R.length cL, .slice AS S.length cS]) rfl rfl (by kernel_rfl) (by kernel_rfl) (by kernel_rfl) (fun _ _ _ h => h) rfl (fun W hSw => ?_) (S0) ?_
      · (try dsimp only at hSw); go_simp <;> with_reducible rfl
      try simp only [Act.put, List.setIfInBounds_toArray, List.set_cons_zero, List.set_cons_succ]
      refine any_take (i := 1) (some 39) (.slice (some ⟨bl, fl, none⟩) N cA) rfl rfl (by kernel_rfl) (by kernel_rfl) (by kernel_rfl) (fun _ _ _ h => h) rfl (fun W hSw => ?_) (S0) ?_
      · (try dsimp only at hSw); go_simp <;> with_reducible rfl
      try simp only [Act.put, List.setIfInBounds_toArray, List.set_cons_zero, List.set_cons_succ]
      refine any_take (i := 2) (some 40) (.int .i64 (k : Int)) rfl rfl (by kernel_rfl) (by kernel_rfl) (by kernel_rfl) (fun _ _ _ h => h) rfl (fun W hSw => ?_) (S0) ?_
      · (try dsimp only at hSw); go_simp <;> with_reducible rfl
      try simp only [Act.put, List.setIfInBounds_toArray, List.set_cons_zero, List.set_cons_succ]
      refine any_take (i := 3) (some 41) (.pointer (some ⟨bl, fl + k, none⟩)) rfl rfl (by kernel_rfl) (by kernel_rfl) (by kernel_rfl) (fun _ _ _ h => h) rfl (fun W hSw => ?_) (S0) ?_
      · (try dsimp only at hSw); go_simp <;> with_reducible rfl
      try simp only [Act.put, List.setIfInBounds_toArray, List.set_cons_zero, List.set_cons_succ]
      refine any_take (i := 4) (some 42) (.slice XA xl.length xc) rfl rfl (by kernel_rfl) (by kernel_rfl) (by kernel_rfl) (fun _ _ _ h => h) rfl (fun W hSw => ?_) (S0) ?_
      · (try dsimp only at hSw); go_simp <;> with_reducible rfl
      try simp only [Act.put, List.setIfInBounds_toArray, List.set_cons_zero, List.set_cons_succ]
      refine wpAnyH_ready (rs := [5]) (by kernel_rfl) (by simp) ?_
      refine AllReadyH.cons rfl (fun K hK => ?_) AllReadyH.nil
      go_simp
      go_at_call 35
      refine ((rideS_any w7 w7.heap.size b r AL AS cL cS R S XA xc xl (Nat.le_refl _) (rdIn_more (HIN.out.below ZB.out) ZB.out.size) (by unfold maxLen; omega) HXC.out ((HXI.out.below ZL.out).more ZL.out.size)).mono (fun e w9 h9 => rideW_v HV.out h9)).mono ?_
      rintro e w8 ⟨yA, yc, rfl, yo, hb⟩
      clear yo
      have hbr2 := bthen hbr hb
      have kk := has_call HX_t.out hb; clear HX_t; have HX_t := Lib.hid kk; clear kk
      have kk := (HI_b.out.below hb).more hb.size; clear HI_b; have HI_b := Lib.hid kk; clear kk
      have kk := bthen ZB.out hb; clear ZB; have ZB := Lib.hid kk; clear kk
      have kk := bthen ZW.out hb; clear ZW; have ZW := Lib.hid kk; clear kk
      have kk := bthen ZL.out hb; clear ZL; have ZL := Lib.hid kk; clear kk
      have hsw8 := hb.size; clear hb
      have S1 : (fun W : World => (W.cell? ⟨Zt, 0, none⟩ = some (.int .i64 b) ∧ W.cell? ⟨Zt, 1, none⟩ = some (.int .i64 r) ∧ W.cell? ⟨Zt, 2, none⟩ = some (.slice AL R.length cL) ∧ W.cell? ⟨Zt, 3, none⟩ = some (.slice AS S.length cS)) ∧ W.cell? ⟨bl, fl + k, none⟩ = some (.slice XA xl.length xc)) w8 := ⟨⟨has_cell HX_t.out 0 rfl, has_cell HX_t.out 1 rfl, has_cell HX_t.out 2 rfl, has_cell HX_t.out 3 rfl⟩, (bold hbr2 _ _ (by omega)).trans HL0.out⟩
      have hl0 := S1.2
      go_wp2_with fail
      refine hK.out _ _ S1 (fun _ => ?_)
      clear hK K
      try simp only [Act.put, List.setIfInBounds_toArray, List.set_cons_zero, List.set_cons_succ]
      refine any_take (i := 6) (some 37) (.tuple #[.slice yA lv.length yc, .int .i64 fv, .bool gv]) rfl rfl (by kernel_rfl) (by kernel_rfl) (by kernel_rfl) (fun _ _ _ h => h) rfl (fun W hSw => ?_) (S1) ?_
      · (try dsimp only at hSw); go_simp <;> with_reducible rfl
      try simp only [Act.put, List.setIfInBounds_toArray, List.set_cons_zero, List.set_cons_succ]
      refine any_take (i := 7) (some 44) (.slice yA lv.length yc) rfl rfl (by kernel_rfl) (by kernel_rfl) (by kernel_rfl) (fun _ _ _ h => h) rfl (fun W hSw => ?_) (S1) ?_
      · (try dsimp only at hSw); go_simp <;> with_reducible rfl
      try simp only [Act.put, List.setIfInBounds_toArray, List.set_cons_zero, List.set_cons_succ]
      refine any_take (i := 8) (some 45) (.int .i64 fv) rfl rfl (by kernel_rfl) (by kernel_rfl) (by kernel_rfl) (fun _ _ _ h => h) rfl (fun W hSw => ?_) (S1) ?_
      · (try dsimp only at hSw); go_simp <;> with_reducible rfl
      try simp only [Act.put, List.setIfInBounds_toArray, List.set_cons_zero, List.set_cons_succ]
      refine any_take (i := 9) (some 46) (.bool gv) rfl rfl (by kernel_rfl) (by kernel_rfl) (by kernel_rfl) (fun _ _ _ h => h) rfl (fun W hSw => ?_) (S1) ?_
      · (try dsimp only at hSw); go_simp <;> with_reducible rfl
      try simp only [Act.put, List.setIfInBounds_toArray, List.set_cons_zero, List.set_cons_succ]
      refine any_take (i := 10) (some 12) (.slice yA lv.length yc) rfl rfl (by kernel_rfl) (by kernel_rfl) (by kernel_rfl) (fun _ _ _ h => h) rfl (fun W hSw => ?_) (S1) ?_
      · (try dsimp only at hSw); go_simp <;> with_reducible rfl
      try simp only [Act.put, List.setIfInBounds_toArray, List.set_cons_zero, List.set_cons_succ]
      refine any_take (i := 11) (some 13) (.int .i64 fv) rfl rfl (by kernel_rfl) (by kernel_rfl) (by kernel_rfl) (fun _ _ _ h => h) rfl (fun W hSw => ?_) (S1) ?_
      · (try dsimp only at hSw); go_simp <;> with_reducible rfl
      try simp only [Act.put, List.setIfInBounds_toArray, List.set_cons_zero, List.set_cons_succ]
      refine any_take (i := 12) (some 14) (.bool gv) rfl rfl (by kernel_rfl) (by kernel_rfl) (by kernel_rfl) (fun _ _ _ h => h) rfl (fun W hSw => ?_) (S1) ?_
      · (try dsimp only at hSw); go_simp <;> with_reducible rfl
      try simp only [Act.put, List.setIfInBounds_toArray, List.set_cons_zero, List.set_cons_succ]
      refine wpAnyH_done (by kernel_rfl) ?_ _
      clear S0 S1 hbr hbr2 HL0
      have hxil : IL w8 w8.heap.size XA xl := (HXI.out.below ZL.out).more ZL.out.size
      have HXJ := Lib.hid hxil; clear hxil
      cases gv
      · skip
        have hnone : rideT b r (gOf R) S xl = none := by
          have h9 := HV.out; cases hq9 : rideT b r (gOf R) S xl with
          | none => rfl
          | some d9 => rw [hq9] at h9; simp [rideW] at h9
        have hkp : 0 < k := by
          rcases Nat.eq_zero_or_pos k with h9 | h9
          · obtain ⟨d9, hd9⟩ := rideT_nil HT.out; rw [HK0.out h9, hd9] at hnone; cases hnone
          · exact h9
        have HGT := Lib.hid (HKG.out hkp); clear hnone hkp
        go_wp2_with fail
        go_roundw
        case rel => exact ⟨k + 1, n1, f1, g1, A1, c1, l1, by omega, by go_num, rfl, rfl, rfl, HL1.out, h14, h1c, HC1.out, HFD.out, (fun _ => HGT.out), HI_b.out, HX_t.out, ZB.out, ZW.out, ZL.out⟩
        case measure => simp [intOf]; omega
      · skip
        have hsm : ∃ d, rideT b r (gOf R) S xl = some d := by
          have h9 := HV.out; cases hq9 : rideT b r (gOf R) S xl with
          | none => rw [hq9] at h9; simp [rideW] at h9
          | some d9 => exact ⟨d9, rfl⟩
        have HSM := Lib.hid hsm; clear hsm
        cases g1
        · skip
          go_wp2_with fail
          go_roundw
          case rel => exact ⟨k + 1, xl.length, fv, true, XA, xc, xl, by omega, by go_num, rfl, rfl, rfl, rfl, hx4, hxc, HXC.out.2, (fun _ => HSM.out), (fun _ => rfl), HXJ.out, HX_t.out, ZB.out, ZW.out, ZL.out⟩
          case measure => simp [intOf]; omega
        · skip
          have HGT := Lib.hid (rfl : (true = true))
          by_cases h1 : (n1 : Int) < (xl.length : Int)
          · skip
            go_wp2_with fail
            go_roundw
            case rel => exact ⟨k + 1, xl.length, fv, true, XA, xc, xl, by omega, by go_num, rfl, rfl, rfl, rfl, hx4, hxc, HXC.out.2, (fun _ => HSM.out), (fun _ => rfl), HXJ.out, HX_t.out, ZB.out, ZW.out, ZL.out⟩
            case measure => simp [intOf]; omega
          by_cases h2 : (xl.length : Int) = (n1 : Int)
          · skip
            have h2b : ((xl.length : Int) == (n1 : Int)) = true := by simpa using h2
            clear h2
            by_cases h3 : fv < f1
            · skip
              go_wp2_with fail
              go_roundw
              case rel => exact ⟨k + 1, xl.length, fv, true, XA, xc, xl, by omega, by go_num, rfl, rfl, rfl, rfl, hx4, hxc, HXC.out.2, (fun _ => HSM.out), (fun _ => rfl), HXJ.out, HX_t.out, ZB.out, ZW.out, ZL.out⟩
              case measure => simp [intOf]; omega
            · skip
              go_wp2_with fail
              go_roundw
              case rel => exact ⟨k + 1, n1, f1, true, A1, c1, l1, by omega, by go_num, rfl, rfl, rfl, HL1.out, h14, h1c, HC1.out, HFD.out, (fun _ => HGT.out), HI_b.out, HX_t.out, ZB.out, ZW.out, ZL.out⟩
              case measure => simp [intOf]; omega
          · skip
            have h2b : ((xl.length : Int) == (n1 : Int)) = false := by simpa using h2
            go_wp2_with fail
            go_roundw
            case rel => exact ⟨k + 1, n1, f1, true, A1, c1, l1, by omega, by go_num, rfl, rfl, rfl, HL1.out, h14, h1c, HC1.out, HFD.out, (fun _ => HGT.out), HI_b.out, HX_t.out, ZB.out, ZW.out, ZL.out⟩
            case measure => simp [intOf]; omega
    have hkN : 0 < k := by omega
    obtain rfl : g1 = true := HKG.out hkN
    obtain ⟨d, hd⟩ := HFD.out rfl
    have HD := Lib.hid hd; clear hd
    go_wp2_with fail
    go_ret3
    exact ⟨A1, c1, f1, l1, d, by rw [HL1.out]; rfl, HI_b.out, by rw [HL1.out]; exact h14, by rw [HL1.out]; exact h1c, HC1.out, HD.out, ZW.out⟩
theorem best_call {b r : Int} {G : List (List Int)} {S : List Sp} {w w1 : World} {e : Ending} {w' : World} (h : BestW b r G S w1 e w') (hb : Below w.heap.size w w1) : BestW b r G S w e w' := by
  obtain ⟨A, c, f, O, d, h1, h2, h3, h4, h5, h6, h7⟩ := h
  exact ⟨A, c, f, O, d, h1, h2, h3, h4, h5, h6, bthen hb h7⟩
set_option maxRecDepth 100000 in
set_option maxHeartbeats 4000000 in
theorem most_any (w0 w1 : World) (b r : Int) (AL AS : Option Addr) (cL cS : Nat) (R : List Rw) (S : List Sp) (hT : RoundT b r (gOf R) S) (hS4 : S.length ≤ 4) (hR : RdIn w0 w0.heap.size AL R AS S) (hb0 : Below w0.heap.size w0 w1) :
    Calls Try.prog 9 #[.agg #[.int .i64 b, .int .i64 r, .slice AL R.length cL, .slice AS S.length cS]] w1 (BestW b r (gOf R) S w1) := by
  have HB := Lib.hid (fun W (h : Below w0.heap.size w0 W) => best_any w0 W b r AL AS cL cS R S hT hS4 hR h)
  have HB0 := Lib.hid hb0
  clear hR hT hb0 hS4
  go_enter Try.func9, Try.ntmps9
  go_wp2_with fail
  generalize hX : (w1.alloc (.cells #[.int .i64 b, .int .i64 r, .slice AL R.length cL, .slice AS S.length cS] 27)) = w2
  have hb : Below w1.heap.size w1 w2 := by rw [← hX]; exact balloc _ _
  clear hX
  refine (HB.out w2 (bthen HB0.out hb)).mono ?_
  rintro e w3 ⟨A, c, f, O, d, rfl, h2, h3, h4, h5, h6, h7⟩
  have HQ := Lib.hid (show BestW b r (gOf R) S w1 (.returned (.tuple #[.slice A O.length c, .int .i64 f, .bool true])) w3 from ⟨A, c, f, O, d, rfl, h2, h3, h4, h5, h6, bthen hb h7⟩)
  clear h2 h3 h4 h5 h6 h7 hb
  go_wp2_with fail
  go_ret3
  exact HQ.out
/-- a round that is drawn for a law -/
def RoundG (w : World) (e : Ending) (w' : World) : Prop := ∃ (b r : Int) (AL AS : Option Addr) (cL cS : Nat) (R : List Rw) (S : List Sp), e = .returned (.agg #[.int .i64 b, .int .i64 r, .slice AL R.length cL, .slice AS S.length cS]) ∧ RoundT b r (gOf R) S ∧ S.length ≤ 4 ∧ RdIn w' w'.heap.size AL R AS S ∧ Below w.heap.size w w'
set_option maxRecDepth 100000 in
set_option maxHeartbeats 4000000 in
theorem drawRound_any (w : World) (A : Option Addr) (n c : Nat) (hn : n ≤ maxLen) (hS : BS w w.heap.size A n) : Calls Try.prog 5 #[.slice A n c] w (RoundG w) := by
  have HS := Lib.hid hS; clear hS
  go_enter Try.func5, Try.ntmps5
  go_wp2_with fail
  generalize hX : (w.alloc (.cells #[.int .i64 0, .int .i64 0, .slice none 0 0, .slice none 0 0] 27)) = w1
  have z1 : w1.heap.size = w.heap.size + 1 := by rw [← hX]; simp
  have k1 : Has w1 w.heap.size 27 #[.int .i64 0, .int .i64 0, .slice none 0 0, .slice none 0 0] := by rw [← hX]; exact has_new _ _ _
  have b1 : Below w.heap.size w w1 := by rw [← hX]; exact balloc _ _
  clear hX
  refine (new_any w1 w.heap.size A n c hn b1.size (HS.out.below b1)).mono ?_
  rintro e w2 ⟨rfl, c2, b2⟩
  have k2 := has_call k1 b2; have bb := bthen b1 b2
  have hlt := c2.lt; obtain ⟨hB, hg⟩ := hlt
  obtain ⟨g, hge⟩ : ∃ g, w1.heap.size = g := ⟨_, rfl⟩
  rw [hge] at c2 hg ⊢
  have hgw : w.heap.size < g := by omega
  have HC := Lib.hid c2; have HK := Lib.hid k2; have HB := Lib.hid bb; clear c2 k2 k1 bb b1 b2 hge hn z1
  go_wp2_with fail
  refine (roundD_any w2 w.heap.size g HC.out).mono ?_
  rintro e w3 ⟨b, r, AL, AS, cL, cS, R, S, rfl, hT, hS4, hlg, hso, hrk, hC9, hO9⟩
  have k3 := has_onl HK.out hO9 (by omega)
  have bb := HB.out.trans (only_below hO9 (by omega) (by omega))
  have hz3 := hO9.size
  have HT := Lib.hid hT
  have h7 := hT.len; rw [gOf_len] at h7
  have hrows : rwL w3 w3.heap.size AL R := by
    rcases or_own' hlg with h3 | ⟨g, cur, rfl, _, h4, h5⟩
    · exact .inl (by simpa [rwV] using h3)
    · exact .inr ⟨g, 0, rfl, has_lt h4, fun k x hx => by rw [Nat.zero_add]; exact has_cell h4 k (h5 k _ (by simp [rwV, hx]))⟩
  have hin : RdIn w3 w3.heap.size AL R AS S := ⟨hrows, fun x hx => ⟨(hrk x hx).il, by have := hT.row _ (List.mem_map_of_mem (f := Rw.l) hx); unfold maxLen; omega⟩, (or_own' hso).sp, by unfold maxLen; omega, by unfold maxLen; omega⟩
  have HIN := Lib.hid hin
  have zf0 := has_free k3 0; have zf1 := has_free k3 1; have zf2 := has_free k3 2; have zf3 := has_free k3 3; have zq0 := has_cell k3 0 rfl; have zq1 := has_cell k3 1 rfl; have zq2 := has_cell k3 2 rfl; have zq3 := has_cell k3 3 rfl
  have hzl := has_lt k3
  have HB3 := Lib.hid bb
  have HK3 := Lib.hid k3
  have HLG := Lib.hid hlg; have HSO := Lib.hid hso; have HRK := Lib.hid hrk
  clear hT hlg hso hrk hC9 hO9 hin hrows k3 bb HC HK HB h7
  go_wp2_with fail
  refine bodyPost_ret (v := .agg #[.int .i64 b, .int .i64 r, .slice AL R.length cL, .slice AS S.length cS]) (by simp [results, Try.results5, go_sem, zq0, zq1, zq2, zq3, zf0, zf1, zf2, zf3, hzl]) rfl ?_
  generalize hX : World.setCell _ _ _ = w8
  have ho : Only w3 w.heap.size w8 := by rw [← hX]; with_reducible exact only_set4 _ _ _ _ _ _
  clear hX
  have hrows : rwL w8 w8.heap.size AL R := by
    rcases or_far (or_own' HLG.out) HK3.out (by decide) ho with h3 | ⟨g, cur, rfl, _, h4, h5⟩
    · exact .inl (by simpa [rwV] using h3)
    · exact .inr ⟨g, 0, rfl, has_lt h4, fun k x hx => by rw [Nat.zero_add]; exact has_cell h4 k (h5 k _ (by simp [rwV, hx]))⟩
  exact ⟨b, r, AL, AS, cL, cS, R, S, rfl, HT.out, hS4, ⟨hrows, fun x hx => ⟨(oi_set (HRK.out x hx) HK3.out (by decide) ho).il, (HIN.out.vals x hx).2⟩, (or_far (or_own' HSO.out) HK3.out (by decide) ho).sp, HIN.out.lr, HIN.out.ls⟩, HB3.out.trans (only_below ho (by omega) (by omega))⟩
end Go.Proofs.Ytfimdhbcifjioaa
