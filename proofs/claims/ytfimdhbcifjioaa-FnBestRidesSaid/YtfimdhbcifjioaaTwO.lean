/- Chapter 7: all orders that continue one, by the model (gen_two.py). -/
import Derived.Test.YtfimdhbcifjioaaTvB
import Derived.Deep.RegionHeld3
import Derived.Deep.DeepMust
import Derived.WalkLawsBesides
import Derived.Deep.DeepCutAuto
import Derived.RegionTactic
import Derived.OwnWalk
import Derived.Deep.AppendLies
import Derived.Laws.OwnMore
namespace Go.Proofs.Ytfimdhbcifjioaa
open Go.RowKit
set_option linter.unusedVariables false

theorem addW (b off i : Nat) : (Addr.mk b off none).add i = ⟨b, off + i, none⟩ := by
  unfold Addr.add
  split
  · rename_i h; subst h; rfl
  · rfl
/-- rows of numbers may have grown in place above lo; all else is kept -/
structure Kp (lo : Nat) (w w' : World) : Prop where
  below : Below lo w w'
  keep : ∀ (g : Nat) (t : TypeId) (cs : Array Value), Has w g t cs → t ≠ 29 → Has w' g t cs
theorem Kp.refl (lo : Nat) (w : World) : Kp lo w w := ⟨Below.refl _ _, fun _ _ _ h _ => h⟩
theorem Kp.trans {lo : Nat} {a b c : World} (h : Kp lo a b) (k : Kp lo b c) : Kp lo a c := ⟨h.below.trans k.below, fun g t cs x hne => k.keep g t cs (h.keep g t cs x hne) hne⟩
theorem Kp.bel {lo : Nat} {a w w' : World} (h : Kp lo a w) (hb : Below w.heap.size w w') (hl : lo ≤ w.heap.size) : Kp lo a w' := ⟨h.below.trans (hb.mono hl), fun g t cs x hne => has_call (h.keep g t cs x hne) hb⟩
theorem Kp.grow {lo : Nat} {a w w' : World} {row : Option Nat} (h : Kp lo a w) (hg : w.grownBy w' row) (hl : lo ≤ w.heap.size) (hr : ∀ b, row = some b → lo ≤ b ∧ ((∃ cur, Has w b 29 cur) ∨ a.heap.size ≤ b)) : Kp lo a w' := by
  refine ⟨⟨hg.os.trans h.below.os, hg.tape.trans h.below.tape, hg.output.trans h.below.output, Nat.le_trans h.below.size hg.size, fun k hk => (hg.block k (by omega) (fun e => by have := (hr k e.symm).1; omega)).trans (h.below.block k hk)⟩, fun g t cs x hne => has_grown (h.keep g t cs x hne) hg (fun e => ?_)⟩
  rcases (hr g e.symm).2 with ⟨cur, hc⟩ | h1
  · exact has_ne (h.keep g t cs x hne) hc hne rfl
  · have := has_lt x; omega
theorem oi_kp {lo a b : Nat} {w w' : World} {A : Option Addr} {xs : List Value} (h : OI w a b 3 A xs) (hk : Kp lo w w') : OI w' a b 3 A xs := by
  rcases h with h | ⟨g, cur, e, h3, h4, h5, h6⟩
  · exact .inl h
  · exact .inr ⟨g, cur, e, h3, h4, hk.keep _ _ _ h5 (by decide), h6⟩
theorem src_oi {w : World} {lo hi : Nat} {A : Option Addr} {l : List Int} (h : OI w lo hi 3 A (intV l)) : Src w A l.length 1 (intV l) := by
  refine ⟨by rw [intV_len]; omega, fun u hu => ?_, fun e => ?_, fun ad e j u hu => ?_⟩
  · obtain ⟨x, _, rfl⟩ := List.mem_map.1 hu; rfl
  · rcases h with h | ⟨g, cur, e2, _⟩
    · rw [← intV_len, h]; rfl
    · rw [e] at e2; cases e2
  · rcases h with h | ⟨g, cur, e2, h3, h4, h5, h6⟩
    · rw [h] at hu; simp at hu
    · rw [e] at e2; injection e2 with e2; subst e2
      rw [addW, Nat.zero_add]; exact has_cell h5 j (h6 j u hu)
theorem owns_at2 (w : World) (H : Nat) (e : TypeId) (size : Nat) (hH : H ≤ w.heap.size) : (w.alloc (.cells #[] e)).ownsRow H e size (.slice (some ⟨w.heap.size, 0, none⟩) 0 0) 0 [] := owns_new w H e size hH
theorem src_oi2 {w : World} {lo hi dn : Nat} {A : Option Addr} {l : List Int} (hd : l.length = dn) (h : OI w lo hi 3 A (intV l)) : Src w A dn 1 (intV l) := hd ▸ src_oi h
def cntP : Nat → Nat
  | 0 => 0
  | m + 1 => 1 + 4 * cntP m
def OrdA (lo : Nat) (R : List Rw) (D : Rw) (q : Nat) (w : World) (e : Ending) (w' : World) : Prop := ∃ (A' : Option Addr) (N c' : Nat) (T : List Rw), e = .returned (.slice A' N c') ∧ (R ++ D :: T).length = N ∧ T.length ≤ 4 * q ∧ (∀ x ∈ T, x.l.length ≤ 4 ∧ x.l.length ≤ x.c ∧ x.c ≤ maxLen) ∧
  w'.ownsRow lo 29 1 (.slice A' N c') N (rwV (R ++ D :: T)) ∧ (∀ x ∈ R ++ D :: T, OI w' lo w'.heap.size 3 x.A (intV x.l)) ∧ Kp lo w w'
def OrdS (n m : Nat) : Prop := ∀ (w : World) (lo : Nat) (A dA : Option Addr) (N c dn dc : Nat) (R : List Rw) (done : List Int), done.length = dn → dn + m = n → orderT n done = true → OI w lo w.heap.size 3 dA (intV done) → lo ≤ w.heap.size → R.length = N → w.ownsRow lo 29 1 (.slice A N c) N (rwV R) →
  (∀ x ∈ R, OI w lo w.heap.size 3 x.A (intV x.l)) → N + 1 + 4 * cntP m ≤ 100000 → Calls Try.prog 34 #[.slice A N c, .slice dA dn dc, .int .i64 (n : Int)] w (OrdA lo R ⟨dA, dc, done⟩ (cntP m) w)
theorem order_more {n i : Nat} {done : List Int} (h : orderT n done = true) (hi : i < n) (hc : done.contains (i : Int) = false) : orderT n (done ++ [(i : Int)]) = true := by
  rw [orderT_iff] at h ⊢
  refine ⟨nodup_snoc h.1 hc, fun x hx => ?_⟩
  rcases List.mem_append.1 hx with hx | hx
  · exact h.2 x hx
  · simp at hx; subst hx; omega
set_option maxRecDepth 100000 in
set_option maxHeartbeats 8000000 in
theorem ord_step (n m : Nat) (hn : n ≤ 4) (ih : ∀ m', m = m' + 1 → OrdS n m') : OrdS n m := by
  intro w lo A dA N c dn dc R done hdl hdm hord hdo hlo hRN hown hrk hbd
  obtain ⟨q, hq⟩ : ∃ q, cntP m = q := ⟨_, rfl⟩
  rw [hq] at hbd ⊢
  have hdn : dn ≤ n := by omega
  have IH := Lib.hid ih; have HDL := Lib.hid hdl; have HDM := Lib.hid hdm; have HOR := Lib.hid hord; have HRN := Lib.hid hRN; have HQ := Lib.hid hq
  clear ih hdl hdm hord hRN hq
  obtain ⟨i0_i, hi0, hz0, hz1, hz2⟩ := info_parts intInfo
  have hi_i := Lib.hid hi0; have hz0_i := Lib.hid hz0; have hz1_i := Lib.hid hz1; have hz2_i := Lib.hid hz2; clear hi0 hz0 hz1 hz2
  obtain ⟨i0_l, hi0, hz0, hz1, hz2⟩ := info_parts issInf7
  have hi_l := Lib.hid hi0; have hz0_l := Lib.hid hz0; have hz1_l := Lib.hid hz1; have hz2_l := Lib.hid hz2; clear hi0 hz0 hz1 hz2
  have H_kp := Lib.hid (Kp.refl lo w)
  have hzw := H_kp.out.below.size
  have H_lg := Lib.hid (hown)
  have H_rk := Lib.hid (hrk)
  have H_dn := Lib.hid (hdo)
  clear hown hrk hdo
  go_enter Try.func34, Try.ntmps34
  go_wp2_with (at_builtin; go_must (refine list_app rfl _ _ 24 rfl (lo) 29 i0_l (.slice none 0 0) 1 24 Try.underlying24 hi_l.out hz0_l.out hz1_l.out hz2_l.out rfl (by decide) _ N _ rfl (H_lg.out.alloc _) (some ⟨w.heap.size, 0, none⟩) 1 1 [.slice dA dn dc] rfl (src_rw (has_new _ _ _)) (by unfold maxLen; omega) (by omega) (by simp; omega) ?_))
  intro aA ac w1 hown3 hgrow3 hrow3
  have kk := H_kp.out.bel (balloc _ (.cells #[.slice dA dn dc] 29)) (by omega); clear H_kp; have H_kp := Lib.hid kk; clear kk
  have kk := (fun (x : Rw) (hx : x ∈ R) => (H_rk.out x hx).call (balloc _ (.cells #[.slice dA dn dc] 29))); clear H_rk; have H_rk := Lib.hid kk; clear kk
  have kk := H_dn.out.call (balloc _ (.cells #[.slice dA dn dc] 29)); clear H_dn; have H_dn := Lib.hid kk; clear kk
  have kk := H_kp.out.grow hgrow3 (by first | omega | (simp; omega)) (fun b7 hb7 => ⟨by have h7 := (hrow3 b7 hb7).1; omega, .inl (hrow3 b7 hb7).2⟩); clear H_kp; have H_kp := Lib.hid kk; clear kk
  have kk := (fun (x : Rw) (hx : x ∈ R) => oi_grow (H_rk.out x hx) hgrow3 (fun b7 hb7 => .inr ⟨_, (hrow3 b7 hb7).2.choose, (hrow3 b7 hb7).2.choose_spec, by decide⟩)); clear H_rk; have H_rk := Lib.hid kk; clear kk
  have kk := oi_grow H_dn.out hgrow3 (fun b7 hb7 => .inr ⟨_, (hrow3 b7 hb7).2.choose, (hrow3 b7 hb7).2.choose_spec, by decide⟩); clear H_dn; have H_dn := Lib.hid kk; clear kk
  have hmw1 : w.heap.size ≤ w1.heap.size := Nat.le_trans (Nat.le_succ _) (by simpa using hgrow3.size)
  have hzw1 := H_kp.out.below.size
  clear H_lg hgrow3 hrow3
  have H_lg := Lib.hid (show w1.ownsRow lo 29 1 (.slice aA (N + 1) ac) (N + 1) (rwV (R ++ [⟨dA, dc, done⟩])) from by rw [rwV_snoc]; dsimp only; rw [HDL.out]; exact hown3)
  clear hown3
  have kk := (fun (x : Rw) (hx : x ∈ R ++ [(⟨dA, dc, done⟩ : Rw)]) => (show OI w1 lo w1.heap.size 3 x.A (intV x.l) from by
    rcases List.mem_append.1 hx with hx | hx
    · exact oi_wider (H_rk.out x hx) (Nat.le_refl _) (by omega)
    · simp at hx; subst hx; exact oi_wider H_dn.out (Nat.le_refl _) (by omega)))
  clear H_rk; have H_rk := Lib.hid kk; clear kk
  have kk := oi_wider H_dn.out (Nat.le_refl lo) (show w.heap.size ≤ w1.heap.size by omega); clear H_dn; have H_dn := Lib.hid kk; clear kk
  go_wp2_with fail
  go_loopw [0, 7] (fun ov iv wr => ∃ (i M : Nat) (A1 : Option Addr) (c1 : Nat) (T : List Rw), i ≤ n ∧ iv = .int .i64 (i : Int) ∧ ov = .slice A1 M c1 ∧ (R ++ (⟨dA, dc, done⟩ : Rw) :: T).length = M ∧ T.length ≤ i * q ∧ (∀ x ∈ T, x.l.length ≤ 4 ∧ x.l.length ≤ x.c ∧ x.c ≤ maxLen) ∧ wr.ownsRow lo 29 1 (.slice A1 M c1) M (rwV (R ++ (⟨dA, dc, done⟩ : Rw) :: T)) ∧ (∀ x ∈ R ++ (⟨dA, dc, done⟩ : Rw) :: T, OI wr lo wr.heap.size 3 x.A (intV x.l)) ∧ OI wr lo wr.heap.size 3 dA (intV done) ∧ Kp lo w wr) (fun _ iv _ => n - (intOf iv).toNat)
  case atStart => exact ⟨0, N + 1, aA, ac, [], Nat.zero_le _, rfl, rfl, by simp [HRN.out], by simp, (fun x hx => by cases hx), H_lg.out, H_rk.out, H_dn.out, H_kp.out⟩
  clear H_lg H_rk H_dn H_kp
  case round =>
    obtain ⟨i, M, A1, c1, T, hi, rfl, rfl, hM, hT, hT4, hlg, hrk, hdo, hkp⟩ := hrel
    have HM := Lib.hid hM; have HT := Lib.hid hT; have HT4 := Lib.hid hT4; clear hM hT hT4
    have H_kp := Lib.hid (hkp)
    clear hkp
    have H_lg := Lib.hid (hlg)
    clear hlg
    have H_rk := Lib.hid (hrk)
    clear hrk
    have H_dn := Lib.hid (hdo)
    clear hdo
    have hzwr := H_kp.out.below.size
    by_cases hlt : i < n
    · skip
      have hltI : (i : Int) < (n : Int) := by omega
      go_wp2_with fail
      refine (hasT_any wr wr.heap.size dA dc dn done (i : Int) HDL.out.symm (by have := HDL.out; unfold maxLen; omega) H_dn.out.il).mono ?_
      rintro e w9 ⟨rfl, hw⟩
      rw [hw]; clear hw w9
      cases hc : done.contains (i : Int)
      · skip
        have hmore := order_more HOR.out hlt hc
        have hlen := order_len ((orderT_iff _ _).1 hmore).1 ((orderT_iff _ _).1 hmore).2
        rw [List.length_append, HDL.out] at hlen
        simp at hlen
        obtain ⟨m', hm'⟩ : ∃ m', m = m' + 1 := ⟨m - 1, by have := HDM.out; omega⟩
        have HI := Lib.hid (IH.out m' hm')
        have hqm : q = 1 + 4 * cntP m' := by rw [← HQ.out, hm']; rfl
        have HQM := Lib.hid hqm; have hdm2 : dn + 1 + m' = n := by have := HDM.out; omega
        have HDM2 := Lib.hid hdm2; have HMORE := Lib.hid hmore
        have hiq : i * q + q ≤ 4 * q := by have h9 := Nat.mul_le_mul_right q (show i + 1 ≤ 4 by omega); rwa [Nat.succ_mul] at h9
        have hMb : M + 1 + 4 * cntP m' ≤ 100000 := by have h1 := HM.out; have h2 := HT.out; have h3 := HRN.out; simp only [List.length_append, List.length_cons] at h1; omega
        have HMB := Lib.hid hMb
        have hMs : M ≤ 100000 := by omega
        clear hqm hdm2 hmore hm' hiq hMb hc hlen
        obtain ⟨hi9, hhi⟩ : ∃ hi, wr.heap.size = hi := ⟨_, rfl⟩
        have hhl : lo ≤ hi9 := by omega
        have hhw : w.heap.size ≤ hi9 := by omega
        have hhg : hi9 ≤ wr.heap.size := by omega
        rw [hhi] at H_rk H_dn
        have HHI := Lib.hid hhi; clear hhi
        go_wp2_with (at_builtin; go_must (refine list_app rfl _ _ 29 rfl (hi9) 3 i0_i (.int .i64 0) 1 8 Try.underlying29 hi_i.out hz0_i.out hz1_i.out hz2_i.out rfl (by decide) _ 0 _ rfl (owns_at2 wr hi9 3 1 hhg) dA dn dc (intV done) rfl (src_oi2 HDL.out (H_dn.out.call (balloc _ _))) (by unfold maxLen; omega) (by omega) (by simp; omega) ?_))
        intro aA ac w2 hown3 hgrow3 hrow3
        have kk := H_kp.out.bel (balloc _ (.cells #[] 3)) (by omega); clear H_kp; have H_kp := Lib.hid kk; clear kk
        have kk := H_lg.out.alloc (.cells #[] 3); clear H_lg; have H_lg := Lib.hid kk; clear kk
        have kk := (fun (x : Rw) (hx : x ∈ R ++ (⟨dA, dc, done⟩ : Rw) :: T) => (H_rk.out x hx).call (balloc _ (.cells #[] 3))); clear H_rk; have H_rk := Lib.hid kk; clear kk
        have kk := H_dn.out.call (balloc _ (.cells #[] 3)); clear H_dn; have H_dn := Lib.hid kk; clear kk
        have kk := H_kp.out.grow hgrow3 (by first | omega | (simp; omega)) (fun b7 hb7 => ⟨by have h7 := (hrow3 b7 hb7).1; omega, .inr (by have h7 := (hrow3 b7 hb7).1; omega)⟩); clear H_kp; have H_kp := Lib.hid kk; clear kk
        have kk := own_gt H_lg.out hgrow3 (fun b7 hb7 => (hrow3 b7 hb7).2) (by decide); clear H_lg; have H_lg := Lib.hid kk; clear kk
        have kk := (fun (x : Rw) (hx : x ∈ R ++ (⟨dA, dc, done⟩ : Rw) :: T) => oi_grow (H_rk.out x hx) hgrow3 (fun b7 hb7 => .inl (by have h7 := (hrow3 b7 hb7).1; omega))); clear H_rk; have H_rk := Lib.hid kk; clear kk
        have kk := oi_grow H_dn.out hgrow3 (fun b7 hb7 => .inl (by have h7 := (hrow3 b7 hb7).1; omega)); clear H_dn; have H_dn := Lib.hid kk; clear kk
        have hmw2 : wr.heap.size ≤ w2.heap.size := Nat.le_trans (Nat.le_succ _) (by simpa using hgrow3.size)
        have hzw2 := H_kp.out.below.size
        clear hgrow3 hrow3
        have H_no := Lib.hid (show w2.ownsRow hi9 3 1 (.slice aA dn ac) dn (intV done) by simpa using hown3)
        clear hown3
        go_wp2_with (at_builtin; go_must (refine list_app rfl _ _ 29 rfl (hi9) 3 i0_i (.int .i64 0) 1 8 Try.underlying29 hi_i.out hz0_i.out hz1_i.out hz2_i.out rfl (by decide) _ dn _ rfl (H_no.out.alloc _) (some ⟨w2.heap.size, 0, none⟩) 1 1 [.int .i64 (i : Int)] rfl (src_one (has_new _ _ _)) (by unfold maxLen; omega) (by omega) (by simp; omega) ?_))
        intro eA ec w3 hown3 hgrow3 hrow3
        have kk := H_kp.out.bel (balloc _ (.cells #[.int .i64 (i : Int)] 3)) (by omega); clear H_kp; have H_kp := Lib.hid kk; clear kk
        have kk := H_lg.out.alloc (.cells #[.int .i64 (i : Int)] 3); clear H_lg; have H_lg := Lib.hid kk; clear kk
        have kk := (fun (x : Rw) (hx : x ∈ R ++ (⟨dA, dc, done⟩ : Rw) :: T) => (H_rk.out x hx).call (balloc _ (.cells #[.int .i64 (i : Int)] 3))); clear H_rk; have H_rk := Lib.hid kk; clear kk
        have kk := H_dn.out.call (balloc _ (.cells #[.int .i64 (i : Int)] 3)); clear H_dn; have H_dn := Lib.hid kk; clear kk
        have kk := H_kp.out.grow hgrow3 (by first | omega | (simp; omega)) (fun b7 hb7 => ⟨by have h7 := (hrow3 b7 hb7).1; omega, .inr (by have h7 := (hrow3 b7 hb7).1; omega)⟩); clear H_kp; have H_kp := Lib.hid kk; clear kk
        have kk := own_gt H_lg.out hgrow3 (fun b7 hb7 => (hrow3 b7 hb7).2) (by decide); clear H_lg; have H_lg := Lib.hid kk; clear kk
        have kk := (fun (x : Rw) (hx : x ∈ R ++ (⟨dA, dc, done⟩ : Rw) :: T) => oi_grow (H_rk.out x hx) hgrow3 (fun b7 hb7 => .inl (by have h7 := (hrow3 b7 hb7).1; omega))); clear H_rk; have H_rk := Lib.hid kk; clear kk
        have kk := oi_grow H_dn.out hgrow3 (fun b7 hb7 => .inl (by have h7 := (hrow3 b7 hb7).1; omega)); clear H_dn; have H_dn := Lib.hid kk; clear kk
        have hmw3 : w2.heap.size ≤ w3.heap.size := Nat.le_trans (Nat.le_succ _) (by simpa using hgrow3.size)
        have hzw3 := H_kp.out.below.size
        clear H_no hgrow3 hrow3
        have hno := Lib.hid (oi_own (show w3.ownsRow hi9 3 1 (.slice eA (dn + 1) ec) (dn + 1) (intV (done ++ [(i : Int)])) by simpa [intV] using hown3))
        have HCAP := Lib.hid (own_cap7 hown3)
        clear hown3
        go_wp2_with fail
        refine (HI.out w3 lo A1 eA M c1 (dn + 1) ec (R ++ (⟨dA, dc, done⟩ : Rw) :: T) (done ++ [(i : Int)]) (by simp [HDL.out]) HDM2.out HMORE.out (oi_wider hno.out hhl (Nat.le_refl _)) (by omega) HM.out H_lg.out (fun x hx => oi_wider (H_rk.out x hx) (Nat.le_refl _) (by omega)) HMB.out).mono ?_
        rintro e w4 ⟨A2, N2, c2, T2, rfl, hN2, hT2, hT24, hl2, hr2, hk2⟩
        have hdn2 := oi_kp H_dn.out hk2
        have hkk := H_kp.out.trans hk2; have hsz2 := hk2.below.size
        have hsplit : (R ++ (⟨dA, dc, done⟩ : Rw) :: T) ++ (⟨eA, ec, done ++ [(i : Int)]⟩ : Rw) :: T2 = R ++ (⟨dA, dc, done⟩ : Rw) :: (T ++ (⟨eA, ec, done ++ [(i : Int)]⟩ : Rw) :: T2) := by simp
        rw [hsplit] at hN2 hl2 hr2
        have hTn : (T ++ (⟨eA, ec, done ++ [(i : Int)]⟩ : Rw) :: T2).length ≤ (i + 1) * q := by have h1 := HT.out; have h2 := HQM.out; rw [Nat.succ_mul, List.length_append, List.length_cons]; omega
        have hT4n : ∀ x ∈ T ++ (⟨eA, ec, done ++ [(i : Int)]⟩ : Rw) :: T2, x.l.length ≤ 4 ∧ x.l.length ≤ x.c ∧ x.c ≤ maxLen := fun x hx => by
          rcases List.mem_append.1 hx with hx | hx
          · exact HT4.out x hx
          · rcases List.mem_cons.1 hx with hx | hx
            · subst hx; have h1 := HDL.out; have h2 := HDM2.out; have h3 := HCAP.out; refine ⟨?_, ?_, h3.2⟩ <;> (simp; omega)
            · exact hT24 x hx
        have HN2 := Lib.hid hN2; have HTN := Lib.hid hTn; have HT4N := Lib.hid hT4n; have HL2 := Lib.hid hl2; have HR2 := Lib.hid hr2; have HKK := Lib.hid hkk; have HD2 := Lib.hid (oi_wider hdn2 (Nat.le_refl lo) (show hi9 ≤ w4.heap.size by omega)); clear hN2 hTn hT4n hl2 hr2 hkk hk2 hT2 hT24 hsplit hdn2
        go_wp2_with fail
        go_roundw
        case rel => exact ⟨i + 1, N2, A2, c2, _, by omega, by go_num, rfl, HN2.out, HTN.out, HT4N.out, HL2.out, HR2.out, HD2.out, HKK.out⟩
        case measure => simp [intOf]; omega
      · skip
        clear hc
        go_wp2_with fail
        go_roundw
        case rel => exact ⟨i + 1, M, A1, c1, T, by omega, by go_num, rfl, HM.out, by have h1 := HT.out; rw [Nat.succ_mul]; omega, HT4.out, H_lg.out, H_rk.out, H_dn.out, H_kp.out⟩
        case measure => simp [intOf]; omega
    have hin : i ≤ 4 := by omega
    have hTq : T.length ≤ 4 * q := Nat.le_trans HT.out (Nat.mul_le_mul_right q hin)
    have HTQ := Lib.hid hTq; clear hTq
    go_wp2_with fail
    go_ret
    exact ⟨A1, M, c1, T, rfl, HM.out, HTQ.out, HT4.out, H_lg.out, H_rk.out, H_kp.out⟩
theorem ordS_all (n : Nat) (hn : n ≤ 4) : ∀ m, OrdS n m
  | 0 => ord_step n 0 hn (fun m' h => by cases h)
  | m + 1 => ord_step n (m + 1) hn (fun m' h => by injection h with h; subst h; exact ordS_all n hn _)
end Go.Proofs.Ytfimdhbcifjioaa
