/- Chapter 7: the drawing of rounds (gen_tva.py). -/
import Derived.Test.YtfimdhbcifjioaaTouE
import Derived.Test.YtfimdhbcifjioaaDraw
import Derived.Deep.DeepCutAuto
import Derived.RegionTactic
import Derived.OwnWalk
import Derived.Deep.AppendLies
import Derived.Deep.RegionHeld3
import Derived.Deep.DeepMust
import Derived.WalkLawsBesides
namespace Go.Proofs.Ytfimdhbcifjioaa
open Go.RowKit
set_option linter.unusedVariables false

theorem cur_keep {w w' : World} {B g : Nat} (h : Cur w B g) (hk : ∀ k, k < w.heap.size → (k < B ∨ k = g) → w'.heap[k]? = w.heap[k]?) : Cur w' B g := by
  have hlt := h.lt
  obtain ⟨A, n, c, i, hh, hH, hS, hn, h0, h1, hg⟩ := h
  refine ⟨A, n, c, i, hh, (hk g hlt.2 (.inr rfl)).trans hH, ?_, hn, h0, h1, hg⟩
  exact hS.kept fun p hp => World.cell?_of_block (hk p.block (by omega) (.inl hp))
theorem cur_bel {w w' : World} {B g : Nat} (h : Cur w B g) (hb : Below w.heap.size w w') : Cur w' B g := cur_keep h fun k hk _ => hb.block k hk
theorem own_o7 {w w' : World} {base g : Nat} {e : TypeId} {size n : Nat} {v : Value} {xs : List Value} (h : w.ownsRow base e size v n xs) (ho : Only w g w') (hg : g < base) : w'.ownsRow base e size v n xs :=
  h.kept (row := some g) ho (.inr fun e => by have := (h.lt _ e).1; omega)
theorem oi_draw {w w' : World} {lo hi g : Nat} {e : TypeId} {A : Option Addr} {xs : List Value} (h : OI w lo hi e A xs) (ho : Only w g w') (hg : g < lo) : OI w' lo hi e A xs := by
  rcases h with h | ⟨b, cur, h1, h2, h3, h4, h5⟩
  · exact .inl h
  · exact .inr ⟨b, cur, h1, h2, h3, has_onl h4 ho (by omega), h5⟩
theorem cur_grow {w w' : World} {B g : Nat} {row : Option Nat} (h : Cur w B g) (hg : w.grownBy w' row) (hr : ∀ b, row = some b → B ≤ b ∧ b ≠ g) : Cur w' B g :=
  cur_keep h fun k hk hor => hg.block k hk (fun e => by have := hr k e.symm; omega)
theorem only_grow {w0 w w' : World} {g : Nat} {row : Option Nat} (h : Only w0 g w) (hg : w.grownBy w' row) (hr : ∀ b, row = some b → w0.heap.size ≤ b) : Only w0 g w' :=
  ⟨hg.os.trans h.os, hg.tape.trans h.tape, hg.output.trans h.output, Nat.le_trans h.size hg.size, fun k hk hne => (hg.block k (Nat.lt_of_lt_of_le hk h.size) (fun e => by have := hr k e.symm; omega)).trans (h.block k hk hne)⟩
theorem own_gt {w w' : World} {base : Nat} {e e' : TypeId} {size n : Nat} {v : Value} {xs : List Value} {row : Option Nat} (h : w.ownsRow base e size v n xs) (hg : w.grownBy w' row) (hrow : ∀ b, row = some b → ∃ cur, Has w b e' cur) (hne : e ≠ e') : w'.ownsRow base e size v n xs := by
  refine h.kept hg ?_
  cases hb : v.ownBlock with
  | none => exact .inl rfl
  | some b =>
    refine .inr (fun e2 => ?_)
    obtain ⟨_, cur, hc⟩ := own_has h b hb
    obtain ⟨cur', hc'⟩ := hrow b e2.symm
    exact has_ne hc hc' hne rfl
theorem oi_grow {w w' : World} {lo hi : Nat} {e : TypeId} {A : Option Addr} {xs : List Value} {row : Option Nat} (h : OI w lo hi e A xs) (hg : w.grownBy w' row) (hr : ∀ b, row = some b → hi ≤ b ∨ ∃ (t : TypeId) (cur : Array Value), Has w b t cur ∧ t ≠ e) : OI w' lo hi e A xs := by
  rcases h with h | ⟨b, cur, h1, h2, h3, h4, h5⟩
  · exact .inl h
  · refine .inr ⟨b, cur, h1, h2, h3, has_grown h4 hg (fun e2 => ?_), h5⟩
    rcases hr b e2.symm with h6 | ⟨t, cur', h6, h7⟩
    · omega
    · exact has_ne h6 h4 h7 rfl
theorem cur_set {w w' : World} {B g z : Nat} (h : Cur w B g) (ho : Only w z w') (h1 : B ≤ z) (h2 : z ≠ g) : Cur w' B g := cur_keep h fun k hk hor => ho.block k hk (fun e => by injection e with e; omega)
theorem only_set7 {w0 w w' : World} {g z : Nat} (h : Only w0 g w) (ho : Only w z w') (h1 : w0.heap.size ≤ z) : Only w0 g w' :=
  ⟨ho.os.trans h.os, ho.tape.trans h.tape, ho.output.trans h.output, Nat.le_trans h.size ho.size, fun k hk hne => (ho.block k (Nat.lt_of_lt_of_le hk h.size) (fun e => by injection e with e; omega)).trans (h.block k hk hne)⟩
theorem oi_set {w w' : World} {lo hi z : Nat} {e T : TypeId} {A : Option Addr} {xs : List Value} {cs : Array Value} (h : OI w lo hi e A xs) (hz : Has w z T cs) (hne : e ≠ T) (ho : Only w z w') : OI w' lo hi e A xs := by
  rcases h with h | ⟨b, cur, h1, h2, h3, h4, h5⟩
  · exact .inl h
  · exact .inr ⟨b, cur, h1, h2, h3, has_onl h4 ho (has_ne h4 hz hne), h5⟩
theorem oi_wider {w : World} {lo hi lo' hi' : Nat} {e : TypeId} {A : Option Addr} {xs : List Value} (h : OI w lo hi e A xs) (h1 : lo' ≤ lo) (h2 : hi ≤ hi') : OI w lo' hi' e A xs := by
  rcases h with h | ⟨g, cur, e, h3, h4, h5, h6⟩
  · exact .inl h
  · exact .inr ⟨g, cur, e, by omega, by omega, h5, h6⟩
theorem oi_own {w : World} {base : Nat} {e : TypeId} {A : Option Addr} {xs : List Value} {size n c : Nat} (h : w.ownsRow base e size (.slice A n c) n xs) : OI w base w.heap.size e A xs := OI.of_or (or_own' h)
theorem oi_cell7 {w : World} {lo hi gp k : Nat} {P : List Int} {x : Int} (h : OI w lo hi 3 (some ⟨gp, 0, none⟩) (intV P)) (hx : P[k]? = some x) : w.cell? ⟨gp, k, none⟩ = some (.int .i64 x) := by
  rcases h with h | ⟨b, cur, h1, h2, h3, h4, h5⟩
  · have := intV_at hx; rw [h] at this; simp at this
  · injection h1 with h1; injection h1 with h1; subst h1; exact has_cell h4 k (h5 _ _ (intV_at hx))
def rwV (R : List Rw) : List Value := R.map fun x => .slice x.A x.l.length x.c
theorem rwV_snoc (R : List Rw) (x : Rw) : rwV (R ++ [x]) = rwV R ++ [.slice x.A x.l.length x.c] := by simp [rwV]
theorem issInf7 : (Try.prog.info? 29).map (fun i => (i.zero, i.size, i.bytes)) = some (some (.slice none 0 0), 1, 24) := by kernel_rfl
theorem stpInf7 : (Try.prog.info? 50).map (fun i => (i.zero, i.size, i.bytes)) = some (some (.agg #[.int .i64 0, .int .i64 0, .int .i64 0, .int .i64 0, .int .i64 0]), 5, 40) := by kernel_rfl
theorem src_rw {w : World} {g : Nat} {A : Option Addr} {n c : Nat} {t : TypeId} (h : Has w g t #[.slice A n c]) : Src w (some ⟨g, 0, none⟩) 1 1 [.slice A n c] := by
  refine ⟨rfl, by simp [Value.oneCell'], (fun e => by cases e), fun ad e j u hu => ?_⟩
  injection e with e; subst e
  match j with
  | 0 => simp at hu; subst hu; exact has_cell h 0 rfl
  | j + 1 => simp at hu
theorem src_sp {w : World} {g : Nat} {a b c d e : Int} {t : TypeId} (h : Has w g t #[.int .i64 a, .int .i64 b, .int .i64 c, .int .i64 d, .int .i64 e]) : Src w (some ⟨g, 0, none⟩) 1 5 (spC ⟨a, b, c, d, e⟩) := by
  refine ⟨rfl, by simp [Value.oneCell', spC], (fun e => by cases e), fun ad e j u hu => ?_⟩
  injection e with e; subst e
  rcases j with _ | _ | _ | _ | _ | j
  all_goals simp [spC] at hu
  all_goals (subst hu; first | exact has_cell h 0 rfl | exact has_cell h 1 rfl | exact has_cell h 2 rfl | exact has_cell h 3 rfl | exact has_cell h 4 rfl)
/-- a valid round that is drawn -/
def DrawnR (w : World) (B g : Nat) (e : Ending) (w' : World) : Prop := ∃ (b r : Int) (AL AS : Option Addr) (cL cS : Nat) (R : List Rw) (S : List Sp), e = .returned (.agg #[.int .i64 b, .int .i64 r, .slice AL R.length cL, .slice AS S.length cS]) ∧ RoundT b r (gOf R) S ∧ S.length ≤ 4 ∧
  w'.ownsRow w.heap.size 29 1 (.slice AL R.length cL) R.length (rwV R) ∧ w'.ownsRow w.heap.size 50 5 (.slice AS S.length cS) S.length (spV S) ∧ (∀ x ∈ R, OI w' w.heap.size w'.heap.size 3 x.A (intV x.l)) ∧ Cur w' B g ∧ Only w g w'
set_option maxRecDepth 100000 in
set_option maxHeartbeats 8000000 in
theorem roundD_any (w : World) (B g : Nat) (hC : Cur w B g) : Calls Try.prog 15 #[.pointer (some ⟨g, 0, none⟩)] w (DrawnR w B g) := by
  have hlt := hC.lt; obtain ⟨hB, hg⟩ := hlt
  obtain ⟨i0_i, hi0, hz0, hz1, hz2⟩ := info_parts intInfo
  have hi_i := Lib.hid hi0; have hz0_i := Lib.hid hz0; have hz1_i := Lib.hid hz1; have hz2_i := Lib.hid hz2; clear hi0 hz0 hz1 hz2
  obtain ⟨i0_l, hi0, hz0, hz1, hz2⟩ := info_parts issInf7
  have hi_l := Lib.hid hi0; have hz0_l := Lib.hid hz0; have hz1_l := Lib.hid hz1; have hz2_l := Lib.hid hz2; clear hi0 hz0 hz1 hz2
  obtain ⟨i0_s, hi0, hz0, hz1, hz2⟩ := info_parts stpInf7
  have hi_s := Lib.hid hi0; have hz0_s := Lib.hid hz0; have hz1_s := Lib.hid hz1; have hz2_s := Lib.hid hz2; clear hi0 hz0 hz1 hz2
  have H_cur := Lib.hid (hC)
  clear hC
  have H_only := Lib.hid (only_refl w g)
  have hzw := H_only.out.size
  go_enter Try.func15, Try.ntmps15
  go_wp2_with fail
  generalize hX : (w.alloc (.cells #[.int .i64 0, .int .i64 0, .slice none 0 0, .slice none 0 0] 27)) = w1
  have hb : Below w.heap.size w w1 := by rw [← hX]; exact balloc _ _
  have hk : Has w1 w.heap.size 27 #[.int .i64 0, .int .i64 0, .slice none 0 0, .slice none 0 0] := by rw [← hX]; exact has_new _ _ _
  clear hX
  have kk := cur_bel H_cur.out hb; clear H_cur; have H_cur := Lib.hid kk; clear kk
  have kk := only_trans H_only.out (only_bel hb); clear H_only; have H_only := Lib.hid kk; clear kk
  have hmw1 := hb.size
  clear hb
  have hzw1 := H_only.out.size
  have H_zr := Lib.hid hk; have hl_zr := has_lt hk; clear hk
  refine (below_any _ B g 5 (by omega) (by omega) H_cur.out).mono ?_
  rintro e w2 ⟨x, hx0, hx1, rfl, hC9, hO9⟩
  have kk := hC9; clear H_cur; have H_cur := Lib.hid kk; clear kk
  have kk := only_trans H_only.out hO9; clear H_only; have H_only := Lib.hid kk; clear kk
  have kk := has_onl H_zr.out hO9 (by omega); clear H_zr; have H_zr := Lib.hid kk; clear kk
  have hmw2 := hO9.size
  clear hC9 hO9
  have hzw2 := H_only.out.size
  obtain ⟨n, rfl⟩ := Int.eq_ofNat_of_zero_le hx0
  go_wp2_with fail
  refine (below_any _ B g 40 (by omega) (by omega) H_cur.out).mono ?_
  rintro e w3 ⟨b, hb0, hb1, rfl, hC9, hO9⟩
  have kk := hC9; clear H_cur; have H_cur := Lib.hid kk; clear kk
  have kk := only_trans H_only.out hO9; clear H_only; have H_only := Lib.hid kk; clear kk
  have kk := has_onl H_zr.out hO9 (by omega); clear H_zr; have H_zr := Lib.hid kk; clear kk
  have hmw3 := hO9.size
  clear hC9 hO9
  have hzw3 := H_only.out.size
  go_wp2_with fail
  generalize hX : (w3.alloc (.cells #[.int .i64 4, .int .i64 8, .int .i64 12, .int .i64 20, .int .i64 1000] 3)) = w4
  have hb : Below w3.heap.size w3 w4 := by rw [← hX]; exact balloc _ _
  have hk : Has w4 w3.heap.size 3 #[.int .i64 4, .int .i64 8, .int .i64 12, .int .i64 20, .int .i64 1000] := by rw [← hX]; exact has_new _ _ _
  clear hX
  have kk := cur_bel H_cur.out hb; clear H_cur; have H_cur := Lib.hid kk; clear kk
  have kk := only_trans H_only.out (only_bel hb); clear H_only; have H_only := Lib.hid kk; clear kk
  have kk := has_call H_zr.out hb; clear H_zr; have H_zr := Lib.hid kk; clear kk
  have hmw4 := hb.size
  clear hb
  have hzw4 := H_only.out.size
  have H_zl := Lib.hid hk; have hl_zl := has_lt hk; clear hk
  have zl9 := H_zl.out
  clear H_zl
  refine (pickInt_any _ B g (w3.heap.size) 5 _ (4) (1000) H_cur.out zl9 rfl (by omega) (by omega) (by omega) (by intro j hj; rcases j with _ | _ | _ | _ | _ | j; exact ⟨_, by decide, by decide, rfl⟩; exact ⟨_, by decide, by decide, rfl⟩; exact ⟨_, by decide, by decide, rfl⟩; exact ⟨_, by decide, by decide, rfl⟩; exact ⟨_, by decide, by decide, rfl⟩; omega)).mono ?_
  rintro e w5 ⟨r, hr0, hr1, rfl, hC9, hO9⟩
  have kk := hC9; clear H_cur; have H_cur := Lib.hid kk; clear kk
  have kk := only_trans H_only.out hO9; clear H_only; have H_only := Lib.hid kk; clear kk
  have kk := has_onl H_zr.out hO9 (by omega); clear H_zr; have H_zr := Lib.hid kk; clear kk
  have hmw5 := hO9.size
  clear hC9 hO9
  have hzw5 := H_only.out.size
  clear zl9 hl_zl
  go_wp2_with fail
  generalize hX : (w5.alloc (.cells #[.int .i64 b, .int .i64 r, .slice none 0 0, .slice none 0 0] 27)) = w6
  have hb : Below w5.heap.size w5 w6 := by rw [← hX]; exact balloc _ _
  have hk : Has w6 w5.heap.size 27 #[.int .i64 b, .int .i64 r, .slice none 0 0, .slice none 0 0] := by rw [← hX]; exact has_new _ _ _
  clear hX
  have kk := cur_bel H_cur.out hb; clear H_cur; have H_cur := Lib.hid kk; clear kk
  have kk := only_trans H_only.out (only_bel hb); clear H_only; have H_only := Lib.hid kk; clear kk
  have kk := has_call H_zr.out hb; clear H_zr; have H_zr := Lib.hid kk; clear kk
  have hmw6 := hb.size
  clear hb
  have hzw6 := H_only.out.size
  have H_zt := Lib.hid hk; have hl_zt := has_lt hk; clear hk
  refine (once_any _ B g 2 (by omega) (by omega) H_cur.out).mono ?_
  rintro e w7 ⟨fl, rfl, hC9, hO9⟩
  have kk := hC9; clear H_cur; have H_cur := Lib.hid kk; clear kk
  have kk := only_trans H_only.out hO9; clear H_only; have H_only := Lib.hid kk; clear kk
  have kk := has_onl H_zr.out hO9 (by omega); clear H_zr; have H_zr := Lib.hid kk; clear kk
  have kk := has_onl H_zt.out hO9 (by omega); clear H_zt; have H_zt := Lib.hid kk; clear kk
  have hmw7 := hO9.size
  clear hC9 hO9
  have hzw7 := H_only.out.size
  go_wp2_with fail
  generalize hX : (w7.alloc (.cells #[] 3)) = w8
  have hb : Below w7.heap.size w7 w8 := by rw [← hX]; exact balloc _ _
  have hown : w8.ownsRow w.heap.size 3 1 (.slice (some ⟨w7.heap.size, 0, none⟩) 0 0) 0 (intV []) := by rw [← hX]; exact owns_at w7 w.heap.size 3 1 _ rfl (by omega)
  clear hX
  have kk := cur_bel H_cur.out hb; clear H_cur; have H_cur := Lib.hid kk; clear kk
  have kk := only_trans H_only.out (only_bel hb); clear H_only; have H_only := Lib.hid kk; clear kk
  have kk := has_call H_zr.out hb; clear H_zr; have H_zr := Lib.hid kk; clear kk
  have kk := has_call H_zt.out hb; clear H_zt; have H_zt := Lib.hid kk; clear kk
  have hmw8 := hb.size
  clear hb
  have hzw8 := H_only.out.size
  have H_pl := Lib.hid hown; clear hown
  obtain ⟨Z, hZe⟩ : ∃ Z, w5.heap.size = Z := ⟨_, rfl⟩
  rw [hZe] at H_zt ⊢
  have hZ : w.heap.size < Z := by omega
  clear hZe
  go_loopw [6, 7] (fun pv iv wr => ∃ (k : Nat) (P : List Int) (PA : Option Addr) (pc : Nat), k ≤ n + 1 ∧ iv = .int .i64 k ∧ P.length = k ∧ pv = .slice PA k pc ∧ (∀ x ∈ P, 0 ≤ x ∧ x ≤ 8) ∧ wr.ownsRow w.heap.size 3 1 (.slice PA k pc) k (intV P) ∧ Has wr w.heap.size 27 #[.int .i64 0, .int .i64 0, .slice none 0 0, .slice none 0 0] ∧ Has wr Z 27 #[.int .i64 b, .int .i64 r, .slice none 0 0, .slice none 0 0] ∧ Cur wr B g ∧ Only w g wr) (fun _ iv _ => n + 1 - (intOf iv).toNat)
  case atStart => exact ⟨0, [], _, _, Nat.zero_le _, rfl, rfl, rfl, (fun x hx => by cases hx), H_pl.out, H_zr.out, H_zt.out, H_cur.out, H_only.out⟩
  clear H_cur H_only H_zr H_zt H_pl
  case round =>
    obtain ⟨k, P, PA, pc, hk, rfl, hPl, rfl, hP8, hpl, hzr, hzt, hcu, hon⟩ := hrel
    have HP8 := Lib.hid hP8; have HPL := Lib.hid hPl; clear hP8 hPl
    have H_pl := Lib.hid (hpl)
    clear hpl
    have H_zr := Lib.hid (hzr)
    clear hzr
    have H_zt := Lib.hid (hzt)
    clear hzt
    have H_cur := Lib.hid (hcu)
    clear hcu
    have H_only := Lib.hid (hon)
    clear hon
    have hzwr := H_only.out.size
    by_cases hlt : k ≤ n
    · skip
      go_wp2_with fail
      refine (below_any _ B g 9 (by omega) (by omega) H_cur.out).mono ?_
      rintro e w9 ⟨y, hy0, hy1, rfl, hC9, hO9⟩
      have kk := own_o7 H_pl.out hO9 (by omega); clear H_pl; have H_pl := Lib.hid kk; clear kk
      have kk := has_onl H_zr.out hO9 (by omega); clear H_zr; have H_zr := Lib.hid kk; clear kk
      have kk := has_onl H_zt.out hO9 (by omega); clear H_zt; have H_zt := Lib.hid kk; clear kk
      have kk := hC9; clear H_cur; have H_cur := Lib.hid kk; clear kk
      have kk := only_trans H_only.out hO9; clear H_only; have H_only := Lib.hid kk; clear kk
      have hmw9 := hO9.size
      clear hC9 hO9
      have hzw9 := H_only.out.size
      go_wp2_with (at_builtin; go_must (refine list_app rfl _ _ 29 rfl (w.heap.size) 3 i0_i (.int .i64 0) 1 8 Try.underlying29 hi_i.out hz0_i.out hz1_i.out hz2_i.out rfl (by decide) _ k _ rfl (H_pl.out.alloc _) (some ⟨w9.heap.size, 0, none⟩) 1 1 [.int .i64 y] rfl (src_one (has_new _ _ _)) (by unfold maxLen; omega) (by omega) (by simp; omega) ?_))
      intro aA ac w10 hown3 hgrow3 hrow3
      have kk := has_alloc H_zr.out (.cells #[.int .i64 y] 3); clear H_zr; have H_zr := Lib.hid kk; clear kk
      have kk := has_alloc H_zt.out (.cells #[.int .i64 y] 3); clear H_zt; have H_zt := Lib.hid kk; clear kk
      have kk := H_cur.out.alloc (by omega) (.cells #[.int .i64 y] 3); clear H_cur; have H_cur := Lib.hid kk; clear kk
      have kk := only_trans H_only.out (only_alloc _ (.cells #[.int .i64 y] 3)); clear H_only; have H_only := Lib.hid kk; clear kk
      have kk := has_gt H_zr.out hgrow3 (fun b7 hb7 => (hrow3 b7 hb7).2) (by decide); clear H_zr; have H_zr := Lib.hid kk; clear kk
      have kk := has_gt H_zt.out hgrow3 (fun b7 hb7 => (hrow3 b7 hb7).2) (by decide); clear H_zt; have H_zt := Lib.hid kk; clear kk
      have kk := cur_grow H_cur.out hgrow3 (fun b7 hb7 => by have h7 := (hrow3 b7 hb7).1; omega); clear H_cur; have H_cur := Lib.hid kk; clear kk
      have kk := only_grow H_only.out hgrow3 (fun b7 hb7 => by have h7 := (hrow3 b7 hb7).1; omega); clear H_only; have H_only := Lib.hid kk; clear kk
      have hmw10 : w9.heap.size ≤ w10.heap.size := Nat.le_trans (Nat.le_succ _) (by simpa using hgrow3.size)
      have hzw10 := H_only.out.size
      clear H_pl hgrow3 hrow3
      have H_pl := Lib.hid (show w10.ownsRow w.heap.size 3 1 (.slice aA (k + 1) ac) (k + 1) (intV (P ++ [y])) by simpa [intV] using hown3)
      clear hown3
      go_wp2_with fail
      go_roundw
      case rel => exact ⟨k + 1, P ++ [y], aA, ac, by omega, by go_num, by simp [HPL.out], rfl, (fun x hx => by
        rcases List.mem_append.1 hx with hx | hx
        · exact HP8.out x hx
        · simp at hx; subst hx; omega), H_pl.out, H_zr.out, H_zt.out, H_cur.out, H_only.out⟩
      case measure => simp [intOf]; omega
    have hkn1 : k ≤ n + 1 := hk
    have hkn2 : n + 1 ≤ k := by omega
    go_wp2_with fail
    clear hlt hk
    obtain ⟨c1, hc1⟩ : ∃ c1, k = c1 := ⟨_, rfl⟩
    subst hc1
    have hpo := oi_own H_pl.out
    have hPne : intV P ≠ [] := fun h => by have h1 := congrArg List.length h; rw [intV_len, HPL.out] at h1; simp at h1; omega
    obtain ⟨gp, hPA⟩ : ∃ gp, PA = some ⟨gp, 0, none⟩ := by
      rcases hpo with h | ⟨gp, cur, h1, _⟩
      · exact absurd h hPne
      · exact ⟨gp, h1⟩
    subst hPA
    clear H_pl hPne
    have H_po := Lib.hid hpo; clear hpo
    have hzwz := hzwr; clear hzwr
    rename World => wz
    go_loopw [8] (fun iv wr => ∃ (k : Nat) (R : List Rw) (AL : Option Addr) (cL : Nat), k ≤ n + 1 ∧ iv = .int .i64 k ∧ R.length = k ∧ (∀ l ∈ gOf R, l.length = n + 1 ∧ ∀ x ∈ l, 0 ≤ x ∧ x ≤ 200) ∧ wr.ownsRow w.heap.size 29 1 (.slice AL k cL) k (rwV R) ∧ (∀ x ∈ R, OI wr w.heap.size wr.heap.size 3 x.A (intV x.l)) ∧ OI wr w.heap.size wr.heap.size 3 (some ⟨gp, 0, none⟩) (intV P) ∧ Has wr w.heap.size 27 #[.int .i64 0, .int .i64 0, .slice none 0 0, .slice none 0 0] ∧ Has wr Z 27 #[.int .i64 b, .int .i64 r, .slice AL k cL, .slice none 0 0] ∧ Cur wr B g ∧ Only w g wr) (fun iv _ => n + 1 - (intOf iv).toNat)
    case atStart => exact ⟨0, [], none, 0, Nat.zero_le _, rfl, rfl, (fun l hl => by simp [gOf] at hl), World.ownsRow_nil _ _ _ _, (fun x hx => by cases hx), H_po.out, H_zr.out, H_zt.out, H_cur.out, H_only.out⟩
    clear H_po H_zr H_zt H_cur H_only
    case round =>
      obtain ⟨i, R, AL, cL, hk2, rfl, hRl, hgo, hlg, hrk, hpo, hzr, hzt, hcu, hon⟩ := hrel
      have HGO := Lib.hid hgo; have HRL := Lib.hid hRl; clear hgo hRl
      have H_lg := Lib.hid (hlg)
      clear hlg
      have H_rk := Lib.hid (hrk)
      clear hrk
      have H_po := Lib.hid (hpo)
      clear hpo
      have H_zr := Lib.hid (hzr)
      clear hzr
      have H_zt := Lib.hid (hzt)
      clear hzt
      have H_cur := Lib.hid (hcu)
      clear hcu
      have H_only := Lib.hid (hon)
      clear hon
      have hzwr := H_only.out.size
      by_cases hlt : i ≤ n
      · skip
        go_wp2_with fail
        obtain ⟨hi, hhi⟩ : ∃ hi, wr.heap.size = hi := ⟨_, rfl⟩
        rw [hhi] at H_rk H_po
        generalize hX : (wr.alloc (.cells #[] 3)) = w11
        have hb : Below wr.heap.size wr w11 := by rw [← hX]; exact balloc _ _
        have hown : w11.ownsRow hi 3 1 (.slice (some ⟨wr.heap.size, 0, none⟩) 0 0) 0 (intV []) := by rw [← hX]; exact owns_at wr hi 3 1 _ rfl (by omega)
        clear hX
        have kk := own_call H_lg.out hb; clear H_lg; have H_lg := Lib.hid kk; clear kk
        have kk := (fun (x : Rw) (hx : x ∈ R) => (H_rk.out x hx).call hb); clear H_rk; have H_rk := Lib.hid kk; clear kk
        have kk := H_po.out.call hb; clear H_po; have H_po := Lib.hid kk; clear kk
        have kk := has_call H_zr.out hb; clear H_zr; have H_zr := Lib.hid kk; clear kk
        have kk := has_call H_zt.out hb; clear H_zt; have H_zt := Lib.hid kk; clear kk
        have kk := cur_bel H_cur.out hb; clear H_cur; have H_cur := Lib.hid kk; clear kk
        have kk := only_trans H_only.out (only_bel hb); clear H_only; have H_only := Lib.hid kk; clear kk
        have hmw11 := hb.size
        clear hb
        have hzw11 := H_only.out.size
        have H_ow := Lib.hid hown; clear hown
        have hhz : w.heap.size ≤ hi := by omega
        have hhc : hi ≤ w11.heap.size := by omega
        clear hhi
        rename World => wy
        go_loopw [9, 10] (fun rv kv wr => (∃ (m : Nat) (l : List Int) (RA : Option Addr) (rc : Nat), m ≤ n + 1 ∧ kv = .int .i64 m ∧ l.length = m ∧ rv = .slice RA m rc ∧ (∀ x ∈ l, 0 ≤ x ∧ x ≤ 200) ∧ wr.ownsRow hi 3 1 (.slice RA m rc) m (intV l) ∧ hi ≤ wr.heap.size ∧ wr.ownsRow w.heap.size 29 1 (.slice AL i cL) i (rwV R) ∧ (∀ x ∈ R, OI wr w.heap.size hi 3 x.A (intV x.l)) ∧ OI wr w.heap.size hi 3 (some ⟨gp, 0, none⟩) (intV P) ∧ Has wr w.heap.size 27 #[.int .i64 0, .int .i64 0, .slice none 0 0, .slice none 0 0] ∧ Has wr Z 27 #[.int .i64 b, .int .i64 r, .slice AL i cL, .slice none 0 0] ∧ Cur wr B g ∧ Only w g wr)) (fun _ kv _ => n + 1 - (intOf kv).toNat)
        case atStart => exact ⟨0, [], _, _, Nat.zero_le _, rfl, rfl, rfl, (fun x hx => by cases hx), H_ow.out, by omega, H_lg.out, H_rk.out, H_po.out, H_zr.out, H_zt.out, H_cur.out, H_only.out⟩
        clear H_lg H_rk H_po H_zr H_zt H_cur H_only H_ow
        case round =>
          obtain ⟨m, l, RA, rc, hm, rfl, hll, rfl, hl8, how, hhw, hlg, hrk, hpo, hzr, hzt, hcu, hon⟩ := hrel
          have HL8 := Lib.hid hl8; have HLL := Lib.hid hll; clear hl8 hll
          have H_ow := Lib.hid (how)
          clear how
          have H_lg := Lib.hid (hlg)
          clear hlg
          have H_rk := Lib.hid (hrk)
          clear hrk
          have H_po := Lib.hid (hpo)
          clear hpo
          have H_zr := Lib.hid (hzr)
          clear hzr
          have H_zt := Lib.hid (hzt)
          clear hzt
          have H_cur := Lib.hid (hcu)
          clear hcu
          have H_only := Lib.hid (hon)
          clear hon
          have hzwr := H_only.out.size
          by_cases hlm : m ≤ n
          · skip
            have hPk : P[i]? = some (P[i]'(by have := HPL.out; omega)) := List.getElem?_eq_getElem _
            have hPm : P[m]? = some (P[m]'(by have := HPL.out; omega)) := List.getElem?_eq_getElem _
            have hpk8 := HP8.out _ (List.mem_of_getElem? hPk); have hpm8 := HP8.out _ (List.mem_of_getElem? hPm)
            obtain ⟨pk, hpk⟩ : ∃ x, (P[i]'(by have := HPL.out; omega)) = x := ⟨_, rfl⟩
            obtain ⟨pm, hpm⟩ : ∃ x, (P[m]'(by have := HPL.out; omega)) = x := ⟨_, rfl⟩
            rw [hpk] at hPk hpk8; rw [hpm] at hPm hpm8; clear hpk hpm
            have hck := oi_cell7 H_po.out hPk; have hcm := oi_cell7 H_po.out hPm; clear hPk hPm
            go_wp2_with fail
            go_quiet (fail)
            clear hck hcm
            rename Nat => nq0
            obtain ⟨mx, hmx⟩ : ∃ mx, (if pk - pm < pm - pk then pm - pk else pk - pm) = mx := ⟨_, rfl⟩
            have hmx8 : 0 ≤ mx ∧ mx ≤ 8 := by rw [← hmx]; split <;> omega
            try rw [hmx]
            clear hmx
            generalize hX : wr.drewN nq0 = w12
            have kk := H_ow.out; clear H_ow
            have H_ow := Lib.hid (show World.ownsRow w12 _ _ _ _ _ _ by rw [← hX]; exact kk); clear kk
            have kk := H_lg.out; clear H_lg
            have H_lg := Lib.hid (show World.ownsRow w12 _ _ _ _ _ _ by rw [← hX]; exact kk); clear kk
            have kk := H_rk.out; clear H_rk
            have H_rk := Lib.hid (show (∀ x ∈ R, OI w12 _ _ _ _ _) by rw [← hX]; exact kk); clear kk
            have kk := H_po.out; clear H_po
            have H_po := Lib.hid (show OI w12 _ _ _ _ _ by rw [← hX]; exact kk); clear kk
            have kk := H_zr.out; clear H_zr
            have H_zr := Lib.hid (show Has w12 _ _ _ by rw [← hX]; exact kk); clear kk
            have kk := H_zt.out; clear H_zt
            have H_zt := Lib.hid (show Has w12 _ _ _ by rw [← hX]; exact kk); clear kk
            have kk := H_cur.out; clear H_cur
            have H_cur := Lib.hid (show Cur w12 B g by rw [← hX]; exact kk); clear kk
            have kk := H_only.out; clear H_only
            have H_only := Lib.hid (show Only w g w12 by rw [← hX]; exact only_drewN kk _); clear kk
            have hmq : wr.heap.size ≤ w12.heap.size := by rw [← hX]; exact Nat.le_refl _
            clear hX
            have hzw12 := H_only.out.size
            cases fl
            · skip
              go_wp2_with fail
              refine (below_any _ B g 9 (by omega) (by omega) H_cur.out).mono ?_
              rintro e w13 ⟨y, hy0, hy1, rfl, hC9, hO9⟩
              have kk := own_o7 H_ow.out hO9 (by omega); clear H_ow; have H_ow := Lib.hid kk; clear kk
              have kk := own_o7 H_lg.out hO9 (by omega); clear H_lg; have H_lg := Lib.hid kk; clear kk
              have kk := (fun (x : Rw) (hx : x ∈ R) => oi_draw (H_rk.out x hx) hO9 (by omega)); clear H_rk; have H_rk := Lib.hid kk; clear kk
              have kk := oi_draw H_po.out hO9 (by omega); clear H_po; have H_po := Lib.hid kk; clear kk
              have kk := has_onl H_zr.out hO9 (by omega); clear H_zr; have H_zr := Lib.hid kk; clear kk
              have kk := has_onl H_zt.out hO9 (by omega); clear H_zt; have H_zt := Lib.hid kk; clear kk
              have kk := hC9; clear H_cur; have H_cur := Lib.hid kk; clear kk
              have kk := only_trans H_only.out hO9; clear H_only; have H_only := Lib.hid kk; clear kk
              have hmw13 := hO9.size
              clear hC9 hO9
              have hzw13 := H_only.out.size
              go_wp2_with (at_builtin; go_must (refine list_app rfl _ _ 29 rfl (hi) 3 i0_i (.int .i64 0) 1 8 Try.underlying29 hi_i.out hz0_i.out hz1_i.out hz2_i.out rfl (by decide) _ m _ rfl (H_ow.out.alloc _) (some ⟨w13.heap.size, 0, none⟩) 1 1 [.int .i64 y] rfl (src_one (has_new _ _ _)) (by unfold maxLen; omega) (by omega) (by simp; omega) ?_))
              intro aA ac w14 hown3 hgrow3 hrow3
              have kk := H_lg.out.alloc (.cells #[.int .i64 y] 3); clear H_lg; have H_lg := Lib.hid kk; clear kk
              have kk := (fun (x : Rw) (hx : x ∈ R) => (H_rk.out x hx).call (balloc _ (.cells #[.int .i64 y] 3))); clear H_rk; have H_rk := Lib.hid kk; clear kk
              have kk := H_po.out.call (balloc _ (.cells #[.int .i64 y] 3)); clear H_po; have H_po := Lib.hid kk; clear kk
              have kk := has_alloc H_zr.out (.cells #[.int .i64 y] 3); clear H_zr; have H_zr := Lib.hid kk; clear kk
              have kk := has_alloc H_zt.out (.cells #[.int .i64 y] 3); clear H_zt; have H_zt := Lib.hid kk; clear kk
              have kk := H_cur.out.alloc (by omega) (.cells #[.int .i64 y] 3); clear H_cur; have H_cur := Lib.hid kk; clear kk
              have kk := only_trans H_only.out (only_alloc _ (.cells #[.int .i64 y] 3)); clear H_only; have H_only := Lib.hid kk; clear kk
              have kk := own_gt H_lg.out hgrow3 (fun b7 hb7 => (hrow3 b7 hb7).2) (by decide); clear H_lg; have H_lg := Lib.hid kk; clear kk
              have kk := (fun (x : Rw) (hx : x ∈ R) => oi_grow (H_rk.out x hx) hgrow3 (fun b7 hb7 => .inl (by have h7 := (hrow3 b7 hb7).1; omega))); clear H_rk; have H_rk := Lib.hid kk; clear kk
              have kk := oi_grow H_po.out hgrow3 (fun b7 hb7 => .inl (by have h7 := (hrow3 b7 hb7).1; omega)); clear H_po; have H_po := Lib.hid kk; clear kk
              have kk := has_gt H_zr.out hgrow3 (fun b7 hb7 => (hrow3 b7 hb7).2) (by decide); clear H_zr; have H_zr := Lib.hid kk; clear kk
              have kk := has_gt H_zt.out hgrow3 (fun b7 hb7 => (hrow3 b7 hb7).2) (by decide); clear H_zt; have H_zt := Lib.hid kk; clear kk
              have kk := cur_grow H_cur.out hgrow3 (fun b7 hb7 => by have h7 := (hrow3 b7 hb7).1; omega); clear H_cur; have H_cur := Lib.hid kk; clear kk
              have kk := only_grow H_only.out hgrow3 (fun b7 hb7 => by have h7 := (hrow3 b7 hb7).1; omega); clear H_only; have H_only := Lib.hid kk; clear kk
              have hmw14 : w13.heap.size ≤ w14.heap.size := Nat.le_trans (Nat.le_succ _) (by simpa using hgrow3.size)
              have hzw14 := H_only.out.size
              clear H_ow hgrow3 hrow3
              have H_ow := Lib.hid (show w14.ownsRow hi 3 1 (.slice aA (m + 1) ac) (m + 1) (intV (l ++ [y])) by simpa [intV] using hown3)
              clear hown3
              go_wp2_with fail
              go_roundw
              case rel => exact ⟨m + 1, l ++ [y], aA, ac, by omega, by go_num, by simp [HLL.out], rfl, (fun x hx => by
                rcases List.mem_append.1 hx with hx | hx
                · exact HL8.out x hx
                · simp at hx; subst hx; omega), H_ow.out, by omega, H_lg.out, H_rk.out, H_po.out, H_zr.out, H_zt.out, H_cur.out, H_only.out⟩
              case measure => simp [intOf]; omega
            · skip
              go_wp2_with (at_builtin; go_must (refine list_app rfl _ _ 29 rfl (hi) 3 i0_i (.int .i64 0) 1 8 Try.underlying29 hi_i.out hz0_i.out hz1_i.out hz2_i.out rfl (by decide) _ m _ rfl (H_ow.out.alloc _) (some ⟨w12.heap.size, 0, none⟩) 1 1 [.int .i64 mx] rfl (src_one (has_new _ _ _)) (by unfold maxLen; omega) (by omega) (by simp; omega) ?_))
              intro aA ac w13 hown3 hgrow3 hrow3
              have kk := H_lg.out.alloc (.cells #[.int .i64 mx] 3); clear H_lg; have H_lg := Lib.hid kk; clear kk
              have kk := (fun (x : Rw) (hx : x ∈ R) => (H_rk.out x hx).call (balloc _ (.cells #[.int .i64 mx] 3))); clear H_rk; have H_rk := Lib.hid kk; clear kk
              have kk := H_po.out.call (balloc _ (.cells #[.int .i64 mx] 3)); clear H_po; have H_po := Lib.hid kk; clear kk
              have kk := has_alloc H_zr.out (.cells #[.int .i64 mx] 3); clear H_zr; have H_zr := Lib.hid kk; clear kk
              have kk := has_alloc H_zt.out (.cells #[.int .i64 mx] 3); clear H_zt; have H_zt := Lib.hid kk; clear kk
              have kk := H_cur.out.alloc (by omega) (.cells #[.int .i64 mx] 3); clear H_cur; have H_cur := Lib.hid kk; clear kk
              have kk := only_trans H_only.out (only_alloc _ (.cells #[.int .i64 mx] 3)); clear H_only; have H_only := Lib.hid kk; clear kk
              have kk := own_gt H_lg.out hgrow3 (fun b7 hb7 => (hrow3 b7 hb7).2) (by decide); clear H_lg; have H_lg := Lib.hid kk; clear kk
              have kk := (fun (x : Rw) (hx : x ∈ R) => oi_grow (H_rk.out x hx) hgrow3 (fun b7 hb7 => .inl (by have h7 := (hrow3 b7 hb7).1; omega))); clear H_rk; have H_rk := Lib.hid kk; clear kk
              have kk := oi_grow H_po.out hgrow3 (fun b7 hb7 => .inl (by have h7 := (hrow3 b7 hb7).1; omega)); clear H_po; have H_po := Lib.hid kk; clear kk
              have kk := has_gt H_zr.out hgrow3 (fun b7 hb7 => (hrow3 b7 hb7).2) (by decide); clear H_zr; have H_zr := Lib.hid kk; clear kk
              have kk := has_gt H_zt.out hgrow3 (fun b7 hb7 => (hrow3 b7 hb7).2) (by decide); clear H_zt; have H_zt := Lib.hid kk; clear kk
              have kk := cur_grow H_cur.out hgrow3 (fun b7 hb7 => by have h7 := (hrow3 b7 hb7).1; omega); clear H_cur; have H_cur := Lib.hid kk; clear kk
              have kk := only_grow H_only.out hgrow3 (fun b7 hb7 => by have h7 := (hrow3 b7 hb7).1; omega); clear H_only; have H_only := Lib.hid kk; clear kk
              have hmw13 : w12.heap.size ≤ w13.heap.size := Nat.le_trans (Nat.le_succ _) (by simpa using hgrow3.size)
              have hzw13 := H_only.out.size
              clear H_ow hgrow3 hrow3
              have H_ow := Lib.hid (show w13.ownsRow hi 3 1 (.slice aA (m + 1) ac) (m + 1) (intV (l ++ [mx])) by simpa [intV] using hown3)
              clear hown3
              go_wp2_with fail
              go_roundw
              case rel => exact ⟨m + 1, l ++ [mx], aA, ac, by omega, by go_num, by simp [HLL.out], rfl, (fun x hx => by
                rcases List.mem_append.1 hx with hx | hx
                · exact HL8.out x hx
                · simp at hx; subst hx; omega), H_ow.out, by omega, H_lg.out, H_rk.out, H_po.out, H_zr.out, H_zt.out, H_cur.out, H_only.out⟩
              case measure => simp [intOf]; omega
          have hmn := Lib.hid (show m = n + 1 by omega)
          have hmb : m ≤ 1000 := by omega
          have kk := (fun (x : Rw) (hx : x ∈ R ++ [⟨RA, rc, l⟩]) => (show OI wr w.heap.size wr.heap.size 3 x.A (intV x.l) from by
            rcases List.mem_append.1 hx with hx | hx
            · exact oi_wider (H_rk.out x hx) (Nat.le_refl _) hhw
            · simp at hx; subst hx; exact oi_wider (oi_own H_ow.out) hhz (Nat.le_refl _)))
          clear H_rk H_ow
          have H_rk := Lib.hid kk; clear kk
          have kk := oi_wider H_po.out (Nat.le_refl _) hhw; clear H_po; have H_po := Lib.hid kk; clear kk
          have ztc2 := has_cell H_zt.out 2 rfl; have ztf2 := has_free H_zt.out 2; have hlz := has_lt H_zt.out
          go_wp2_with (at_builtin; go_must (refine list_app rfl _ _ 24 rfl (w.heap.size) 29 i0_l (.slice none 0 0) 1 24 Try.underlying24 hi_l.out hz0_l.out hz1_l.out hz2_l.out rfl (by decide) _ i _ rfl (H_lg.out.alloc _) (some ⟨wr.heap.size, 0, none⟩) 1 1 [.slice RA m rc] rfl (src_rw (has_new _ _ _)) (by unfold maxLen; omega) (by omega) (by simp; omega) ?_))
          intro aA ac w12 hown3 hgrow3 hrow3
          have kk := (fun (x : Rw) (hx : x ∈ R ++ [(⟨RA, rc, l⟩ : Rw)]) => (H_rk.out x hx).call (balloc _ (.cells #[.slice RA m rc] 29))); clear H_rk; have H_rk := Lib.hid kk; clear kk
          have kk := H_po.out.call (balloc _ (.cells #[.slice RA m rc] 29)); clear H_po; have H_po := Lib.hid kk; clear kk
          have kk := has_alloc H_zr.out (.cells #[.slice RA m rc] 29); clear H_zr; have H_zr := Lib.hid kk; clear kk
          have kk := has_alloc H_zt.out (.cells #[.slice RA m rc] 29); clear H_zt; have H_zt := Lib.hid kk; clear kk
          have kk := H_cur.out.alloc (by omega) (.cells #[.slice RA m rc] 29); clear H_cur; have H_cur := Lib.hid kk; clear kk
          have kk := only_trans H_only.out (only_alloc _ (.cells #[.slice RA m rc] 29)); clear H_only; have H_only := Lib.hid kk; clear kk
          clear ztc2 ztf2 hlz hlm
          have kk := (fun (x : Rw) (hx : x ∈ R ++ [(⟨RA, rc, l⟩ : Rw)]) => oi_grow (H_rk.out x hx) hgrow3 (fun b7 hb7 => .inr ⟨_, (hrow3 b7 hb7).2.choose, (hrow3 b7 hb7).2.choose_spec, by decide⟩)); clear H_rk; have H_rk := Lib.hid kk; clear kk
          have kk := oi_grow H_po.out hgrow3 (fun b7 hb7 => .inr ⟨_, (hrow3 b7 hb7).2.choose, (hrow3 b7 hb7).2.choose_spec, by decide⟩); clear H_po; have H_po := Lib.hid kk; clear kk
          have kk := has_gt H_zr.out hgrow3 (fun b7 hb7 => (hrow3 b7 hb7).2) (by decide); clear H_zr; have H_zr := Lib.hid kk; clear kk
          have kk := has_gt H_zt.out hgrow3 (fun b7 hb7 => (hrow3 b7 hb7).2) (by decide); clear H_zt; have H_zt := Lib.hid kk; clear kk
          have kk := cur_grow H_cur.out hgrow3 (fun b7 hb7 => by have h7 := (hrow3 b7 hb7).1; omega); clear H_cur; have H_cur := Lib.hid kk; clear kk
          have kk := only_grow H_only.out hgrow3 (fun b7 hb7 => by have h7 := (hrow3 b7 hb7).1; omega); clear H_only; have H_only := Lib.hid kk; clear kk
          have hmw12 : wr.heap.size ≤ w12.heap.size := Nat.le_trans (Nat.le_succ _) (by simpa using hgrow3.size)
          have hzw12 := H_only.out.size
          clear H_lg hgrow3 hrow3
          have H_lg := Lib.hid (show w12.ownsRow w.heap.size 29 1 (.slice aA (i + 1) ac) (i + 1) (rwV (R ++ [⟨RA, rc, l⟩])) from by rw [rwV_snoc]; dsimp only; rw [HLL.out]; exact hown3)
          clear hown3
          have ztc2 := has_cell H_zt.out 2 rfl; have ztf2 := has_free H_zt.out 2; have hlz := has_lt H_zt.out
          go_wp2_with fail
          clear ztc2 ztf2 hlz
          go_roundw
          case rel =>
            generalize hX : World.setCell _ _ _ = w13
            have ho : Only w12 Z w13 := by rw [← hX]; exact only_set (only_refl _ _) _ _
            have hnew : Has w13 Z 27 #[.int .i64 b, .int .i64 r, .slice aA (i + 1) ac, .slice none 0 0] := by rw [← hX]; simpa using has_set H_zt.out 2 (.slice aA (i + 1) ac)
            clear hX
            have hZ7 := H_zt.out
            have kk := (fun (x : Rw) (hx : x ∈ R ++ [(⟨RA, rc, l⟩ : Rw)]) => oi_set (H_rk.out x hx) hZ7 (by decide) ho); clear H_rk; have H_rk := Lib.hid kk; clear kk
            have kk := oi_set H_po.out hZ7 (by decide) ho; clear H_po; have H_po := Lib.hid kk; clear kk
            have kk := has_onl H_zr.out ho (by omega); clear H_zr; have H_zr := Lib.hid kk; clear kk
            have kk := cur_set H_cur.out ho (by omega) (by omega); clear H_cur; have H_cur := Lib.hid kk; clear kk
            have kk := only_set7 H_only.out ho (by omega); clear H_only; have H_only := Lib.hid kk; clear kk
            have kk := own_kt H_lg.out hZ7 (by decide) ho; clear H_lg; have H_lg := Lib.hid kk; clear kk
            have kk := hnew; clear H_zt; have H_zt := Lib.hid kk; clear kk
            clear hZ7
            have hmw13 := ho.size
            have hzw13 := H_only.out.size
            exact ⟨i + 1, R ++ [⟨RA, rc, l⟩], aA, ac, by omega, by go_num, by simp [HRL.out], (fun q hq => by
              rw [show gOf (R ++ [⟨RA, rc, l⟩]) = gOf R ++ [l] by simp [gOf]] at hq
              rcases List.mem_append.1 hq with hq | hq
              · exact HGO.out q hq
              · simp at hq; subst hq; exact ⟨HLL.out.trans hmn.out, HL8.out⟩), H_lg.out, (fun x hx => oi_wider (H_rk.out x hx) (Nat.le_refl _) (by omega)), oi_wider H_po.out (Nat.le_refl _) (by omega), H_zr.out, H_zt.out, H_cur.out, H_only.out⟩
          case measure => simp [intOf]; omega
      clear H_po
      have hin := Lib.hid (show i = n + 1 by omega)
      go_wp2_with fail
      clear hlt hk2
      rename World => wy
      go_loopw [12] (fun jv wr => ∃ (j : Nat) (S : List Sp) (AS : Option Addr) (cS : Nat), j ≤ n ∧ jv = .int .i64 j ∧ S.length = j ∧ (∀ q ∈ S, stopB q = true) ∧ wr.ownsRow w.heap.size 50 5 (.slice AS j cS) j (spV S) ∧ wr.ownsRow w.heap.size 29 1 (.slice AL i cL) i (rwV R) ∧ (∀ x ∈ R, OI wr w.heap.size wr.heap.size 3 x.A (intV x.l)) ∧ Has wr w.heap.size 27 #[.int .i64 0, .int .i64 0, .slice none 0 0, .slice none 0 0] ∧ Has wr Z 27 #[.int .i64 b, .int .i64 r, .slice AL i cL, .slice AS j cS] ∧ Cur wr B g ∧ Only w g wr) (fun jv _ => n - (intOf jv).toNat)
      case atStart => exact ⟨0, [], none, 0, Nat.zero_le _, rfl, rfl, (fun q hq => by cases hq), World.ownsRow_nil _ _ _ _, H_lg.out, H_rk.out, H_zr.out, H_zt.out, H_cur.out, H_only.out⟩
      clear H_lg H_rk H_zr H_zt H_cur H_only
      case round =>
        obtain ⟨j, S, AS, cS, hj, rfl, hSl, hst, hso, hlg, hrk, hzr, hzt, hcu, hon⟩ := hrel
        have HST := Lib.hid hst; have HSL := Lib.hid hSl; clear hst hSl
        have H_so := Lib.hid (hso)
        clear hso
        have H_lg := Lib.hid (hlg)
        clear hlg
        have H_rk := Lib.hid (hrk)
        clear hrk
        have H_zr := Lib.hid (hzr)
        clear hzr
        have H_zt := Lib.hid (hzt)
        clear hzt
        have H_cur := Lib.hid (hcu)
        clear hcu
        have H_only := Lib.hid (hon)
        clear hon
        have hzwr := H_only.out.size
        by_cases hlt : j < n
        · skip
          go_wp2_with fail
          refine (below_any _ B g 50 (by omega) (by omega) H_cur.out).mono ?_
          rintro e w14 ⟨st, hst0, hst1, rfl, hC9, hO9⟩
          have kk := own_o7 H_so.out hO9 (by omega); clear H_so; have H_so := Lib.hid kk; clear kk
          have kk := own_o7 H_lg.out hO9 (by omega); clear H_lg; have H_lg := Lib.hid kk; clear kk
          have kk := (fun (x : Rw) (hx : x ∈ R) => oi_draw (H_rk.out x hx) hO9 (by omega)); clear H_rk; have H_rk := Lib.hid kk; clear kk
          have kk := has_onl H_zr.out hO9 (by omega); clear H_zr; have H_zr := Lib.hid kk; clear kk
          have kk := has_onl H_zt.out hO9 (by omega); clear H_zt; have H_zt := Lib.hid kk; clear kk
          have kk := hC9; clear H_cur; have H_cur := Lib.hid kk; clear kk
          have kk := only_trans H_only.out hO9; clear H_only; have H_only := Lib.hid kk; clear kk
          have hmw14 := hO9.size
          clear hC9 hO9
          have hzw14 := H_only.out.size
          go_wp2_with fail
          refine (below_any _ B g 60 (by omega) (by omega) H_cur.out).mono ?_
          rintro e w15 ⟨en, hen0, hen1, rfl, hC9, hO9⟩
          have kk := own_o7 H_so.out hO9 (by omega); clear H_so; have H_so := Lib.hid kk; clear kk
          have kk := own_o7 H_lg.out hO9 (by omega); clear H_lg; have H_lg := Lib.hid kk; clear kk
          have kk := (fun (x : Rw) (hx : x ∈ R) => oi_draw (H_rk.out x hx) hO9 (by omega)); clear H_rk; have H_rk := Lib.hid kk; clear kk
          have kk := has_onl H_zr.out hO9 (by omega); clear H_zr; have H_zr := Lib.hid kk; clear kk
          have kk := has_onl H_zt.out hO9 (by omega); clear H_zt; have H_zt := Lib.hid kk; clear kk
          have kk := hC9; clear H_cur; have H_cur := Lib.hid kk; clear kk
          have kk := only_trans H_only.out hO9; clear H_only; have H_only := Lib.hid kk; clear kk
          have hmw15 := hO9.size
          clear hC9 hO9
          have hzw15 := H_only.out.size
          go_wp2_with fail
          refine (below_any _ B g 4 (by omega) (by omega) H_cur.out).mono ?_
          rintro e w16 ⟨wk, hwk0, hwk1, rfl, hC9, hO9⟩
          have kk := own_o7 H_so.out hO9 (by omega); clear H_so; have H_so := Lib.hid kk; clear kk
          have kk := own_o7 H_lg.out hO9 (by omega); clear H_lg; have H_lg := Lib.hid kk; clear kk
          have kk := (fun (x : Rw) (hx : x ∈ R) => oi_draw (H_rk.out x hx) hO9 (by omega)); clear H_rk; have H_rk := Lib.hid kk; clear kk
          have kk := has_onl H_zr.out hO9 (by omega); clear H_zr; have H_zr := Lib.hid kk; clear kk
          have kk := has_onl H_zt.out hO9 (by omega); clear H_zt; have H_zt := Lib.hid kk; clear kk
          have kk := hC9; clear H_cur; have H_cur := Lib.hid kk; clear kk
          have kk := only_trans H_only.out hO9; clear H_only; have H_only := Lib.hid kk; clear kk
          have hmw16 := hO9.size
          clear hC9 hO9
          have hzw16 := H_only.out.size
          go_wp2_with fail
          refine (below_any _ B g 6 (by omega) (by omega) H_cur.out).mono ?_
          rintro e w17 ⟨br, hbr0, hbr1, rfl, hC9, hO9⟩
          have kk := own_o7 H_so.out hO9 (by omega); clear H_so; have H_so := Lib.hid kk; clear kk
          have kk := own_o7 H_lg.out hO9 (by omega); clear H_lg; have H_lg := Lib.hid kk; clear kk
          have kk := (fun (x : Rw) (hx : x ∈ R) => oi_draw (H_rk.out x hx) hO9 (by omega)); clear H_rk; have H_rk := Lib.hid kk; clear kk
          have kk := has_onl H_zr.out hO9 (by omega); clear H_zr; have H_zr := Lib.hid kk; clear kk
          have kk := has_onl H_zt.out hO9 (by omega); clear H_zt; have H_zt := Lib.hid kk; clear kk
          have kk := hC9; clear H_cur; have H_cur := Lib.hid kk; clear kk
          have kk := only_trans H_only.out hO9; clear H_only; have H_only := Lib.hid kk; clear kk
          have hmw17 := hO9.size
          clear hC9 hO9
          have hzw17 := H_only.out.size
          go_wp2_with fail
          refine (below_any _ B g 6 (by omega) (by omega) H_cur.out).mono ?_
          rintro e w18 ⟨fe, hfe0, hfe1, rfl, hC9, hO9⟩
          have kk := own_o7 H_so.out hO9 (by omega); clear H_so; have H_so := Lib.hid kk; clear kk
          have kk := own_o7 H_lg.out hO9 (by omega); clear H_lg; have H_lg := Lib.hid kk; clear kk
          have kk := (fun (x : Rw) (hx : x ∈ R) => oi_draw (H_rk.out x hx) hO9 (by omega)); clear H_rk; have H_rk := Lib.hid kk; clear kk
          have kk := has_onl H_zr.out hO9 (by omega); clear H_zr; have H_zr := Lib.hid kk; clear kk
          have kk := has_onl H_zt.out hO9 (by omega); clear H_zt; have H_zt := Lib.hid kk; clear kk
          have kk := hC9; clear H_cur; have H_cur := Lib.hid kk; clear kk
          have kk := only_trans H_only.out hO9; clear H_only; have H_only := Lib.hid kk; clear kk
          have hmw18 := hO9.size
          clear hC9 hO9
          have hzw18 := H_only.out.size
          go_upto_region 26 with fail
          have hbox := H_zt.out
          clear hbox
          generalize hX : (w18.alloc (.cells #[.int .i64 st, .int .i64 (st + 10 + en), .int .i64 wk, .int .i64 br, .int .i64 fe] 50)) = w19
          have hb : Below w18.heap.size w18 w19 := by rw [← hX]; exact balloc _ _
          have hk : Has w19 w18.heap.size 50 #[.int .i64 st, .int .i64 (st + 10 + en), .int .i64 wk, .int .i64 br, .int .i64 fe] := by rw [← hX]; exact has_new _ _ _
          clear hX
          have kk := own_call H_so.out hb; clear H_so; have H_so := Lib.hid kk; clear kk
          have kk := own_call H_lg.out hb; clear H_lg; have H_lg := Lib.hid kk; clear kk
          have kk := (fun (x : Rw) (hx : x ∈ R) => (H_rk.out x hx).call hb); clear H_rk; have H_rk := Lib.hid kk; clear kk
          have kk := has_call H_zr.out hb; clear H_zr; have H_zr := Lib.hid kk; clear kk
          have kk := has_call H_zt.out hb; clear H_zt; have H_zt := Lib.hid kk; clear kk
          have kk := cur_bel H_cur.out hb; clear H_cur; have H_cur := Lib.hid kk; clear kk
          have kk := only_trans H_only.out (only_bel hb); clear H_only; have H_only := Lib.hid kk; clear kk
          have hmw19 := hb.size
          clear hb
          have hzw19 := H_only.out.size
          have H_zs := Lib.hid hk; have hl_zs := has_lt hk; clear hk
          have ztc3 := has_cell H_zt.out 3 rfl; have ztf3 := has_free H_zt.out 3; have hlz := has_lt H_zt.out
          have zsc0 := has_cell H_zs.out 0 rfl; have zsc1 := has_cell H_zs.out 1 rfl; have zsc2 := has_cell H_zs.out 2 rfl; have zsc3 := has_cell H_zs.out 3 rfl; have zsc4 := has_cell H_zs.out 4 rfl
          clear H_zs
          go_wp2_with (at_builtin; go_must (refine list_app rfl _ _ 25 rfl (w.heap.size) 50 i0_s (.agg #[.int .i64 0, .int .i64 0, .int .i64 0, .int .i64 0, .int .i64 0]) 5 40 Try.underlying25 hi_s.out hz0_s.out hz1_s.out hz2_s.out rfl (by decide) _ j _ rfl (H_so.out.alloc _) (some ⟨w19.heap.size, 0, none⟩) 1 1 (spC ⟨st, st + 10 + en, wk, br, fe⟩) rfl (src_sp (has_new _ _ _)) (by unfold maxLen; omega) (by omega) (by simp; omega) ?_))
          intro aA ac w20 hown3 hgrow3 hrow3
          have kk := H_lg.out.alloc (.cells #[.int .i64 st, .int .i64 (st + 10 + en), .int .i64 wk, .int .i64 br, .int .i64 fe] 50); clear H_lg; have H_lg := Lib.hid kk; clear kk
          have kk := (fun (x : Rw) (hx : x ∈ R) => (H_rk.out x hx).call (balloc _ (.cells #[.int .i64 st, .int .i64 (st + 10 + en), .int .i64 wk, .int .i64 br, .int .i64 fe] 50))); clear H_rk; have H_rk := Lib.hid kk; clear kk
          have kk := has_alloc H_zr.out (.cells #[.int .i64 st, .int .i64 (st + 10 + en), .int .i64 wk, .int .i64 br, .int .i64 fe] 50); clear H_zr; have H_zr := Lib.hid kk; clear kk
          have kk := has_alloc H_zt.out (.cells #[.int .i64 st, .int .i64 (st + 10 + en), .int .i64 wk, .int .i64 br, .int .i64 fe] 50); clear H_zt; have H_zt := Lib.hid kk; clear kk
          have kk := H_cur.out.alloc (by omega) (.cells #[.int .i64 st, .int .i64 (st + 10 + en), .int .i64 wk, .int .i64 br, .int .i64 fe] 50); clear H_cur; have H_cur := Lib.hid kk; clear kk
          have kk := only_trans H_only.out (only_alloc _ (.cells #[.int .i64 st, .int .i64 (st + 10 + en), .int .i64 wk, .int .i64 br, .int .i64 fe] 50)); clear H_only; have H_only := Lib.hid kk; clear kk
          clear ztc3 ztf3 hlz zsc0 zsc1 zsc2 zsc3 zsc4
          have kk := own_gt H_lg.out hgrow3 (fun b7 hb7 => (hrow3 b7 hb7).2) (by decide); clear H_lg; have H_lg := Lib.hid kk; clear kk
          have kk := (fun (x : Rw) (hx : x ∈ R) => oi_grow (H_rk.out x hx) hgrow3 (fun b7 hb7 => .inr ⟨_, (hrow3 b7 hb7).2.choose, (hrow3 b7 hb7).2.choose_spec, by decide⟩)); clear H_rk; have H_rk := Lib.hid kk; clear kk
          have kk := has_gt H_zr.out hgrow3 (fun b7 hb7 => (hrow3 b7 hb7).2) (by decide); clear H_zr; have H_zr := Lib.hid kk; clear kk
          have kk := has_gt H_zt.out hgrow3 (fun b7 hb7 => (hrow3 b7 hb7).2) (by decide); clear H_zt; have H_zt := Lib.hid kk; clear kk
          have kk := cur_grow H_cur.out hgrow3 (fun b7 hb7 => by have h7 := (hrow3 b7 hb7).1; omega); clear H_cur; have H_cur := Lib.hid kk; clear kk
          have kk := only_grow H_only.out hgrow3 (fun b7 hb7 => by have h7 := (hrow3 b7 hb7).1; omega); clear H_only; have H_only := Lib.hid kk; clear kk
          have hmw20 : w19.heap.size ≤ w20.heap.size := Nat.le_trans (Nat.le_succ _) (by simpa using hgrow3.size)
          have hzw20 := H_only.out.size
          clear H_so hgrow3 hrow3
          have H_so := Lib.hid (show w20.ownsRow w.heap.size 50 5 (.slice aA (j + 1) ac) (j + 1) (spV (S ++ [⟨st, st + 10 + en, wk, br, fe⟩])) from by rw [spV_app]; exact hown3)
          clear hown3
          have ztc3 := has_cell H_zt.out 3 rfl; have ztf3 := has_free H_zt.out 3; have hlz := has_lt H_zt.out
          go_wp2_with fail
          clear ztc3 ztf3 hlz
          go_roundw
          case rel =>
            generalize hX : World.setCell _ _ _ = w21
            have ho : Only w20 Z w21 := by rw [← hX]; exact only_set (only_refl _ _) _ _
            have hnew : Has w21 Z 27 #[.int .i64 b, .int .i64 r, .slice AL i cL, .slice aA (j + 1) ac] := by rw [← hX]; simpa using has_set H_zt.out 3 (.slice aA (j + 1) ac)
            clear hX
            have hZ7 := H_zt.out
            have kk := own_kt H_lg.out hZ7 (by decide) ho; clear H_lg; have H_lg := Lib.hid kk; clear kk
            have kk := (fun (x : Rw) (hx : x ∈ R) => oi_set (H_rk.out x hx) hZ7 (by decide) ho); clear H_rk; have H_rk := Lib.hid kk; clear kk
            have kk := has_onl H_zr.out ho (by omega); clear H_zr; have H_zr := Lib.hid kk; clear kk
            have kk := cur_set H_cur.out ho (by omega) (by omega); clear H_cur; have H_cur := Lib.hid kk; clear kk
            have kk := only_set7 H_only.out ho (by omega); clear H_only; have H_only := Lib.hid kk; clear kk
            have kk := own_kt H_so.out hZ7 (by decide) ho; clear H_so; have H_so := Lib.hid kk; clear kk
            have kk := hnew; clear H_zt; have H_zt := Lib.hid kk; clear kk
            clear hZ7
            have hmw21 := ho.size
            have hzw21 := H_only.out.size
            exact ⟨j + 1, S ++ [⟨st, st + 10 + en, wk, br, fe⟩], aA, ac, by omega, by go_num, by simp [HSL.out], (fun q hq => by
              rcases List.mem_append.1 hq with hq | hq
              · exact HST.out q hq
              · simp at hq; subst hq; exact (stopB_iff _).2 (by dsimp only; omega)), H_so.out, H_lg.out, (fun x hx => oi_wider (H_rk.out x hx) (Nat.le_refl _) (by omega)), H_zr.out, H_zt.out, H_cur.out, H_only.out⟩
          case measure => simp [intOf]; omega
        have hjn := Lib.hid (show j = n by omega)
        have HRD := Lib.hid (show RoundT b r (gOf R) S from ⟨by omega, by omega, by omega, by omega, by rw [HSL.out, hjn.out]; omega, HST.out, by rw [gOf_len, HRL.out, hin.out, HSL.out, hjn.out], fun l hl => by rw [(HGO.out l hl).1, HSL.out, hjn.out], fun l hl => (HGO.out l hl).2⟩)
        have hS4 := Lib.hid (show S.length ≤ 4 by rw [HSL.out, hjn.out]; omega)
        have ztc0 := has_cell H_zt.out 0 rfl; have ztc1 := has_cell H_zt.out 1 rfl; have ztc2 := has_cell H_zt.out 2 rfl; have ztc3 := has_cell H_zt.out 3 rfl
        have zrc0 := has_cell H_zr.out 0 rfl; have zrc1 := has_cell H_zr.out 1 rfl; have zrc2 := has_cell H_zr.out 2 rfl; have zrc3 := has_cell H_zr.out 3 rfl; have zrf0 := has_free H_zr.out 0; have zrf1 := has_free H_zr.out 1; have zrf2 := has_free H_zr.out 2; have zrf3 := has_free H_zr.out 3; have zrl := has_lt H_zr.out
        go_wp2_with fail
        refine bodyPost_ret (v := .agg #[.int .i64 b, .int .i64 r, .slice AL i cL, .slice AS j cS]) (by simp [results, Try.results15, go_sem, ztc0, ztc1, ztc2, ztc3, zrc0, zrc1, zrc2, zrc3, zrf0, zrf1, zrf2, zrf3, zrl]) rfl ?_
        generalize hX : World.setCell _ _ _ = w9
        have ho : Only wr w.heap.size w9 := by rw [← hX]; with_reducible exact only_set4 _ _ _ _ _ _
        clear hX
        have hs9 := ho.size
        refine ⟨b, r, AL, AS, cL, cS, R, S, by rw [HRL.out, HSL.out], HRD.out, hS4.out, by rw [HRL.out]; exact own_kt H_lg.out H_zr.out (by decide) ho, by rw [HSL.out]; exact own_kt H_so.out H_zr.out (by decide) ho, (fun x hx => oi_wider (oi_set (H_rk.out x hx) H_zr.out (by decide) ho) (Nat.le_refl _) hs9), cur_set H_cur.out ho (by omega) (by omega), only_set7 H_only.out ho (Nat.le_refl _)⟩
end Go.Proofs.Ytfimdhbcifjioaa
