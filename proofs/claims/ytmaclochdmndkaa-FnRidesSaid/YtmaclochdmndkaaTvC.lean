/- Chapter 7: the drawing of a round that may be anything (gen_tvc.py). -/
import Derived.Test.YtmaclochdmndkaaTvB
import Derived.Test.YtmaclochdmndkaaAny
import Derived.Deep.DeepCutAuto
import Derived.RegionTactic
import Derived.OwnWalk
import Derived.Deep.AppendLies
import Derived.Laws.OwnMore
import Derived.Deep.RegionWith
import Derived.Deep.RegionHeld3
import Derived.Deep.DeepMust
import Derived.WalkLawsBesides
namespace Go.Proofs.Ytmaclochdmndkaa
open Go.RowKit
set_option linter.unusedVariables false

theorem oi_store {w : World} {lo hi : Nat} {A : Option Addr} {l : List Int} (h : OI w lo hi 3 A (intV l)) (g j : Nat) (v : Int) : ∃ l' : List Int, l'.length = l.length ∧ OI (w.setCell ⟨g, j, none⟩ (.int .i64 v)) lo hi 3 A (intV l') := by
  rcases h with h | ⟨b, cur, h1, h2, h3, h4, h5⟩
  · exact ⟨l, rfl, .inl h⟩
  · by_cases e : b = g
    · subst e
      refine ⟨if j < l.length then l.set j v else l, by split <;> simp, .inr ⟨b, _, h1, h2, h3, has_set h4 j _, fun i u hu => ?_⟩⟩
      rw [Array.getElem?_setIfInBounds]
      by_cases hj : j < l.length
      · rw [if_pos hj] at hu
        have hc : j < cur.size := (Array.getElem?_eq_some_iff.1 (h5 j _ (intV_at (List.getElem?_eq_getElem hj)))).1
        by_cases e2 : j = i
        · subst e2
          rw [if_pos rfl, if_pos hc]
          rw [intV_at (List.getElem?_set_self hj)] at hu
          exact hu
        · rw [if_neg e2]
          refine h5 i u ?_
          rw [← intV_set, List.getElem?_set_ne e2] at hu
          exact hu
      · rw [if_neg hj] at hu
        have hi : i < l.length := by have := (List.getElem?_eq_some_iff.1 hu).1; rwa [intV_len] at this
        rw [if_neg (by omega)]
        exact h5 i u hu
    · exact ⟨l, rfl, .inr ⟨b, cur, h1, h2, h3, has_far h4 e _, h5⟩⟩
theorem rows_store {w : World} {lo hi : Nat} (g j : Nat) (v : Int) : ∀ {R : List Rw}, (∀ x ∈ R, OI w lo hi 3 x.A (intV x.l)) → ∃ R' : List Rw, rwV R' = rwV R ∧ R'.length = R.length ∧ ∀ x ∈ R', OI (w.setCell ⟨g, j, none⟩ (.int .i64 v)) lo hi 3 x.A (intV x.l)
  | [], _ => ⟨[], rfl, rfl, fun x hx => by cases hx⟩
  | a :: R, h => by
    obtain ⟨R', h1, h2, h3⟩ := rows_store g j v (R := R) (fun x hx => h x (List.mem_cons_of_mem _ hx))
    obtain ⟨l', hl, ho⟩ := oi_store (h a List.mem_cons_self) g j v
    refine ⟨⟨a.A, a.c, l'⟩ :: R', ?_, by simp [h2], fun x hx => ?_⟩
    · simp only [rwV, List.map_cons] at h1 ⊢
      rw [h1, hl]
    · rcases List.mem_cons.1 hx with hx | hx
      · subst hx; exact ho
      · exact h3 x hx
theorem own_lo {w : World} {base lo : Nat} {e : TypeId} {size n : Nat} {v : Value} {xs : List Value} (h : w.ownsRow base e size v n xs) (hl : lo ≤ base) : w.ownsRow lo e size v n xs := by
  refine ⟨h.1, ?_⟩
  rcases h.2 with h1 | ⟨g, cap, cur, h1, h2, h3⟩
  · exact .inl h1
  · exact .inr ⟨g, cap, cur, h1, by omega, h3⟩
theorem sp_first {S : List Sp} {s : Sp} (h : S[0]? = some s) : (spV S)[0]? = some (.int .i64 s.start) ∧ (spV S)[1]? = some (.int .i64 s.stop) := by
  have := spV_at h
  simp only [Nat.zero_mul, Nat.zero_add] at this
  exact ⟨this.1, this.2.1⟩
theorem sp_set1 : ∀ (S : List Sp) (y : Int), ∃ S2, (spV S).set 1 (.int .i64 y) = spV S2 ∧ S2.length = S.length
  | [], y => ⟨[], by simp [spV], rfl⟩
  | a :: S, y => ⟨⟨a.start, y, a.work, a.bring, a.fetch⟩ :: S, rfl, rfl⟩
theorem rw_small {R R' : List Rw} {n : Nat} (h : rwV R' = rwV R) (hl : R'.length = R.length) (hx : ∀ x ∈ R, x.l.length = n) : ∀ q ∈ R', q.l.length = n := fun q hq => by
  obtain ⟨j, hj⟩ := List.getElem?_of_mem hq
  have h1 : (rwV R')[j]? = some (.slice q.A q.l.length q.c) := by simp [rwV, hj]
  rw [h] at h1
  have hjl : j < R.length := by have := (List.getElem?_eq_some_iff.1 hj).1; omega
  have h2 : (rwV R)[j]? = some (.slice (R[j]).A (R[j]).l.length (R[j]).c) := by simp [rwV, List.getElem?_eq_getElem hjl]
  rw [h2] at h1
  injection h1 with h1; injection h1 with _ h1 _
  rw [← h1]; exact hx _ (List.getElem_mem hjl)
/-- a round's lists in blocks that were laid since -/
structure AnyF (W : World) (lo : Nat) (AL : Option Addr) (R : List Rw) (AS : Option Addr) (S : List Sp) : Prop where
  rows : R = [] ∨ ∃ (g off : Nat) (cs : Array Value), AL = some ⟨g, off, none⟩ ∧ lo ≤ g ∧ Has W g 28 cs ∧ ∀ (j : Nat) (x : Rw), R[j]? = some x → cs[off + j]? = some (.slice x.A x.l.length x.c)
  vals : ∀ x ∈ R, OI W lo W.heap.size 3 x.A (intV x.l)
  stops : OR W lo 39 AS (spV S)
  lr : R.length ≤ 5
  ls : S.length ≤ 4
  lx : ∀ x ∈ R, x.l.length ≤ 5
theorem AnyF.set {W W' : World} {lo z : Nat} {AL AS : Option Addr} {R : List Rw} {S : List Sp} {cs : Array Value} (h : AnyF W lo AL R AS S) (hz : Has W z 27 cs) (ho : Only W z W') : AnyF W' lo AL R AS S := by
  refine ⟨?_, fun x hx => oi_wider (oi_set (h.vals x hx) hz (by decide) ho) (Nat.le_refl _) ho.size, ?_, h.lr, h.ls, h.lx⟩
  · rcases h.rows with h1 | ⟨g, off, cs, h1, h2, h3, h4⟩
    · exact .inl h1
    · exact .inr ⟨g, off, cs, h1, h2, has_onl h3 ho (has_ne h3 hz (by decide)), h4⟩
  · rcases h.stops with h1 | ⟨g, cur, h1, h2, h3, h4⟩
    · exact .inl h1
    · exact .inr ⟨g, cur, h1, h2, has_onl h3 ho (has_ne h3 hz (by decide)), h4⟩
theorem AnyF.in_ {W : World} {lo : Nat} {AL AS : Option Addr} {R : List Rw} {S : List Sp} (h : AnyF W lo AL R AS S) : RdIn W W.heap.size AL R AS S := by
  have h1 := h.lr; have h2 := h.ls
  refine ⟨?_, fun x hx => ⟨(h.vals x hx).il, by have := h.lx x hx; unfold maxLen; omega⟩, h.stops.sp, by unfold maxLen; omega, by unfold maxLen; omega⟩
  rcases h.rows with h3 | ⟨g, off, cs, rfl, _, h4, h5⟩
  · exact .inl h3
  · exact .inr ⟨g, off, rfl, has_lt h4, fun k x hx => has_cell h4 _ (h5 k x hx)⟩
theorem rwV_at {R : List Rw} {j : Nat} {x : Rw} (h : R[j]? = some x) : (rwV R)[j]? = some (.slice x.A x.l.length x.c) := by simp [rwV, h]
theorem anyF_of {W : World} {lo cL cS : Nat} {AL AS : Option Addr} {R : List Rw} {S : List Sp} (h1 : W.ownsRow lo 28 1 (.slice AL R.length cL) R.length (rwV R)) (h2 : W.ownsRow lo 39 5 (.slice AS S.length cS) S.length (spV S)) (h3 : ∀ x ∈ R, OI W lo W.heap.size 3 x.A (intV x.l)) (h4 : R.length ≤ 5) (h5 : S.length ≤ 4) (h6 : ∀ x ∈ R, x.l.length ≤ 5) : AnyF W lo AL R AS S := by
  refine ⟨?_, h3, or_own' h2, h4, h5, h6⟩
  rcases or_own' h1 with h | ⟨g, cur, ha, hb, hc, hd⟩
  · exact .inl (by simpa [rwV] using h)
  · exact .inr ⟨g, 0, cur, ha, hb, hc, fun j x hx => by rw [Nat.zero_add]; exact hd _ _ (rwV_at hx)⟩
theorem anyF_drop {W : World} {lo cL cS g : Nat} {AS : Option Addr} {R : List Rw} {S : List Sp} (h1 : W.ownsRow lo 28 1 (.slice (some ⟨g, 0, none⟩) R.length cL) R.length (rwV R)) (h2 : W.ownsRow lo 39 5 (.slice AS S.length cS) S.length (spV S)) (h3 : ∀ x ∈ R, OI W lo W.heap.size 3 x.A (intV x.l)) (h4 : R.length ≤ 5) (h5 : S.length ≤ 4) (h6 : ∀ x ∈ R, x.l.length ≤ 5) : AnyF W lo (some ⟨g, 1, none⟩) (R.drop 1) AS S := by
  refine ⟨?_, fun x hx => h3 x (List.mem_of_mem_drop hx), or_own' h2, by rw [List.length_drop]; omega, h5, fun x hx => h6 x (List.mem_of_mem_drop hx)⟩
  rcases or_own' h1 with h | ⟨g', cur, ha, hb, hc, hd⟩
  · refine .inl ?_
    have : R = [] := by simpa [rwV] using h
    rw [this]; rfl
  · injection ha with ha; injection ha with ha
    subst ha
    refine .inr ⟨g, 1, cur, rfl, hb, hc, fun j x hx => ?_⟩
    rw [List.getElem?_drop] at hx
    exact hd _ _ (rwV_at hx)
theorem anyF_nil {W : World} {lo cS : Nat} {AL AS : Option Addr} {S : List Sp} (h2 : W.ownsRow lo 39 5 (.slice AS S.length cS) S.length (spV S)) (h5 : S.length ≤ 4) : AnyF W lo AL [] AS S :=
  ⟨.inl rfl, (fun x hx => by cases hx), or_own' h2, by simp, h5, (fun x hx => by cases hx)⟩
/-- a round that may be anything -/
def DrawnA (w : World) (B g : Nat) (e : Ending) (w' : World) : Prop := ∃ (b r : Int) (AL AS : Option Addr) (cL cS : Nat) (R : List Rw) (S : List Sp), e = .returned (.agg #[.int .i64 b, .int .i64 r, .slice AL R.length cL, .slice AS S.length cS]) ∧ AnyF w' (w.heap.size + 1) AL R AS S ∧ (Lit.int .i64 b).wf = true ∧ Cur w' B g ∧ Only w g w'
theorem ret_rd {b r : Int} {AL AS : Option Addr} {cL cS n m n' m' : Nat} (h1 : n = n') (h2 : m = m') : Ending.returned (.agg #[.int .i64 b, .int .i64 r, .slice AL n cL, .slice AS m cS]) = .returned (.agg #[.int .i64 b, .int .i64 r, .slice AL n' cL, .slice AS m' cS]) := by rw [h1, h2]
set_option maxRecDepth 100000 in
set_option maxHeartbeats 8000000 in
theorem anyD_any (w : World) (B g : Nat) (hC : Cur w B g) : Calls Try.prog 26 #[.pointer (some ⟨g, 0, none⟩)] w (DrawnA w B g) := by
  have hlt := hC.lt; obtain ⟨hB, hg⟩ := hlt
  have H_cur := Lib.hid (hC)
  clear hC
  have H_only := Lib.hid (only_refl w g)
  have hzw := H_only.out.size
  go_enter Try.func26, Try.ntmps26
  go_wp2_with fail
  generalize hX : (w.alloc (.cells #[.int .i64 0, .int .i64 0, .slice none 0 0, .slice none 0 0] 27)) = w1
  have hb : Below w.heap.size w w1 := by rw [← hX]; exact balloc _ _
  have hk : Has w1 w.heap.size 27 #[.int .i64 0, .int .i64 0, .slice none 0 0, .slice none 0 0] := by rw [← hX]; exact has_new _ _ _
  clear hX
  have kk := cur_bel H_cur.out hb; clear H_cur; have H_cur := Lib.hid kk; clear kk
  have kk := only_trans H_only.out (only_bel hb); clear H_only; have H_only := Lib.hid kk; clear kk
  have hmw1 := hb.size
  clear hb
  have hzw1 := H_only.out.size
  have H_zr := Lib.hid hk; have hl_zr := has_lt hk; clear hk
  skip
  refine (roundD_any w1 B g H_cur.out).mono ?_
  rintro e w2 ⟨b, r, AL, AS, cL, cS, R, S, rfl, hT, hS4, hlg, hso, hrk, hC9, hO9⟩
  have kk := hC9; clear H_cur; have H_cur := Lib.hid kk; clear kk
  have kk := only_trans H_only.out hO9; clear H_only; have H_only := Lib.hid kk; clear kk
  have kk := has_onl H_zr.out hO9 (by omega); clear H_zr; have H_zr := Lib.hid kk; clear kk
  have hmw2 := hO9.size
  clear hC9 hO9
  have hzw2 := H_only.out.size
  have hlw : w.heap.size + 1 ≤ w1.heap.size := hl_zr
  have H_lg := Lib.hid (hlg)
  have H_so := Lib.hid (hso)
  have H_rk := Lib.hid ((fun (x : Rw) (hx : x ∈ R) => oi_wider (hrk x hx) (show w.heap.size + 1 ≤ w1.heap.size from hlw) (Nat.le_refl _)))
  have HSOL := Lib.hid (fun (gs : Nat) (h : AS = some ⟨gs, 0, none⟩) => (show gs < w2.heap.size from (hso.lt gs (by rw [h]; rfl)).2))
  clear hlg hso hrk
  have hRl : R.length = S.length + 1 := by have := hT.len; rwa [gOf_len] at this
  have hR1 : 1 ≤ R.length := by omega
  have hR5 : R.length ≤ 5 := by omega
  have HX5 := Lib.hid (fun (x : Rw) (hx : x ∈ R) => (show x.l.length = S.length + 1 from hT.row _ (List.mem_map_of_mem (f := Rw.l) hx)))
  have HSB := Lib.hid hT.stops
  have hb01 := hT.b0; have hb02 := hT.b1
  have HRL := Lib.hid hRl; clear hT hRl
  obtain ⟨gl, hgl⟩ := own_some H_lg.out (by omega)
  subst hgl
  have hglo := (H_lg.out.lt gl rfl); obtain ⟨hgl0, hgl1⟩ := hglo
  go_wp2_with fail
  generalize hX : (w2.alloc (.cells #[.int .i64 b, .int .i64 r, .slice (some ⟨gl, 0, none⟩) R.length cL, .slice AS S.length cS] 27)) = w3
  have hb : Below w2.heap.size w2 w3 := by rw [← hX]; exact balloc _ _
  have hk : Has w3 w2.heap.size 27 #[.int .i64 b, .int .i64 r, .slice (some ⟨gl, 0, none⟩) R.length cL, .slice AS S.length cS] := by rw [← hX]; exact has_new _ _ _
  clear hX
  have kk := cur_bel H_cur.out hb; clear H_cur; have H_cur := Lib.hid kk; clear kk
  have kk := only_trans H_only.out (only_bel hb); clear H_only; have H_only := Lib.hid kk; clear kk
  have kk := has_call H_zr.out hb; clear H_zr; have H_zr := Lib.hid kk; clear kk
  have kk := own_call H_lg.out hb; clear H_lg; have H_lg := Lib.hid kk; clear kk
  have kk := own_call H_so.out hb; clear H_so; have H_so := Lib.hid kk; clear kk
  have kk := (fun (x : Rw) (hx : x ∈ R) => (H_rk.out x hx).call hb); clear H_rk; have H_rk := Lib.hid kk; clear kk
  have hmw3 := hb.size
  clear hb
  have hzw3 := H_only.out.size
  have H_zt := Lib.hid hk; have hl_zt := has_lt hk; clear hk
  obtain ⟨Z, hZe⟩ : ∃ Z, w2.heap.size = Z := ⟨_, rfl⟩
  rw [hZe] at H_zt hl_zt ⊢
  have hZ : w.heap.size < Z := by omega
  have hZgl : gl < Z := by omega
  have hZ2 : w2.heap.size ≤ Z := by omega
  clear hZe
  have ztc2 := has_cell H_zt.out 2 rfl
  go_wp2_with fail
  clear ztc2
  refine (below_any _ B g (R.length : Int) (by omega) (by omega) H_cur.out).mono ?_
  rintro e w4 ⟨k0, hk00, hk01, rfl, hC9, hO9⟩
  have kk := hC9; clear H_cur; have H_cur := Lib.hid kk; clear kk
  have kk := only_trans H_only.out hO9; clear H_only; have H_only := Lib.hid kk; clear kk
  have kk := has_onl H_zr.out hO9 (by omega); clear H_zr; have H_zr := Lib.hid kk; clear kk
  have kk := own_o7 H_lg.out hO9 (by omega); clear H_lg; have H_lg := Lib.hid kk; clear kk
  have kk := own_o7 H_so.out hO9 (by omega); clear H_so; have H_so := Lib.hid kk; clear kk
  have kk := (fun (x : Rw) (hx : x ∈ R) => oi_draw (H_rk.out x hx) hO9 (by omega)); clear H_rk; have H_rk := Lib.hid kk; clear kk
  have kk := has_onl H_zt.out hO9 (by omega); clear H_zt; have H_zt := Lib.hid kk; clear kk
  have hmw4 := hO9.size
  clear hC9 hO9
  have hzw4 := H_only.out.size
  obtain ⟨k, rfl⟩ := Int.eq_ofNat_of_zero_le hk00
  go_wp2_with fail
  refine (below_any _ B g 16 (by omega) (by omega) H_cur.out).mono ?_
  rintro e w5 ⟨x, hx0, hx1, rfl, hC9, hO9⟩
  have kk := hC9; clear H_cur; have H_cur := Lib.hid kk; clear kk
  have kk := only_trans H_only.out hO9; clear H_only; have H_only := Lib.hid kk; clear kk
  have kk := has_onl H_zr.out hO9 (by omega); clear H_zr; have H_zr := Lib.hid kk; clear kk
  have kk := own_o7 H_lg.out hO9 (by omega); clear H_lg; have H_lg := Lib.hid kk; clear kk
  have kk := own_o7 H_so.out hO9 (by omega); clear H_so; have H_so := Lib.hid kk; clear kk
  have kk := (fun (x : Rw) (hx : x ∈ R) => oi_draw (H_rk.out x hx) hO9 (by omega)); clear H_rk; have H_rk := Lib.hid kk; clear kk
  have kk := has_onl H_zt.out hO9 (by omega); clear H_zt; have H_zt := Lib.hid kk; clear kk
  have hmw5 := hO9.size
  clear hC9 hO9
  have hzw5 := H_only.out.size
  have hcs : x = 0 ∨ x = 1 ∨ x = 2 ∨ x = 3 ∨ x = 4 ∨ 5 ≤ x := by omega
  rcases hcs with rfl | rfl | rfl | rfl | rfl | hcs
  · skip
    go_wp2_with fail
    generalize hX : (w5.alloc (.cells #[.int .i64 (-1), .int .i64 20000, .int .i64 20001] 3)) = w6
    have hb : Below w5.heap.size w5 w6 := by rw [← hX]; exact balloc _ _
    have hk : Has w6 w5.heap.size 3 #[.int .i64 (-1), .int .i64 20000, .int .i64 20001] := by rw [← hX]; exact has_new _ _ _
    clear hX
    have kk := cur_bel H_cur.out hb; clear H_cur; have H_cur := Lib.hid kk; clear kk
    have kk := only_trans H_only.out (only_bel hb); clear H_only; have H_only := Lib.hid kk; clear kk
    have kk := has_call H_zr.out hb; clear H_zr; have H_zr := Lib.hid kk; clear kk
    have kk := own_call H_lg.out hb; clear H_lg; have H_lg := Lib.hid kk; clear kk
    have kk := own_call H_so.out hb; clear H_so; have H_so := Lib.hid kk; clear kk
    have kk := (fun (x : Rw) (hx : x ∈ R) => (H_rk.out x hx).call hb); clear H_rk; have H_rk := Lib.hid kk; clear kk
    have kk := has_call H_zt.out hb; clear H_zt; have H_zt := Lib.hid kk; clear kk
    have hmw6 := hb.size
    clear hb
    have hzw6 := H_only.out.size
    have H_zl := Lib.hid hk; have hl_zl := has_lt hk; clear hk
    have zl9 := H_zl.out
    clear H_zl
    refine (pickInt_any _ B g (w5.heap.size) 3 _ (-1) (20001) H_cur.out zl9 rfl (by omega) (by omega) (by omega) (by intro j hj; rcases j with _ | _ | _ | j; exact ⟨_, by decide, by decide, rfl⟩; exact ⟨_, by decide, by decide, rfl⟩; exact ⟨_, by decide, by decide, rfl⟩; omega)).mono ?_
    rintro e w7 ⟨y, hy0, hy1, rfl, hC9, hO9⟩
    have kk := hC9; clear H_cur; have H_cur := Lib.hid kk; clear kk
    have kk := only_trans H_only.out hO9; clear H_only; have H_only := Lib.hid kk; clear kk
    have kk := has_onl H_zr.out hO9 (by omega); clear H_zr; have H_zr := Lib.hid kk; clear kk
    have kk := own_o7 H_lg.out hO9 (by omega); clear H_lg; have H_lg := Lib.hid kk; clear kk
    have kk := own_o7 H_so.out hO9 (by omega); clear H_so; have H_so := Lib.hid kk; clear kk
    have kk := (fun (x : Rw) (hx : x ∈ R) => oi_draw (H_rk.out x hx) hO9 (by omega)); clear H_rk; have H_rk := Lib.hid kk; clear kk
    have kk := has_onl H_zt.out hO9 (by omega); clear H_zt; have H_zt := Lib.hid kk; clear kk
    have hmw7 := hO9.size
    clear hC9 hO9
    have hzw7 := H_only.out.size
    clear zl9 hl_zl
    have ztq := has_cell H_zt.out 0 rfl; have ztf := has_free H_zt.out 0; have ztl := has_lt H_zt.out
    go_upto_region 15 with fail
    clear ztq ztf ztl
    generalize hX : World.setCell _ _ _ = w8
    have ho : Only w7 Z w8 := by rw [← hX]; exact only_set (only_refl _ _) _ _
    have hnew : Has w8 Z 27 #[.int .i64 y, .int .i64 r, .slice (some ⟨gl, 0, none⟩) R.length cL, .slice AS S.length cS] := by rw [← hX]; simpa using has_set H_zt.out 0 (.int .i64 y)
    clear hX
    have hZ7 := H_zt.out
    have kk := cur_set H_cur.out ho (by omega) (by omega); clear H_cur; have H_cur := Lib.hid kk; clear kk
    have kk := only_set7 H_only.out ho (by omega); clear H_only; have H_only := Lib.hid kk; clear kk
    have kk := has_onl H_zr.out ho (by omega); clear H_zr; have H_zr := Lib.hid kk; clear kk
    have kk := own_kt H_lg.out hZ7 (by decide) ho; clear H_lg; have H_lg := Lib.hid kk; clear kk
    have kk := own_kt H_so.out hZ7 (by decide) ho; clear H_so; have H_so := Lib.hid kk; clear kk
    have kk := (fun (x : Rw) (hx : x ∈ R) => oi_set (H_rk.out x hx) hZ7 (by decide) ho); clear H_rk; have H_rk := Lib.hid kk; clear kk
    have kk := hnew; clear H_zt; have H_zt := Lib.hid kk; clear kk
    clear hZ7
    have hmw8 := ho.size
    have hzw8 := H_only.out.size
    clear hnew ho
    have ztc0 := has_cell H_zt.out 0 rfl; have ztc1 := has_cell H_zt.out 1 rfl; have ztc2 := has_cell H_zt.out 2 rfl; have ztc3 := has_cell H_zt.out 3 rfl
    have zrc0 := has_cell H_zr.out 0 rfl; have zrc1 := has_cell H_zr.out 1 rfl; have zrc2 := has_cell H_zr.out 2 rfl; have zrc3 := has_cell H_zr.out 3 rfl; have zrf0 := has_free H_zr.out 0; have zrf1 := has_free H_zr.out 1; have zrf2 := has_free H_zr.out 2; have zrf3 := has_free H_zr.out 3; have zrl := has_lt H_zr.out
    have HAF := Lib.hid (anyF_of (own_lo H_lg.out hlw) (own_lo H_so.out hlw) (fun x hx => oi_wider (H_rk.out x hx) (Nat.le_refl _) (by omega)) hR5 hS4 (fun (x : Rw) (hx : x ∈ R) => (show x.l.length ≤ 5 by rw [HX5.out x hx]; omega)))
    go_wp2_with fail
    refine bodyPost_ret (v := .agg #[.int .i64 y, .int .i64 r, .slice (some ⟨gl, 0, none⟩) R.length cL, .slice AS S.length cS]) (by simp [results, Try.results26, go_sem, ztc0, ztc1, ztc2, ztc3, zrc0, zrc1, zrc2, zrc3, zrf0, zrf1, zrf2, zrf3, zrl]) rfl ?_
    generalize hX : World.setCell _ _ _ = w99
    have ho : Only w8 w.heap.size w99 := by rw [← hX]; with_reducible exact only_set4 _ _ _ _ _ _
    clear hX
    exact ⟨y, r, (some ⟨gl, 0, none⟩), AS, cL, cS, R, S, ret_rd rfl rfl, HAF.out.set H_zr.out ho, WalkArith.wf_i64 (by omega), cur_set H_cur.out ho (by omega) (by omega), only_set7 H_only.out ho (Nat.le_refl _)⟩
  · skip
    go_wp2_with fail
    generalize hX : (w5.alloc (.cells #[.int .i64 (-1), .int .i64 0, .int .i64 1001] 3)) = w6
    have hb : Below w5.heap.size w5 w6 := by rw [← hX]; exact balloc _ _
    have hk : Has w6 w5.heap.size 3 #[.int .i64 (-1), .int .i64 0, .int .i64 1001] := by rw [← hX]; exact has_new _ _ _
    clear hX
    have kk := cur_bel H_cur.out hb; clear H_cur; have H_cur := Lib.hid kk; clear kk
    have kk := only_trans H_only.out (only_bel hb); clear H_only; have H_only := Lib.hid kk; clear kk
    have kk := has_call H_zr.out hb; clear H_zr; have H_zr := Lib.hid kk; clear kk
    have kk := own_call H_lg.out hb; clear H_lg; have H_lg := Lib.hid kk; clear kk
    have kk := own_call H_so.out hb; clear H_so; have H_so := Lib.hid kk; clear kk
    have kk := (fun (x : Rw) (hx : x ∈ R) => (H_rk.out x hx).call hb); clear H_rk; have H_rk := Lib.hid kk; clear kk
    have kk := has_call H_zt.out hb; clear H_zt; have H_zt := Lib.hid kk; clear kk
    have hmw6 := hb.size
    clear hb
    have hzw6 := H_only.out.size
    have H_zl := Lib.hid hk; have hl_zl := has_lt hk; clear hk
    have zl9 := H_zl.out
    clear H_zl
    refine (pickInt_any _ B g (w5.heap.size) 3 _ (-1) (1001) H_cur.out zl9 rfl (by omega) (by omega) (by omega) (by intro j hj; rcases j with _ | _ | _ | j; exact ⟨_, by decide, by decide, rfl⟩; exact ⟨_, by decide, by decide, rfl⟩; exact ⟨_, by decide, by decide, rfl⟩; omega)).mono ?_
    rintro e w7 ⟨y, hy0, hy1, rfl, hC9, hO9⟩
    have kk := hC9; clear H_cur; have H_cur := Lib.hid kk; clear kk
    have kk := only_trans H_only.out hO9; clear H_only; have H_only := Lib.hid kk; clear kk
    have kk := has_onl H_zr.out hO9 (by omega); clear H_zr; have H_zr := Lib.hid kk; clear kk
    have kk := own_o7 H_lg.out hO9 (by omega); clear H_lg; have H_lg := Lib.hid kk; clear kk
    have kk := own_o7 H_so.out hO9 (by omega); clear H_so; have H_so := Lib.hid kk; clear kk
    have kk := (fun (x : Rw) (hx : x ∈ R) => oi_draw (H_rk.out x hx) hO9 (by omega)); clear H_rk; have H_rk := Lib.hid kk; clear kk
    have kk := has_onl H_zt.out hO9 (by omega); clear H_zt; have H_zt := Lib.hid kk; clear kk
    have hmw7 := hO9.size
    clear hC9 hO9
    have hzw7 := H_only.out.size
    clear zl9 hl_zl
    have ztq := has_cell H_zt.out 1 rfl; have ztf := has_free H_zt.out 1; have ztl := has_lt H_zt.out
    go_upto_region 15 with fail
    clear ztq ztf ztl
    generalize hX : World.setCell _ _ _ = w8
    have ho : Only w7 Z w8 := by rw [← hX]; exact only_set (only_refl _ _) _ _
    have hnew : Has w8 Z 27 #[.int .i64 b, .int .i64 y, .slice (some ⟨gl, 0, none⟩) R.length cL, .slice AS S.length cS] := by rw [← hX]; simpa using has_set H_zt.out 1 (.int .i64 y)
    clear hX
    have hZ7 := H_zt.out
    have kk := cur_set H_cur.out ho (by omega) (by omega); clear H_cur; have H_cur := Lib.hid kk; clear kk
    have kk := only_set7 H_only.out ho (by omega); clear H_only; have H_only := Lib.hid kk; clear kk
    have kk := has_onl H_zr.out ho (by omega); clear H_zr; have H_zr := Lib.hid kk; clear kk
    have kk := own_kt H_lg.out hZ7 (by decide) ho; clear H_lg; have H_lg := Lib.hid kk; clear kk
    have kk := own_kt H_so.out hZ7 (by decide) ho; clear H_so; have H_so := Lib.hid kk; clear kk
    have kk := (fun (x : Rw) (hx : x ∈ R) => oi_set (H_rk.out x hx) hZ7 (by decide) ho); clear H_rk; have H_rk := Lib.hid kk; clear kk
    have kk := hnew; clear H_zt; have H_zt := Lib.hid kk; clear kk
    clear hZ7
    have hmw8 := ho.size
    have hzw8 := H_only.out.size
    clear hnew ho
    have ztc0 := has_cell H_zt.out 0 rfl; have ztc1 := has_cell H_zt.out 1 rfl; have ztc2 := has_cell H_zt.out 2 rfl; have ztc3 := has_cell H_zt.out 3 rfl
    have zrc0 := has_cell H_zr.out 0 rfl; have zrc1 := has_cell H_zr.out 1 rfl; have zrc2 := has_cell H_zr.out 2 rfl; have zrc3 := has_cell H_zr.out 3 rfl; have zrf0 := has_free H_zr.out 0; have zrf1 := has_free H_zr.out 1; have zrf2 := has_free H_zr.out 2; have zrf3 := has_free H_zr.out 3; have zrl := has_lt H_zr.out
    have HAF := Lib.hid (anyF_of (own_lo H_lg.out hlw) (own_lo H_so.out hlw) (fun x hx => oi_wider (H_rk.out x hx) (Nat.le_refl _) (by omega)) hR5 hS4 (fun (x : Rw) (hx : x ∈ R) => (show x.l.length ≤ 5 by rw [HX5.out x hx]; omega)))
    go_wp2_with fail
    refine bodyPost_ret (v := .agg #[.int .i64 b, .int .i64 y, .slice (some ⟨gl, 0, none⟩) R.length cL, .slice AS S.length cS]) (by simp [results, Try.results26, go_sem, ztc0, ztc1, ztc2, ztc3, zrc0, zrc1, zrc2, zrc3, zrf0, zrf1, zrf2, zrf3, zrl]) rfl ?_
    generalize hX : World.setCell _ _ _ = w99
    have ho : Only w8 w.heap.size w99 := by rw [← hX]; with_reducible exact only_set4 _ _ _ _ _ _
    clear hX
    exact ⟨b, y, (some ⟨gl, 0, none⟩), AS, cL, cS, R, S, ret_rd rfl rfl, HAF.out.set H_zr.out ho, WalkArith.wf_i64 (by omega), cur_set H_cur.out ho (by omega) (by omega), only_set7 H_only.out ho (Nat.le_refl _)⟩
  · skip
    obtain ⟨xx, hxx⟩ : ∃ xx, R[k]? = some xx := ⟨_, List.getElem?_eq_getElem (by omega)⟩
    have hxl := HX5.out xx (List.mem_of_getElem? hxx)
    have hxo := H_rk.out xx (List.mem_of_getElem? hxx)
    have hcl := own_cell7 H_lg.out (rwV_at hxx)
    obtain ⟨XA, xc, xl⟩ := xx
    dsimp only at hxl hxo hcl
    have hxp : 0 < xl.length := by omega
    obtain ⟨gx, hgx, hgx0, hgx1, hcx, hfx⟩ : ∃ gx, XA = some ⟨gx, 0, none⟩ ∧ w.heap.size + 1 ≤ gx ∧ gx < Z ∧ (∃ u, w5.cell? ⟨gx, 0, none⟩ = some u) ∧ w5.frozen? ⟨gx, 0, none⟩ = false := by
      rcases hxo with h | ⟨gx, cur, h1, h2, h3, h4, h5⟩
      · exfalso; have h9 := intV_nil (l := xl) h; rw [h9] at hxp; simp at hxp
      · exact ⟨gx, h1, h2, by omega, ⟨_, has_cell h4 0 (h5 0 _ (intV_at (List.getElem?_eq_getElem hxp)))⟩, has_free h4 0⟩
    subst hgx
    have HXX := Lib.hid hxx; clear hxo hxx hxl hfx hcx hcl
    have S0 : (fun W : World => W.cell? ⟨Z, 2, none⟩ = some (.slice (some ⟨gl, 0, none⟩) R.length cL) ∧ W.cell? ⟨gl, k, none⟩ = some (.slice (some ⟨gx, 0, none⟩) xl.length xc)) w5.drew := ⟨has_cell H_zt.out 2 rfl, (own_cell7 H_lg.out (rwV_at HXX.out)).1⟩
    have hkk0 : (0 : Int) ≤ (k : Int) := by omega
    have hkk1 : (k : Int) < (R.length : Int) := by omega
    have hxp1 : (0 : Int) < (xl.length : Int) := by omega
    go_wp2_with fail
    refine wp_region_held_drew (S := (fun W : World => W.cell? ⟨Z, 2, none⟩ = some (.slice (some ⟨gl, 0, none⟩) R.length cL) ∧ W.cell? ⟨gl, k, none⟩ = some (.slice (some ⟨gx, 0, none⟩) xl.length xc))) (by kernel_rfl) S0 (fun _ => ?_)
    refine any_take (i := 0) (some 28) (.pointer (some ⟨Z, 2, none⟩)) rfl rfl (by kernel_rfl) (by kernel_rfl) (by kernel_rfl) (fun _ _ _ h => h) rfl (fun W hSw => ?_) (S0) ?_
    · (try dsimp only at hSw); go_simp <;> with_reducible rfl
    try simp only [Act.put, List.setIfInBounds_toArray, List.set_cons_zero, List.set_cons_succ]
    refine any_take (i := 1) (some 29) (.slice (some ⟨gl, 0, none⟩) R.length cL) rfl rfl (by kernel_rfl) (by kernel_rfl) (by kernel_rfl) (fun _ _ _ h => h) rfl (fun W hSw => ?_) (S0) ?_
    · (try dsimp only at hSw); go_simp <;> with_reducible rfl
    try simp only [Act.put, List.setIfInBounds_toArray, List.set_cons_zero, List.set_cons_succ]
    refine any_take (i := 2) (some 30) (.int .i64 (k : Int)) rfl rfl (by kernel_rfl) (by kernel_rfl) (by kernel_rfl) (fun _ _ _ h => h) rfl (fun W hSw => ?_) (S0) ?_
    · (try dsimp only at hSw); go_simp <;> with_reducible rfl
    try simp only [Act.put, List.setIfInBounds_toArray, List.set_cons_zero, List.set_cons_succ]
    refine any_take (i := 3) (some 31) (.pointer (some ⟨gl, k, none⟩)) rfl rfl (by kernel_rfl) (by kernel_rfl) (by kernel_rfl) (fun _ _ _ h => h) rfl (fun W hSw => ?_) (S0) ?_
    · (try dsimp only at hSw); go_simp <;> with_reducible rfl
    try simp only [Act.put, List.setIfInBounds_toArray, List.set_cons_zero, List.set_cons_succ]
    refine any_take (i := 4) (some 32) (.slice (some ⟨gx, 0, none⟩) xl.length xc) rfl rfl (by kernel_rfl) (by kernel_rfl) (by kernel_rfl) (fun _ _ _ h => h) rfl (fun W hSw => ?_) (S0) ?_
    · (try dsimp only at hSw); go_simp <;> with_reducible rfl
    try simp only [Act.put, List.setIfInBounds_toArray, List.set_cons_zero, List.set_cons_succ]
    refine any_take (i := 5) (some 33) (.pointer (some ⟨g, 0, none⟩)) rfl rfl (by kernel_rfl) (by kernel_rfl) (by kernel_rfl) (fun _ _ _ h => h) rfl (fun W hSw => ?_) (S0) ?_
    · (try dsimp only at hSw); go_simp <;> with_reducible rfl
    try simp only [Act.put, List.setIfInBounds_toArray, List.set_cons_zero, List.set_cons_succ]
    obtain ⟨w6, hdw⟩ : ∃ q, q = w5.drew := ⟨_, rfl⟩
    rw [← hdw] at S0 ⊢
    have hb : Below w5.heap.size w5 w6 := by rw [hdw]; exact (Below.refl _ _).drew
    clear hdw
    have kk := cur_bel H_cur.out hb; clear H_cur; have H_cur := Lib.hid kk; clear kk
    have kk := only_trans H_only.out (only_bel hb); clear H_only; have H_only := Lib.hid kk; clear kk
    have kk := has_call H_zr.out hb; clear H_zr; have H_zr := Lib.hid kk; clear kk
    have kk := own_call H_lg.out hb; clear H_lg; have H_lg := Lib.hid kk; clear kk
    have kk := own_call H_so.out hb; clear H_so; have H_so := Lib.hid kk; clear kk
    have kk := (fun (x : Rw) (hx : x ∈ R) => (H_rk.out x hx).call hb); clear H_rk; have H_rk := Lib.hid kk; clear kk
    have kk := has_call H_zt.out hb; clear H_zt; have H_zt := Lib.hid kk; clear kk
    have hmw6 := hb.size
    clear hb
    have hzw6 := H_only.out.size
    refine wpAnyH_ready (rs := [6]) (by kernel_rfl) (by simp) ?_
    refine AllReadyH.cons rfl (fun K hK => ?_) AllReadyH.nil
    go_simp
    generalize hX : (w6.alloc (.cells #[.int .i64 (-1), .int .i64 200, .int .i64 201] 3)) = w7
    have hb : Below w6.heap.size w6 w7 := by rw [← hX]; exact balloc _ _
    have hk : Has w7 w6.heap.size 3 #[.int .i64 (-1), .int .i64 200, .int .i64 201] := by rw [← hX]; exact has_new _ _ _
    clear hX
    have kk := cur_bel H_cur.out hb; clear H_cur; have H_cur := Lib.hid kk; clear kk
    have kk := only_trans H_only.out (only_bel hb); clear H_only; have H_only := Lib.hid kk; clear kk
    have kk := has_call H_zr.out hb; clear H_zr; have H_zr := Lib.hid kk; clear kk
    have kk := own_call H_lg.out hb; clear H_lg; have H_lg := Lib.hid kk; clear kk
    have kk := own_call H_so.out hb; clear H_so; have H_so := Lib.hid kk; clear kk
    have kk := (fun (x : Rw) (hx : x ∈ R) => (H_rk.out x hx).call hb); clear H_rk; have H_rk := Lib.hid kk; clear kk
    have kk := has_call H_zt.out hb; clear H_zt; have H_zt := Lib.hid kk; clear kk
    have hmw7 := hb.size
    clear hb
    have hzw7 := H_only.out.size
    have H_zl := Lib.hid hk; have hl_zl := has_lt hk; clear hk
    refine hK.out _ _ (show (fun W : World => W.cell? ⟨Z, 2, none⟩ = some (.slice (some ⟨gl, 0, none⟩) R.length cL) ∧ W.cell? ⟨gl, k, none⟩ = some (.slice (some ⟨gx, 0, none⟩) xl.length xc)) _ from ⟨has_cell H_zt.out 2 rfl, (own_cell7 H_lg.out (rwV_at HXX.out)).1⟩) (fun _ => ?_)
    clear hK K
    try simp only [Act.put, List.setIfInBounds_toArray, List.set_cons_zero, List.set_cons_succ]
    refine wpAnyH_ready (rs := [7]) (by kernel_rfl) (by simp) ?_
    refine AllReadyH.cons rfl (fun K hK => ?_) AllReadyH.nil
    go_simp
    have zl9 := H_zl.out
    clear H_zl
    go_at_call 36
    refine (pickInt_any _ B g (w6.heap.size) 3 _ (-1) (201) H_cur.out zl9 rfl (by omega) (by omega) (by omega) (by intro j hj; rcases j with _ | _ | _ | j; exact ⟨_, by decide, by decide, rfl⟩; exact ⟨_, by decide, by decide, rfl⟩; exact ⟨_, by decide, by decide, rfl⟩; omega)).mono ?_
    rintro e w8 ⟨y, hy0, hy1, rfl, hC9, hO9⟩
    have kk := hC9; clear H_cur; have H_cur := Lib.hid kk; clear kk
    have kk := only_trans H_only.out hO9; clear H_only; have H_only := Lib.hid kk; clear kk
    have kk := has_onl H_zr.out hO9 (by omega); clear H_zr; have H_zr := Lib.hid kk; clear kk
    have kk := own_o7 H_lg.out hO9 (by omega); clear H_lg; have H_lg := Lib.hid kk; clear kk
    have kk := own_o7 H_so.out hO9 (by omega); clear H_so; have H_so := Lib.hid kk; clear kk
    have kk := (fun (x : Rw) (hx : x ∈ R) => oi_draw (H_rk.out x hx) hO9 (by omega)); clear H_rk; have H_rk := Lib.hid kk; clear kk
    have kk := has_onl H_zt.out hO9 (by omega); clear H_zt; have H_zt := Lib.hid kk; clear kk
    have hmw8 := hO9.size
    clear hC9 hO9
    have hzw8 := H_only.out.size
    clear zl9 hl_zl
    go_wp2_with fail
    refine hK.out _ _ (show (fun W : World => W.cell? ⟨Z, 2, none⟩ = some (.slice (some ⟨gl, 0, none⟩) R.length cL) ∧ W.cell? ⟨gl, k, none⟩ = some (.slice (some ⟨gx, 0, none⟩) xl.length xc)) _ from ⟨has_cell H_zt.out 2 rfl, (own_cell7 H_lg.out (rwV_at HXX.out)).1⟩) (fun _ => ?_)
    clear hK K
    try simp only [Act.put, List.setIfInBounds_toArray, List.set_cons_zero, List.set_cons_succ]
    have S1 : (fun W : World => W.cell? ⟨Z, 2, none⟩ = some (.slice (some ⟨gl, 0, none⟩) R.length cL) ∧ W.cell? ⟨gl, k, none⟩ = some (.slice (some ⟨gx, 0, none⟩) xl.length xc)) w8 := ⟨has_cell H_zt.out 2 rfl, (own_cell7 H_lg.out (rwV_at HXX.out)).1⟩
    refine any_take (i := 8) (some 36) (.pointer (some ⟨gx, 0, none⟩)) rfl rfl (by kernel_rfl) (by kernel_rfl) (by kernel_rfl) (fun _ _ _ h => h) rfl (fun W hSw => ?_) (S1) ?_
    · (try dsimp only at hSw); go_simp <;> with_reducible rfl
    try simp only [Act.put, List.setIfInBounds_toArray, List.set_cons_zero, List.set_cons_succ]
    obtain ⟨cgx, hHgx, hcgx⟩ : ∃ cgx, Has w8 gx 3 cgx ∧ ∃ u, cgx[0]? = some u := by
      rcases H_rk.out _ (List.mem_of_getElem? HXX.out) with h | ⟨gx2, cur, h1, h2, h3, h4, h5⟩
      · exfalso; have h9 := intV_nil (l := xl) h; rw [h9] at hxp; simp at hxp
      · injection h1 with h1; injection h1 with h1; subst h1; exact ⟨cur, h4, _, h5 0 _ (intV_at (List.getElem?_eq_getElem hxp))⟩
    obtain ⟨u0, hu0⟩ := hcgx
    have hgc := has_cell hHgx 0 hu0; have hgf := has_free hHgx 0; have hgl9 := has_lt hHgx
    have HHG := Lib.hid hHgx; clear hHgx hu0
    refine wpAnyH_ready (rs := [9]) (by kernel_rfl) (by simp) ?_
    refine AllReadyH.cons rfl (fun K hK => ?_) AllReadyH.nil
    go_simp
    generalize hX : World.setCell _ _ _ = w9
    have ho : Only w8 gx w9 := by rw [← hX]; exact only_set (only_refl _ _) _ _
    obtain ⟨R2, hv2, hl2, hr2⟩ := rows_store gx 0 y H_rk.out
    rw [hX] at hr2; clear hX hgc hgf
    clear H_rk
    have kk := cur_set H_cur.out ho (by omega) (by omega); clear H_cur; have H_cur := Lib.hid kk; clear kk
    have kk := only_set7 H_only.out ho (by omega); clear H_only; have H_only := Lib.hid kk; clear kk
    have kk := has_onl H_zr.out ho (by omega); clear H_zr; have H_zr := Lib.hid kk; clear kk
    have kk := own_kt H_lg.out HHG.out (by decide) ho; clear H_lg; have H_lg := Lib.hid kk; clear kk
    have kk := own_kt H_so.out HHG.out (by decide) ho; clear H_so; have H_so := Lib.hid kk; clear kk
    have kk := has_onl H_zt.out ho (by omega); clear H_zt; have H_zt := Lib.hid kk; clear kk
    have hmw9 := ho.size
    have hzw9 := H_only.out.size
    have HV2 := Lib.hid hv2; have HL2 := Lib.hid hl2; have HR2 := Lib.hid hr2; clear hv2 hl2 hr2 ho HHG
    refine hK.out _ _ (show (fun W : World => W.cell? ⟨Z, 2, none⟩ = some (.slice (some ⟨gl, 0, none⟩) R.length cL) ∧ W.cell? ⟨gl, k, none⟩ = some (.slice (some ⟨gx, 0, none⟩) xl.length xc)) _ from ⟨has_cell H_zt.out 2 rfl, (own_cell7 H_lg.out (rwV_at HXX.out)).1⟩) (fun _ => ?_)
    clear hK K
    try simp only [Act.put, List.setIfInBounds_toArray, List.set_cons_zero, List.set_cons_succ]
    refine wpAnyH_done (by kernel_rfl) ?_ _
    clear S0 S1
    have HX2 := Lib.hid (fun (q : Rw) (hq : q ∈ R2) => rw_small HV2.out HL2.out (fun x hx => HX5.out x hx) q hq)
    have ztc0 := has_cell H_zt.out 0 rfl; have ztc1 := has_cell H_zt.out 1 rfl; have ztc2 := has_cell H_zt.out 2 rfl; have ztc3 := has_cell H_zt.out 3 rfl
    have zrc0 := has_cell H_zr.out 0 rfl; have zrc1 := has_cell H_zr.out 1 rfl; have zrc2 := has_cell H_zr.out 2 rfl; have zrc3 := has_cell H_zr.out 3 rfl; have zrf0 := has_free H_zr.out 0; have zrf1 := has_free H_zr.out 1; have zrf2 := has_free H_zr.out 2; have zrf3 := has_free H_zr.out 3; have zrl := has_lt H_zr.out
    have HAF := Lib.hid (anyF_of (by rw [HL2.out, HV2.out]; exact own_lo H_lg.out hlw) (own_lo H_so.out hlw) (fun x hx => oi_wider (HR2.out x hx) (Nat.le_refl _) (by omega)) (by rw [HL2.out]; exact hR5) hS4 (fun x hx => by rw [HX2.out x hx]; omega))
    go_wp2_with fail
    refine bodyPost_ret (v := .agg #[.int .i64 b, .int .i64 r, .slice (some ⟨gl, 0, none⟩) R.length cL, .slice AS S.length cS]) (by simp [results, Try.results26, go_sem, ztc0, ztc1, ztc2, ztc3, zrc0, zrc1, zrc2, zrc3, zrf0, zrf1, zrf2, zrf3, zrl]) rfl ?_
    generalize hX : World.setCell _ _ _ = w99
    have ho : Only w9 w.heap.size w99 := by rw [← hX]; with_reducible exact only_set4 _ _ _ _ _ _
    clear hX
    exact ⟨b, r, (some ⟨gl, 0, none⟩), AS, cL, cS, R2, S, ret_rd HL2.out.symm rfl, HAF.out.set H_zr.out ho, WalkArith.wf_i64 (by omega), cur_set H_cur.out ho (by omega) (by omega), only_set7 H_only.out ho (Nat.le_refl _)⟩
  · skip
    have hcap := own_cap7 H_lg.out; obtain ⟨hcap1, hcap2⟩ := hcap; unfold maxLen at hcap2
    by_cases hc1 : cL = 1
    · skip
      subst hc1
      have hr1 : R.length = 1 := by omega
      have HR1 := Lib.hid hr1
      skip
      have ztq := has_cell H_zt.out 2 rfl; have ztf := has_free H_zt.out 2; have ztl := has_lt H_zt.out
      have hR1I : (1 : Int) ≤ (R.length : Int) := by omega
      skip
      go_upto_region 15 with fail
      clear ztq ztf ztl
      generalize hX : World.setCell _ _ _ = w6
      have ho : Only w5 Z w6 := by rw [← hX]; exact only_set (only_refl _ _) _ _
      have hnew : Has w6 Z 27 #[.int .i64 b, .int .i64 r, .slice (some ⟨gl, 0, none⟩) 0 0, .slice AS S.length cS] := by rw [← hX]; simpa using has_set H_zt.out 2 (.slice (some ⟨gl, 0, none⟩) 0 0)
      clear hX
      have hZ7 := H_zt.out
      have kk := cur_set H_cur.out ho (by omega) (by omega); clear H_cur; have H_cur := Lib.hid kk; clear kk
      have kk := only_set7 H_only.out ho (by omega); clear H_only; have H_only := Lib.hid kk; clear kk
      have kk := has_onl H_zr.out ho (by omega); clear H_zr; have H_zr := Lib.hid kk; clear kk
      have kk := own_kt H_lg.out hZ7 (by decide) ho; clear H_lg; have H_lg := Lib.hid kk; clear kk
      have kk := own_kt H_so.out hZ7 (by decide) ho; clear H_so; have H_so := Lib.hid kk; clear kk
      have kk := (fun (x : Rw) (hx : x ∈ R) => oi_set (H_rk.out x hx) hZ7 (by decide) ho); clear H_rk; have H_rk := Lib.hid kk; clear kk
      have kk := hnew; clear H_zt; have H_zt := Lib.hid kk; clear kk
      clear hZ7
      have hmw6 := ho.size
      have hzw6 := H_only.out.size
      clear hnew ho
      have ztc0 := has_cell H_zt.out 0 rfl; have ztc1 := has_cell H_zt.out 1 rfl; have ztc2 := has_cell H_zt.out 2 rfl; have ztc3 := has_cell H_zt.out 3 rfl
      have zrc0 := has_cell H_zr.out 0 rfl; have zrc1 := has_cell H_zr.out 1 rfl; have zrc2 := has_cell H_zr.out 2 rfl; have zrc3 := has_cell H_zr.out 3 rfl; have zrf0 := has_free H_zr.out 0; have zrf1 := has_free H_zr.out 1; have zrf2 := has_free H_zr.out 2; have zrf3 := has_free H_zr.out 3; have zrl := has_lt H_zr.out
      have HAF := Lib.hid ((anyF_nil (own_lo H_so.out hlw) hS4 : AnyF _ _ (some ⟨gl, 0, none⟩) [] AS S))
      go_wp2_with fail
      refine bodyPost_ret (v := .agg #[.int .i64 b, .int .i64 r, .slice (some ⟨gl, 0, none⟩) 0 0, .slice AS S.length cS]) (by simp [results, Try.results26, go_sem, ztc0, ztc1, ztc2, ztc3, zrc0, zrc1, zrc2, zrc3, zrf0, zrf1, zrf2, zrf3, zrl]) rfl ?_
      generalize hX : World.setCell _ _ _ = w99
      have ho : Only w6 w.heap.size w99 := by rw [← hX]; with_reducible exact only_set4 _ _ _ _ _ _
      clear hX
      exact ⟨b, r, (some ⟨gl, 0, none⟩), AS, 0, cS, [], S, ret_rd rfl rfl, HAF.out.set H_zr.out ho, WalkArith.wf_i64 (by omega), cur_set H_cur.out ho (by omega) (by omega), only_set7 H_only.out ho (Nat.le_refl _)⟩
    · skip
      have hc1I : ¬ ((cL : Int) = 1) := by omega
      have ztq := has_cell H_zt.out 2 rfl; have ztf := has_free H_zt.out 2; have ztl := has_lt H_zt.out
      have hR1I : (1 : Int) ≤ (R.length : Int) := by omega
      have hcapI : (R.length : Int) ≤ (cL : Int) := by omega
      go_upto_region 15 with fail
      clear ztq ztf ztl
      generalize hX : World.setCell _ _ _ = w6
      have ho : Only w5 Z w6 := by rw [← hX]; exact only_set (only_refl _ _) _ _
      have hnew : Has w6 Z 27 #[.int .i64 b, .int .i64 r, .slice (some ⟨gl, 1, none⟩) (R.length - 1) (cL - 1), .slice AS S.length cS] := by rw [← hX]; simpa using has_set H_zt.out 2 (.slice (some ⟨gl, 1, none⟩) (R.length - 1) (cL - 1))
      clear hX
      have hZ7 := H_zt.out
      have kk := cur_set H_cur.out ho (by omega) (by omega); clear H_cur; have H_cur := Lib.hid kk; clear kk
      have kk := only_set7 H_only.out ho (by omega); clear H_only; have H_only := Lib.hid kk; clear kk
      have kk := has_onl H_zr.out ho (by omega); clear H_zr; have H_zr := Lib.hid kk; clear kk
      have kk := own_kt H_lg.out hZ7 (by decide) ho; clear H_lg; have H_lg := Lib.hid kk; clear kk
      have kk := own_kt H_so.out hZ7 (by decide) ho; clear H_so; have H_so := Lib.hid kk; clear kk
      have kk := (fun (x : Rw) (hx : x ∈ R) => oi_set (H_rk.out x hx) hZ7 (by decide) ho); clear H_rk; have H_rk := Lib.hid kk; clear kk
      have kk := hnew; clear H_zt; have H_zt := Lib.hid kk; clear kk
      clear hZ7
      have hmw6 := ho.size
      have hzw6 := H_only.out.size
      clear hnew ho
      have ztc0 := has_cell H_zt.out 0 rfl; have ztc1 := has_cell H_zt.out 1 rfl; have ztc2 := has_cell H_zt.out 2 rfl; have ztc3 := has_cell H_zt.out 3 rfl
      have zrc0 := has_cell H_zr.out 0 rfl; have zrc1 := has_cell H_zr.out 1 rfl; have zrc2 := has_cell H_zr.out 2 rfl; have zrc3 := has_cell H_zr.out 3 rfl; have zrf0 := has_free H_zr.out 0; have zrf1 := has_free H_zr.out 1; have zrf2 := has_free H_zr.out 2; have zrf3 := has_free H_zr.out 3; have zrl := has_lt H_zr.out
      have HAF := Lib.hid (anyF_drop (own_lo H_lg.out hlw) (own_lo H_so.out hlw) (fun x hx => oi_wider (H_rk.out x hx) (Nat.le_refl _) (by omega)) hR5 hS4 (fun (x : Rw) (hx : x ∈ R) => (show x.l.length ≤ 5 by rw [HX5.out x hx]; omega)))
      go_wp2_with fail
      refine bodyPost_ret (v := .agg #[.int .i64 b, .int .i64 r, .slice (some ⟨gl, 1, none⟩) (R.length - 1) (cL - 1), .slice AS S.length cS]) (by simp [results, Try.results26, go_sem, ztc0, ztc1, ztc2, ztc3, zrc0, zrc1, zrc2, zrc3, zrf0, zrf1, zrf2, zrf3, zrl]) rfl ?_
      generalize hX : World.setCell _ _ _ = w99
      have ho : Only w6 w.heap.size w99 := by rw [← hX]; with_reducible exact only_set4 _ _ _ _ _ _
      clear hX
      exact ⟨b, r, (some ⟨gl, 1, none⟩), AS, (cL - 1), cS, (R.drop 1), S, ret_rd (by rw [List.length_drop]) rfl, HAF.out.set H_zr.out ho, WalkArith.wf_i64 (by omega), cur_set H_cur.out ho (by omega) (by omega), only_set7 H_only.out ho (Nat.le_refl _)⟩
  · skip
    by_cases hpos : (0 : Int) < (S.length : Int)
    · skip
      obtain ⟨gs, hgs⟩ := own_some H_so.out (by omega)
      subst hgs
      obtain ⟨s0, hs0⟩ : ∃ s0, S[0]? = some s0 := ⟨_, List.getElem?_eq_getElem (by omega)⟩
      have hsb := (stopB_iff _).1 (HSB.out s0 (List.mem_of_getElem? hs0))
      have HS0 := Lib.hid (sp_first hs0); clear hs0
      obtain ⟨x0, x1, x2, x3, x4⟩ := s0
      dsimp only at hsb HS0
      have hgs9 := H_so.out.lt gs rfl; obtain ⟨hgs0, hgs1⟩ := hgs9
      have hgs2 := HSOL.out gs rfl
      have hgsZ : gs < Z := by omega
      have ztq := has_cell H_zt.out 3 rfl
      go_upto_region 14 with fail
      clear ztq
      have S0 : (fun W : World => W.cell? ⟨Z, 3, none⟩ = some (.slice (some ⟨gs, 0, none⟩) S.length cS) ∧ W.cell? ⟨gs, 0, none⟩ = some (.int .i64 x0)) w5.drew := ⟨has_cell H_zt.out 3 rfl, (own_cell7 H_so.out HS0.out.1).1⟩
      refine wp_region_held_drew (S := (fun W : World => W.cell? ⟨Z, 3, none⟩ = some (.slice (some ⟨gs, 0, none⟩) S.length cS) ∧ W.cell? ⟨gs, 0, none⟩ = some (.int .i64 x0))) (by kernel_rfl) S0 (fun _ => ?_)
      have hww9 : IntKind.i64.wrap (x0 - 1) = x0 - 1 := IntWalk.i64_in _ (by omega)
      refine any_take (i := 0) (some 49) (.pointer (some ⟨Z, 3, none⟩)) rfl rfl (by kernel_rfl) (by kernel_rfl) (by kernel_rfl) (fun _ _ _ h => h) rfl (fun W hSw => ?_) (S0) ?_
      · (try dsimp only at hSw); go_simp <;> with_reducible rfl
      try simp only [Act.put, List.setIfInBounds_toArray, List.set_cons_zero, List.set_cons_succ]
      refine any_take (i := 1) (some 50) (.slice (some ⟨gs, 0, none⟩) S.length cS) rfl rfl (by kernel_rfl) (by kernel_rfl) (by kernel_rfl) (fun _ _ _ h => h) rfl (fun W hSw => ?_) (S0) ?_
      · (try dsimp only at hSw); go_simp <;> with_reducible rfl
      try simp only [Act.put, List.setIfInBounds_toArray, List.set_cons_zero, List.set_cons_succ]
      refine any_take (i := 2) (some 51) (.pointer (some ⟨g, 0, none⟩)) rfl rfl (by kernel_rfl) (by kernel_rfl) (by kernel_rfl) (fun _ _ _ h => h) rfl (fun W hSw => ?_) (S0) ?_
      · (try dsimp only at hSw); go_simp <;> with_reducible rfl
      try simp only [Act.put, List.setIfInBounds_toArray, List.set_cons_zero, List.set_cons_succ]
      refine any_take (i := 3) (some 52) (.pointer (some ⟨Z, 3, none⟩)) rfl rfl (by kernel_rfl) (by kernel_rfl) (by kernel_rfl) (fun _ _ _ h => h) rfl (fun W hSw => ?_) (S0) ?_
      · (try dsimp only at hSw); go_simp <;> with_reducible rfl
      try simp only [Act.put, List.setIfInBounds_toArray, List.set_cons_zero, List.set_cons_succ]
      refine any_take (i := 4) (some 53) (.slice (some ⟨gs, 0, none⟩) S.length cS) rfl rfl (by kernel_rfl) (by kernel_rfl) (by kernel_rfl) (fun _ _ _ h => h) rfl (fun W hSw => ?_) (S0) ?_
      · (try dsimp only at hSw); go_simp <;> with_reducible rfl
      try simp only [Act.put, List.setIfInBounds_toArray, List.set_cons_zero, List.set_cons_succ]
      refine any_take (i := 5) (some 54) (.pointer (some ⟨gs, 0, none⟩)) rfl rfl (by kernel_rfl) (by kernel_rfl) (by kernel_rfl) (fun _ _ _ h => h) rfl (fun W hSw => ?_) (S0) ?_
      · (try dsimp only at hSw); go_simp <;> with_reducible rfl
      try simp only [Act.put, List.setIfInBounds_toArray, List.set_cons_zero, List.set_cons_succ]
      refine any_take (i := 6) (some 55) (.pointer (some ⟨gs, 0, none⟩)) rfl rfl (by kernel_rfl) (by kernel_rfl) (by kernel_rfl) (fun _ _ _ h => h) rfl (fun W hSw => ?_) (S0) ?_
      · (try dsimp only at hSw); go_simp <;> with_reducible rfl
      try simp only [Act.put, List.setIfInBounds_toArray, List.set_cons_zero, List.set_cons_succ]
      refine any_take (i := 7) (some 56) (.int .i64 x0) rfl rfl (by kernel_rfl) (by kernel_rfl) (by kernel_rfl) (fun _ _ _ h => h) rfl (fun W hSw => ?_) (S0) ?_
      · (try dsimp only at hSw); go_simp <;> with_reducible rfl
      try simp only [Act.put, List.setIfInBounds_toArray, List.set_cons_zero, List.set_cons_succ]
      refine any_take (i := 8) (some 57) (.int .i64 (x0 - 1)) rfl rfl (by kernel_rfl) (by kernel_rfl) (by kernel_rfl) (fun _ _ _ h => h) rfl (fun W hSw => ?_) (S0) ?_
      · (try dsimp only at hSw); go_simp <;> with_reducible rfl
      try simp only [Act.put, List.setIfInBounds_toArray, List.set_cons_zero, List.set_cons_succ]
      obtain ⟨w6, hdw⟩ : ∃ q, q = w5.drew := ⟨_, rfl⟩
      rw [← hdw] at S0 ⊢
      have hb : Below w5.heap.size w5 w6 := by rw [hdw]; exact (Below.refl _ _).drew
      clear hdw
      have kk := cur_bel H_cur.out hb; clear H_cur; have H_cur := Lib.hid kk; clear kk
      have kk := only_trans H_only.out (only_bel hb); clear H_only; have H_only := Lib.hid kk; clear kk
      have kk := has_call H_zr.out hb; clear H_zr; have H_zr := Lib.hid kk; clear kk
      have kk := own_call H_lg.out hb; clear H_lg; have H_lg := Lib.hid kk; clear kk
      have kk := own_call H_so.out hb; clear H_so; have H_so := Lib.hid kk; clear kk
      have kk := (fun (x : Rw) (hx : x ∈ R) => (H_rk.out x hx).call hb); clear H_rk; have H_rk := Lib.hid kk; clear kk
      have kk := has_call H_zt.out hb; clear H_zt; have H_zt := Lib.hid kk; clear kk
      have hmw6 := hb.size
      clear hb
      have hzw6 := H_only.out.size
      refine wpAnyH_ready (rs := [9]) (by kernel_rfl) (by simp) ?_
      refine AllReadyH.cons rfl (fun K hK => ?_) AllReadyH.nil
      go_simp
      generalize hX : (w6.alloc (.cells #[.int .i64 (-1), .int .i64 20000, .int .i64 20001, .int .i64 (x0 - 1)] 3)) = w7
      have hb : Below w6.heap.size w6 w7 := by rw [← hX]; exact balloc _ _
      have hk : Has w7 w6.heap.size 3 #[.int .i64 (-1), .int .i64 20000, .int .i64 20001, .int .i64 (x0 - 1)] := by rw [← hX]; exact has_new _ _ _
      clear hX
      have kk := cur_bel H_cur.out hb; clear H_cur; have H_cur := Lib.hid kk; clear kk
      have kk := only_trans H_only.out (only_bel hb); clear H_only; have H_only := Lib.hid kk; clear kk
      have kk := has_call H_zr.out hb; clear H_zr; have H_zr := Lib.hid kk; clear kk
      have kk := own_call H_lg.out hb; clear H_lg; have H_lg := Lib.hid kk; clear kk
      have kk := own_call H_so.out hb; clear H_so; have H_so := Lib.hid kk; clear kk
      have kk := (fun (x : Rw) (hx : x ∈ R) => (H_rk.out x hx).call hb); clear H_rk; have H_rk := Lib.hid kk; clear kk
      have kk := has_call H_zt.out hb; clear H_zt; have H_zt := Lib.hid kk; clear kk
      have hmw7 := hb.size
      clear hb
      have hzw7 := H_only.out.size
      have H_zl := Lib.hid hk; have hl_zl := has_lt hk; clear hk
      refine hK.out _ _ (show (fun W : World => W.cell? ⟨Z, 3, none⟩ = some (.slice (some ⟨gs, 0, none⟩) S.length cS) ∧ W.cell? ⟨gs, 0, none⟩ = some (.int .i64 x0)) _ from ⟨has_cell H_zt.out 3 rfl, (own_cell7 H_so.out HS0.out.1).1⟩) (fun _ => ?_)
      clear hK K
      try simp only [Act.put, List.setIfInBounds_toArray, List.set_cons_zero, List.set_cons_succ]
      refine wpAnyH_ready (rs := [10]) (by kernel_rfl) (by simp) ?_
      refine AllReadyH.cons rfl (fun K hK => ?_) AllReadyH.nil
      go_simp
      have zl9 := H_zl.out
      clear H_zl
      go_at_call 36
      refine (pickInt_any _ B g (w6.heap.size) 4 _ (-1) (20001) H_cur.out zl9 rfl (by omega) (by omega) (by omega) (by intro j hj; rcases j with _ | _ | _ | _ | j; exact ⟨_, by decide, by decide, rfl⟩; exact ⟨_, by decide, by decide, rfl⟩; exact ⟨_, by decide, by decide, rfl⟩; exact ⟨_, by omega, by omega, rfl⟩; omega)).mono ?_
      rintro e w8 ⟨y, hy0, hy1, rfl, hC9, hO9⟩
      have kk := hC9; clear H_cur; have H_cur := Lib.hid kk; clear kk
      have kk := only_trans H_only.out hO9; clear H_only; have H_only := Lib.hid kk; clear kk
      have kk := has_onl H_zr.out hO9 (by omega); clear H_zr; have H_zr := Lib.hid kk; clear kk
      have kk := own_o7 H_lg.out hO9 (by omega); clear H_lg; have H_lg := Lib.hid kk; clear kk
      have kk := own_o7 H_so.out hO9 (by omega); clear H_so; have H_so := Lib.hid kk; clear kk
      have kk := (fun (x : Rw) (hx : x ∈ R) => oi_draw (H_rk.out x hx) hO9 (by omega)); clear H_rk; have H_rk := Lib.hid kk; clear kk
      have kk := has_onl H_zt.out hO9 (by omega); clear H_zt; have H_zt := Lib.hid kk; clear kk
      have hmw8 := hO9.size
      clear hC9 hO9
      have hzw8 := H_only.out.size
      clear zl9 hl_zl
      go_wp2_with fail
      refine hK.out _ _ (show (fun W : World => W.cell? ⟨Z, 3, none⟩ = some (.slice (some ⟨gs, 0, none⟩) S.length cS) ∧ W.cell? ⟨gs, 0, none⟩ = some (.int .i64 x0)) _ from ⟨has_cell H_zt.out 3 rfl, (own_cell7 H_so.out HS0.out.1).1⟩) (fun _ => ?_)
      clear hK K
      try simp only [Act.put, List.setIfInBounds_toArray, List.set_cons_zero, List.set_cons_succ]
      have S1 : (fun W : World => W.cell? ⟨Z, 3, none⟩ = some (.slice (some ⟨gs, 0, none⟩) S.length cS) ∧ W.cell? ⟨gs, 0, none⟩ = some (.int .i64 x0)) w8 := ⟨has_cell H_zt.out 3 rfl, (own_cell7 H_so.out HS0.out.1).1⟩
      refine any_take (i := 11) (some 60) (.pointer (some ⟨gs, 0, none⟩)) rfl rfl (by kernel_rfl) (by kernel_rfl) (by kernel_rfl) (fun _ _ _ h => h) rfl (fun W hSw => ?_) (S1) ?_
      · (try dsimp only at hSw); go_simp <;> with_reducible rfl
      try simp only [Act.put, List.setIfInBounds_toArray, List.set_cons_zero, List.set_cons_succ]
      refine any_take (i := 12) (some 61) (.pointer (some ⟨gs, 1, none⟩)) rfl rfl (by kernel_rfl) (by kernel_rfl) (by kernel_rfl) (fun _ _ _ h => h) rfl (fun W hSw => ?_) (S1) ?_
      · (try dsimp only at hSw); go_simp <;> with_reducible rfl
      try simp only [Act.put, List.setIfInBounds_toArray, List.set_cons_zero, List.set_cons_succ]
      have hq1 := own_cell7 H_so.out HS0.out.2; obtain ⟨hq1, hq2, hq3⟩ := hq1
      refine wpAnyH_ready (rs := [13]) (by kernel_rfl) (by simp) ?_
      refine AllReadyH.cons rfl (fun K hK => ?_) AllReadyH.nil
      go_simp
      have hst := (H_so.out.stored 1 (.int .i64 y)).1
      obtain ⟨csg, hHg⟩ : ∃ csg, Has w8 gs 39 csg := (own_has H_so.out gs rfl).2
      generalize hX : World.setCell _ _ _ = w9
      rw [hX] at hst
      have ho : Only w8 gs w9 := by rw [← hX]; exact only_set (only_refl _ _) _ _
      clear hX hq1 hq2
      have hc0 := (own_cell7 hst (j := 0) (u := .int .i64 x0) (by rw [List.getElem?_set_ne (by decide)]; exact HS0.out.1)).1
      obtain ⟨S2, hS2, hl2⟩ : ∃ S2, (spV S).set 1 (.int .i64 y) = spV S2 ∧ S2.length = S.length := sp_set1 S y
      rw [hS2] at hst
      clear H_so
      have kk := cur_set H_cur.out ho (by omega) (by omega); clear H_cur; have H_cur := Lib.hid kk; clear kk
      have kk := only_set7 H_only.out ho (by omega); clear H_only; have H_only := Lib.hid kk; clear kk
      have kk := has_onl H_zr.out ho (by omega); clear H_zr; have H_zr := Lib.hid kk; clear kk
      have kk := own_kt H_lg.out hHg (by decide) ho; clear H_lg; have H_lg := Lib.hid kk; clear kk
      have kk := (fun (x : Rw) (hx : x ∈ R) => oi_set (H_rk.out x hx) hHg (by decide) ho); clear H_rk; have H_rk := Lib.hid kk; clear kk
      have kk := has_onl H_zt.out ho (by omega); clear H_zt; have H_zt := Lib.hid kk; clear kk
      have hmw9 := ho.size
      have hzw9 := H_only.out.size
      have H_so := Lib.hid hst; have HL2 := Lib.hid hl2; clear hst hl2 hS2 ho hHg HS0
      refine hK.out _ _ (show (fun W : World => W.cell? ⟨Z, 3, none⟩ = some (.slice (some ⟨gs, 0, none⟩) S.length cS) ∧ W.cell? ⟨gs, 0, none⟩ = some (.int .i64 x0)) _ from ⟨has_cell H_zt.out 3 rfl, hc0⟩) (fun _ => ?_)
      clear hK K
      try simp only [Act.put, List.setIfInBounds_toArray, List.set_cons_zero, List.set_cons_succ]
      refine wpAnyH_done (by kernel_rfl) ?_ _
      clear S0 S1 hc0
      have ztc0 := has_cell H_zt.out 0 rfl; have ztc1 := has_cell H_zt.out 1 rfl; have ztc2 := has_cell H_zt.out 2 rfl; have ztc3 := has_cell H_zt.out 3 rfl
      have zrc0 := has_cell H_zr.out 0 rfl; have zrc1 := has_cell H_zr.out 1 rfl; have zrc2 := has_cell H_zr.out 2 rfl; have zrc3 := has_cell H_zr.out 3 rfl; have zrf0 := has_free H_zr.out 0; have zrf1 := has_free H_zr.out 1; have zrf2 := has_free H_zr.out 2; have zrf3 := has_free H_zr.out 3; have zrl := has_lt H_zr.out
      have HAF := Lib.hid (anyF_of (own_lo H_lg.out hlw) (by rw [HL2.out]; exact own_lo H_so.out hlw) (fun x hx => oi_wider (H_rk.out x hx) (Nat.le_refl _) (by omega)) hR5 (by rw [HL2.out]; exact hS4) (fun (x : Rw) (hx : x ∈ R) => (show x.l.length ≤ 5 by rw [HX5.out x hx]; omega)))
      go_wp2_with fail
      refine bodyPost_ret (v := .agg #[.int .i64 b, .int .i64 r, .slice (some ⟨gl, 0, none⟩) R.length cL, .slice (some ⟨gs, 0, none⟩) S.length cS]) (by simp [results, Try.results26, go_sem, ztc0, ztc1, ztc2, ztc3, zrc0, zrc1, zrc2, zrc3, zrf0, zrf1, zrf2, zrf3, zrl]) rfl ?_
      generalize hX : World.setCell _ _ _ = w99
      have ho : Only w9 w.heap.size w99 := by rw [← hX]; with_reducible exact only_set4 _ _ _ _ _ _
      clear hX
      exact ⟨b, r, (some ⟨gl, 0, none⟩), (some ⟨gs, 0, none⟩), cL, cS, R, S2, ret_rd rfl HL2.out.symm, HAF.out.set H_zr.out ho, WalkArith.wf_i64 (by omega), cur_set H_cur.out ho (by omega) (by omega), only_set7 H_only.out ho (Nat.le_refl _)⟩
    · skip
      have ztq := has_cell H_zt.out 3 rfl
      go_upto_region 15 with fail
      clear ztq
      have ztc0 := has_cell H_zt.out 0 rfl; have ztc1 := has_cell H_zt.out 1 rfl; have ztc2 := has_cell H_zt.out 2 rfl; have ztc3 := has_cell H_zt.out 3 rfl
      have zrc0 := has_cell H_zr.out 0 rfl; have zrc1 := has_cell H_zr.out 1 rfl; have zrc2 := has_cell H_zr.out 2 rfl; have zrc3 := has_cell H_zr.out 3 rfl; have zrf0 := has_free H_zr.out 0; have zrf1 := has_free H_zr.out 1; have zrf2 := has_free H_zr.out 2; have zrf3 := has_free H_zr.out 3; have zrl := has_lt H_zr.out
      have HAF := Lib.hid (anyF_of (own_lo H_lg.out hlw) (own_lo H_so.out hlw) (fun x hx => oi_wider (H_rk.out x hx) (Nat.le_refl _) (by omega)) hR5 hS4 (fun (x : Rw) (hx : x ∈ R) => (show x.l.length ≤ 5 by rw [HX5.out x hx]; omega)))
      go_wp2_with fail
      refine bodyPost_ret (v := .agg #[.int .i64 b, .int .i64 r, .slice (some ⟨gl, 0, none⟩) R.length cL, .slice AS S.length cS]) (by simp [results, Try.results26, go_sem, ztc0, ztc1, ztc2, ztc3, zrc0, zrc1, zrc2, zrc3, zrf0, zrf1, zrf2, zrf3, zrl]) rfl ?_
      generalize hX : World.setCell _ _ _ = w99
      have ho : Only w5 w.heap.size w99 := by rw [← hX]; with_reducible exact only_set4 _ _ _ _ _ _
      clear hX
      exact ⟨b, r, (some ⟨gl, 0, none⟩), AS, cL, cS, R, S, ret_rd rfl rfl, HAF.out.set H_zr.out ho, WalkArith.wf_i64 (by omega), cur_set H_cur.out ho (by omega) (by omega), only_set7 H_only.out ho (Nat.le_refl _)⟩
  · skip
    have he0 : (x == 0) = false := by simp; omega
    have he1 : (x == 1) = false := by simp; omega
    have he2 : (x == 2) = false := by simp; omega
    have he3 : (x == 3) = false := by simp; omega
    have he4 : (x == 4) = false := by simp; omega
    have ztc0 := has_cell H_zt.out 0 rfl; have ztc1 := has_cell H_zt.out 1 rfl; have ztc2 := has_cell H_zt.out 2 rfl; have ztc3 := has_cell H_zt.out 3 rfl
    have zrc0 := has_cell H_zr.out 0 rfl; have zrc1 := has_cell H_zr.out 1 rfl; have zrc2 := has_cell H_zr.out 2 rfl; have zrc3 := has_cell H_zr.out 3 rfl; have zrf0 := has_free H_zr.out 0; have zrf1 := has_free H_zr.out 1; have zrf2 := has_free H_zr.out 2; have zrf3 := has_free H_zr.out 3; have zrl := has_lt H_zr.out
    have HAF := Lib.hid (anyF_of (own_lo H_lg.out hlw) (own_lo H_so.out hlw) (fun x hx => oi_wider (H_rk.out x hx) (Nat.le_refl _) (by omega)) hR5 hS4 (fun (x : Rw) (hx : x ∈ R) => (show x.l.length ≤ 5 by rw [HX5.out x hx]; omega)))
    go_wp2_with fail
    refine bodyPost_ret (v := .agg #[.int .i64 b, .int .i64 r, .slice (some ⟨gl, 0, none⟩) R.length cL, .slice AS S.length cS]) (by simp [results, Try.results26, go_sem, ztc0, ztc1, ztc2, ztc3, zrc0, zrc1, zrc2, zrc3, zrf0, zrf1, zrf2, zrf3, zrl]) rfl ?_
    generalize hX : World.setCell _ _ _ = w99
    have ho : Only w5 w.heap.size w99 := by rw [← hX]; with_reducible exact only_set4 _ _ _ _ _ _
    clear hX
    exact ⟨b, r, (some ⟨gl, 0, none⟩), AS, cL, cS, R, S, ret_rd rfl rfl, HAF.out.set H_zr.out ho, WalkArith.wf_i64 (by omega), cur_set H_cur.out ho (by omega) (by omega), only_set7 H_only.out ho (Nat.le_refl _)⟩
end Go.Proofs.Ytmaclochdmndkaa
