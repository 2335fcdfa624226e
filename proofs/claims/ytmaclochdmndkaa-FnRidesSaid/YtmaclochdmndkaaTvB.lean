/- Chapter 7: the drawing of orders (gen_tvb.py). -/
import Derived.Test.YtmaclochdmndkaaTvA
import Derived.Deep.RegionHeld3
import Derived.Deep.DeepMust
import Derived.WalkLawsBesides
import Derived.Deep.DeepCutAuto
import Derived.RegionTactic
import Derived.OwnWalk
import Derived.Deep.AppendLies
import Derived.Laws.OwnMore
namespace Go.Proofs.Ytmaclochdmndkaa
open Go.RowKit
set_option linter.unusedVariables false

theorem own_some {w : World} {base : Nat} {e : TypeId} {size n c : Nat} {A : Option Addr} {xs : List Value} (h : w.ownsRow base e size (.slice A n c) n xs) (hn : 0 < n) : ∃ g, A = some ⟨g, 0, none⟩ := by
  rcases h.2 with ⟨h1, h2⟩ | ⟨g, cap, cur, h1, _⟩
  · omega
  · injection h1 with h1; exact ⟨g, h1⟩
theorem own_cap7 {w : World} {base : Nat} {e : TypeId} {size n c : Nat} {A : Option Addr} {xs : List Value} (h : w.ownsRow base e size (.slice A n c) n xs) : n ≤ c ∧ c ≤ maxLen := by
  rcases h.2 with ⟨h1, h2⟩ | ⟨g, cap, cur, h1, _, _, h5, h6, _⟩
  · injection h1 with _ h1 h3; omega
  · injection h1 with _ _ h1; subst h1; exact ⟨h5, h6⟩
theorem own_take7 {w : World} {base : Nat} {e : TypeId} {n c m : Nat} {A : Option Addr} {xs : List Value} (h : w.ownsRow base e 1 (.slice A n c) n xs) (hm : m ≤ n) : w.ownsRow base e 1 (.slice A m c) m (xs.take m) := by
  obtain ⟨hl, h⟩ := h
  refine ⟨by rw [List.length_take, hl]; omega, ?_⟩
  rcases h with ⟨h1, h2⟩ | ⟨g, cap, cur, h1, h2, h3, h4, h5, h6, h7⟩
  · injection h1 with h1 h3 h4; subst h1; subst h4; obtain rfl : m = 0 := by omega
    exact .inl ⟨rfl, rfl⟩
  · injection h1 with h1 h8 h9; subst h1; subst h9
    refine .inr ⟨g, c, cur, rfl, h2, h3, by omega, h5, h6, ?_⟩
    rw [← h7, List.take_take]; congr 1; omega
theorem own_cell7 {w : World} {base g : Nat} {e : TypeId} {size n c : Nat} {xs : List Value} (h : w.ownsRow base e size (.slice (some ⟨g, 0, none⟩) n c) n xs) {j : Nat} {u : Value} (hu : xs[j]? = some u) : w.cell? ⟨g, j, none⟩ = some u ∧ w.frozen? ⟨g, j, none⟩ = false ∧ g < w.heap.size := by
  have ho := or_own' h
  rcases ho with h0 | ⟨g', cur, h1, h2, h3, h4⟩
  · rw [h0] at hu; simp at hu
  · injection h1 with h1; injection h1 with h1; subst h1
    exact ⟨has_cell h3 j (h4 _ _ hu), has_free h3 j, has_lt h3⟩
theorem ret_sl {A : Option Addr} {n m c : Nat} (h : n = m) : Ending.returned (.slice A n c) = .returned (.slice A m c) := by rw [h]
theorem intV_set (l : List Int) (j : Nat) (x : Int) : (intV l).set j (.int .i64 x) = intV (l.set j x) := by simp [intV, List.map_set]
/-- an order that is drawn -/
def DrawnO (w : World) (B g : Nat) (e : Ending) (w' : World) : Prop := ∃ (A : Option Addr) (c : Nat) (l : List Int), e = .returned (.slice A l.length c) ∧ l.length ≤ 6 ∧ l.length ≤ c ∧ c ≤ maxLen ∧ w'.ownsRow w.heap.size 3 1 (.slice A l.length c) l.length (intV l) ∧ Cur w' B g ∧ Only w g w'
set_option maxRecDepth 100000 in
set_option maxHeartbeats 8000000 in
theorem orderD_any (w : World) (B g n : Nat) (hn : n ≤ 5) (hC : Cur w B g) : Calls Try.prog 27 #[.pointer (some ⟨g, 0, none⟩), .int .i64 (n : Int)] w (DrawnO w B g) := by
  have hlt := hC.lt; obtain ⟨hB, hg⟩ := hlt
  obtain ⟨i0_i, hi0, hz0, hz1, hz2⟩ := info_parts intInfo
  have hi_i := Lib.hid hi0; have hz0_i := Lib.hid hz0; have hz1_i := Lib.hid hz1; have hz2_i := Lib.hid hz2; clear hi0 hz0 hz1 hz2
  have H_cur := Lib.hid (hC)
  clear hC
  have H_only := Lib.hid (only_refl w g)
  have hzw := H_only.out.size
  go_enter Try.func27, Try.ntmps27
  go_wp2_with fail
  generalize hX : (w.alloc (.cells #[] 3)) = w1
  have hb : Below w.heap.size w w1 := by rw [← hX]; exact balloc _ _
  have hown : w1.ownsRow w.heap.size 3 1 (.slice (some ⟨w.heap.size, 0, none⟩) 0 0) 0 (intV []) := by rw [← hX]; exact owns_at w w.heap.size 3 1 _ rfl (by omega)
  clear hX
  have kk := cur_bel H_cur.out hb; clear H_cur; have H_cur := Lib.hid kk; clear kk
  have kk := only_trans H_only.out (only_bel hb); clear H_only; have H_only := Lib.hid kk; clear kk
  have hmw1 := hb.size
  clear hb
  have hzw1 := H_only.out.size
  have H_ro := Lib.hid hown; clear hown
  go_loopw [5, 6] (fun ov iv wr => ∃ (k : Nat) (l : List Int) (gA c : Nat), k ≤ n ∧ iv = .int .i64 k ∧ l.length = k ∧ ov = .slice (some ⟨gA, 0, none⟩) k c ∧ wr.ownsRow w.heap.size 3 1 (.slice (some ⟨gA, 0, none⟩) k c) k (intV l) ∧ Cur wr B g ∧ Only w g wr) (fun _ iv _ => n - (intOf iv).toNat)
  case atStart => exact ⟨0, [], _, _, Nat.zero_le _, rfl, rfl, rfl, H_ro.out, H_cur.out, H_only.out⟩
  clear H_ro H_cur H_only
  case round =>
    obtain ⟨k, l, gA, c, hk, rfl, hl, rfl, hro, hcu, hon⟩ := hrel
    have HL := Lib.hid hl; clear hl
    have H_ro := Lib.hid (hro)
    clear hro
    have H_cur := Lib.hid (hcu)
    clear hcu
    have H_only := Lib.hid (hon)
    clear hon
    have hzwr := H_only.out.size
    by_cases hlt : k < n
    · skip
      go_wp2_with fail
      refine (below_any _ B g ((k : Int) + 1) (by omega) (by omega) H_cur.out).mono ?_
      rintro e w2 ⟨x, hx0, hx1, rfl, hC9, hO9⟩
      have kk := own_o7 H_ro.out hO9 (by omega); clear H_ro; have H_ro := Lib.hid kk; clear kk
      have kk := hC9; clear H_cur; have H_cur := Lib.hid kk; clear kk
      have kk := only_trans H_only.out hO9; clear H_only; have H_only := Lib.hid kk; clear kk
      have hmw2 := hO9.size
      clear hC9 hO9
      have hzw2 := H_only.out.size
      obtain ⟨p, rfl⟩ := Int.eq_ofNat_of_zero_le hx0
      go_wp2_with (at_builtin; go_must (refine list_app rfl _ _ 28 rfl (w.heap.size) 3 i0_i (.int .i64 0) 1 8 Try.underlying28 hi_i.out hz0_i.out hz1_i.out hz2_i.out rfl (by decide) _ k _ rfl (H_ro.out.alloc _) (some ⟨w2.heap.size, 0, none⟩) 1 1 [.int .i64 (k : Int)] rfl (src_one (has_new _ _ _)) (by unfold maxLen; omega) (by omega) (by simp; omega) ?_))
      intro aA ac w3 hown3 hgrow3 hrow3
      have kk := H_cur.out.alloc (by omega) (.cells #[.int .i64 (k : Int)] 3); clear H_cur; have H_cur := Lib.hid kk; clear kk
      have kk := only_trans H_only.out (only_alloc _ (.cells #[.int .i64 (k : Int)] 3)); clear H_only; have H_only := Lib.hid kk; clear kk
      have kk := cur_grow H_cur.out hgrow3 (fun b7 hb7 => by have h7 := (hrow3 b7 hb7).1; omega); clear H_cur; have H_cur := Lib.hid kk; clear kk
      have kk := only_grow H_only.out hgrow3 (fun b7 hb7 => by have h7 := (hrow3 b7 hb7).1; omega); clear H_only; have H_only := Lib.hid kk; clear kk
      have hmw3 : w2.heap.size ≤ w3.heap.size := Nat.le_trans (Nat.le_succ _) (by simpa using hgrow3.size)
      have hzw3 := H_only.out.size
      clear H_ro hgrow3 hrow3
      have hown4 : w3.ownsRow w.heap.size 3 1 (.slice aA (k + 1) ac) (k + 1) (intV (l ++ [(k : Int)])) := by simpa [intV] using hown3
      clear hown3
      obtain ⟨g3, rfl⟩ := own_some hown4 (by omega)
      have hLn : (l ++ [(k : Int)]).length = k + 1 := by simp [HL.out]
      obtain ⟨L2, hL2⟩ : ∃ L2, l ++ [(k : Int)] = L2 := ⟨_, rfl⟩
      rw [hL2] at hown4 hLn; clear hL2
      have hyp := List.getElem?_eq_getElem (l := L2) (i := p) (by omega)
      obtain ⟨y, hy⟩ : ∃ y, L2[p]'(by omega) = y := ⟨_, rfl⟩
      rw [hy] at hyp; clear hy
      have hcp := own_cell7 hown4 (intV_at hyp)
      obtain ⟨yk, hyk⟩ : ∃ yk, L2[k]? = some yk := ⟨_, List.getElem?_eq_getElem (by omega)⟩
      have hck := own_cell7 hown4 (intV_at hyk); clear hyk
      obtain ⟨hcp1, hcp2, hcp3⟩ := hcp; obtain ⟨hck1, hck2, _⟩ := hck
      have hst1 := hown4.stored k (.int .i64 y)
      rw [intV_set] at hst1
      have hst2 := hst1.1.stored p (.int .i64 (k : Int))
      rw [intV_set] at hst2
      have hba : w.heap.size ≤ g3 := (hown4.lt g3 rfl).1
      have HST1 := Lib.hid hst1; have HST2 := Lib.hid hst2; have HO4 := Lib.hid hown4; have HLN := Lib.hid hLn; clear hst1 hst2 hown4 hLn hyp
      have hcq : ∃ u, (w3.setCell ⟨g3, k, none⟩ (.int .i64 y)).cell? ⟨g3, p, none⟩ = some u := by
        have hh := own_cell7 HST1.out.1 (j := p) (u := _) (intV_at (List.getElem?_eq_getElem (by rw [List.length_set, HLN.out]; omega)))
        exact ⟨_, hh.1⟩
      obtain ⟨uq, huq⟩ := hcq
      go_wp2_with fail
      go_roundw
      case rel =>
        generalize hX : World.setCell _ _ _ = w9
        have hown9 : w9.ownsRow w.heap.size 3 1 (.slice (some ⟨g3, 0, none⟩) (k + 1) ac) (k + 1) (intV ((L2.set k y).set p (k : Int))) := by rw [← hX]; exact HST2.out.1
        have ho9 : Only w3 g3 w9 := by rw [← hX]; exact only_set (only_set (only_refl _ _) _ _) _ _
        clear hX
        exact ⟨k + 1, (L2.set k y).set p (k : Int), g3, ac, by omega, by go_num, by simp [HLN.out], rfl, hown9, cur_set H_cur.out ho9 (by omega) (by omega), only_set7 H_only.out ho9 hba⟩
      case measure => simp [intOf]; omega
    have hkn : k ≤ n := hk
    have hL6 : l.length ≤ 5 := by rw [HL.out]; omega
    by_cases hpos : 0 < k
    · skip
      have hposI : (0 : Int) < (k : Int) := by omega
      go_wp2_with fail
      refine (once_any _ B g 4 (by omega) (by omega) H_cur.out).mono ?_
      rintro e w2 ⟨fa, rfl, hC9, hO9⟩
      have kk := own_o7 H_ro.out hO9 (by omega); clear H_ro; have H_ro := Lib.hid kk; clear kk
      have kk := hC9; clear H_cur; have H_cur := Lib.hid kk; clear kk
      have kk := only_trans H_only.out hO9; clear H_only; have H_only := Lib.hid kk; clear kk
      have hmw2 := hO9.size
      clear hC9 hO9
      have hzw2 := H_only.out.size
      cases fa
      · skip
        go_wp2_with fail
        refine (once_any _ B g 14 (by omega) (by omega) H_cur.out).mono ?_
        rintro e w3 ⟨fb, rfl, hC9, hO9⟩
        have kk := own_o7 H_ro.out hO9 (by omega); clear H_ro; have H_ro := Lib.hid kk; clear kk
        have kk := hC9; clear H_cur; have H_cur := Lib.hid kk; clear kk
        have kk := only_trans H_only.out hO9; clear H_only; have H_only := Lib.hid kk; clear kk
        have hmw3 := hO9.size
        clear hC9 hO9
        have hzw3 := H_only.out.size
        cases fb
        · skip
          go_wp2_with fail
          go_ret
          exact ⟨_, _, l, ret_sl HL.out.symm, by rw [HL.out]; omega, by rw [HL.out]; exact (own_cap7 H_ro.out).1, (own_cap7 H_ro.out).2, by rw [HL.out]; exact H_ro.out, H_cur.out, H_only.out⟩
        · skip
          go_wp2_with fail
          generalize hX : (w3.alloc (.cells #[.int .i64 (-1), .int .i64 0, .int .i64 (n : Int)] 3)) = w4
          have hb : Below w3.heap.size w3 w4 := by rw [← hX]; exact balloc _ _
          have hk : Has w4 w3.heap.size 3 #[.int .i64 (-1), .int .i64 0, .int .i64 (n : Int)] := by rw [← hX]; exact has_new _ _ _
          clear hX
          have kk := own_call H_ro.out hb; clear H_ro; have H_ro := Lib.hid kk; clear kk
          have kk := cur_bel H_cur.out hb; clear H_cur; have H_cur := Lib.hid kk; clear kk
          have kk := only_trans H_only.out (only_bel hb); clear H_only; have H_only := Lib.hid kk; clear kk
          have hmw4 := hb.size
          clear hb
          have hzw4 := H_only.out.size
          have H_zl := Lib.hid hk; have hl_zl := has_lt hk; clear hk
          have zl9 := H_zl.out
          clear H_zl
          refine (pickInt_any _ B g (w3.heap.size) 3 _ (-1) 5 H_cur.out zl9 rfl (by omega) (by omega) (by omega) (by intro j hj; rcases j with _ | _ | _ | j; exact ⟨_, by decide, by decide, rfl⟩; exact ⟨_, by decide, by decide, rfl⟩; exact ⟨_, by omega, by omega, rfl⟩; omega)).mono ?_
          rintro e w5 ⟨z, hz0, hz1, rfl, hC9, hO9⟩
          have kk := own_o7 H_ro.out hO9 (by omega); clear H_ro; have H_ro := Lib.hid kk; clear kk
          have kk := hC9; clear H_cur; have H_cur := Lib.hid kk; clear kk
          have kk := only_trans H_only.out hO9; clear H_only; have H_only := Lib.hid kk; clear kk
          have hmw5 := hO9.size
          clear hC9 hO9
          have hzw5 := H_only.out.size
          clear zl9 hl_zl
          go_wp2_with (at_builtin; go_must (refine list_app rfl _ _ 28 rfl (w.heap.size) 3 i0_i (.int .i64 0) 1 8 Try.underlying28 hi_i.out hz0_i.out hz1_i.out hz2_i.out rfl (by decide) _ k _ rfl (H_ro.out.alloc _) (some ⟨w5.heap.size, 0, none⟩) 1 1 [.int .i64 z] rfl (src_one (has_new _ _ _)) (by unfold maxLen; omega) (by omega) (by simp; omega) ?_))
          intro aA ac w6 hown3 hgrow3 hrow3
          have kk := H_cur.out.alloc (by omega) (.cells #[.int .i64 z] 3); clear H_cur; have H_cur := Lib.hid kk; clear kk
          have kk := only_trans H_only.out (only_alloc _ (.cells #[.int .i64 z] 3)); clear H_only; have H_only := Lib.hid kk; clear kk
          have kk := cur_grow H_cur.out hgrow3 (fun b7 hb7 => by have h7 := (hrow3 b7 hb7).1; omega); clear H_cur; have H_cur := Lib.hid kk; clear kk
          have kk := only_grow H_only.out hgrow3 (fun b7 hb7 => by have h7 := (hrow3 b7 hb7).1; omega); clear H_only; have H_only := Lib.hid kk; clear kk
          have hmw6 : w5.heap.size ≤ w6.heap.size := Nat.le_trans (Nat.le_succ _) (by simpa using hgrow3.size)
          have hzw6 := H_only.out.size
          clear H_ro hgrow3 hrow3
          have H_ro := Lib.hid (show w6.ownsRow w.heap.size 3 1 (.slice aA (k + 1) ac) (k + 1) (intV (l ++ [z])) by simpa [intV] using hown3); clear hown3
          have hlz7 : (l ++ [z]).length = k + 1 := by simp [HL.out]
          have HLZ := Lib.hid hlz7; clear hlz7
          go_wp2_with fail
          go_ret
          exact ⟨_, _, l ++ [z], ret_sl HLZ.out.symm, by rw [HLZ.out]; omega, by rw [HLZ.out]; exact (own_cap7 H_ro.out).1, (own_cap7 H_ro.out).2, by rw [HLZ.out]; exact H_ro.out, H_cur.out, H_only.out⟩
      · skip
        go_wp2_with fail
        refine (below_any _ B g (k : Int) (by omega) (by omega) H_cur.out).mono ?_
        rintro e w3 ⟨x, hx0, hx1, rfl, hC9, hO9⟩
        have kk := own_o7 H_ro.out hO9 (by omega); clear H_ro; have H_ro := Lib.hid kk; clear kk
        have kk := hC9; clear H_cur; have H_cur := Lib.hid kk; clear kk
        have kk := only_trans H_only.out hO9; clear H_only; have H_only := Lib.hid kk; clear kk
        have hmw3 := hO9.size
        clear hC9 hO9
        have hzw3 := H_only.out.size
        obtain ⟨m, rfl⟩ := Int.eq_ofNat_of_zero_le hx0
        have hmk : m ≤ k := by omega
        have hcc := own_cap7 H_ro.out; obtain ⟨hcc1, hcc2⟩ := hcc; unfold maxLen at hcc2
        have kk := own_take7 H_ro.out hmk; clear H_ro
        rw [show (intV l).take m = intV (l.take m) by simp [intV, List.map_take]] at kk
        have H_ro := Lib.hid kk; clear kk
        have HLM := Lib.hid (show (l.take m).length = m by rw [List.length_take, HL.out]; omega)
        have hm5 : m ≤ 5 := by omega
        go_wp2_with fail
        refine (once_any _ B g 14 (by omega) (by omega) H_cur.out).mono ?_
        rintro e w4 ⟨fb, rfl, hC9, hO9⟩
        have kk := own_o7 H_ro.out hO9 (by omega); clear H_ro; have H_ro := Lib.hid kk; clear kk
        have kk := hC9; clear H_cur; have H_cur := Lib.hid kk; clear kk
        have kk := only_trans H_only.out hO9; clear H_only; have H_only := Lib.hid kk; clear kk
        have hmw4 := hO9.size
        clear hC9 hO9
        have hzw4 := H_only.out.size
        cases fb
        · skip
          go_wp2_with fail
          go_ret
          exact ⟨_, _, (l.take m), ret_sl HLM.out.symm, by rw [HLM.out]; omega, by rw [HLM.out]; exact (own_cap7 H_ro.out).1, (own_cap7 H_ro.out).2, by rw [HLM.out]; exact H_ro.out, H_cur.out, H_only.out⟩
        · skip
          go_wp2_with fail
          generalize hX : (w4.alloc (.cells #[.int .i64 (-1), .int .i64 0, .int .i64 (n : Int)] 3)) = w5
          have hb : Below w4.heap.size w4 w5 := by rw [← hX]; exact balloc _ _
          have hk : Has w5 w4.heap.size 3 #[.int .i64 (-1), .int .i64 0, .int .i64 (n : Int)] := by rw [← hX]; exact has_new _ _ _
          clear hX
          have kk := own_call H_ro.out hb; clear H_ro; have H_ro := Lib.hid kk; clear kk
          have kk := cur_bel H_cur.out hb; clear H_cur; have H_cur := Lib.hid kk; clear kk
          have kk := only_trans H_only.out (only_bel hb); clear H_only; have H_only := Lib.hid kk; clear kk
          have hmw5 := hb.size
          clear hb
          have hzw5 := H_only.out.size
          have H_zl := Lib.hid hk; have hl_zl := has_lt hk; clear hk
          have zl9 := H_zl.out
          clear H_zl
          refine (pickInt_any _ B g (w4.heap.size) 3 _ (-1) 5 H_cur.out zl9 rfl (by omega) (by omega) (by omega) (by intro j hj; rcases j with _ | _ | _ | j; exact ⟨_, by decide, by decide, rfl⟩; exact ⟨_, by decide, by decide, rfl⟩; exact ⟨_, by omega, by omega, rfl⟩; omega)).mono ?_
          rintro e w6 ⟨z, hz0, hz1, rfl, hC9, hO9⟩
          have kk := own_o7 H_ro.out hO9 (by omega); clear H_ro; have H_ro := Lib.hid kk; clear kk
          have kk := hC9; clear H_cur; have H_cur := Lib.hid kk; clear kk
          have kk := only_trans H_only.out hO9; clear H_only; have H_only := Lib.hid kk; clear kk
          have hmw6 := hO9.size
          clear hC9 hO9
          have hzw6 := H_only.out.size
          clear zl9 hl_zl
          go_wp2_with (at_builtin; go_must (refine list_app rfl _ _ 28 rfl (w.heap.size) 3 i0_i (.int .i64 0) 1 8 Try.underlying28 hi_i.out hz0_i.out hz1_i.out hz2_i.out rfl (by decide) _ m _ rfl (H_ro.out.alloc _) (some ⟨w6.heap.size, 0, none⟩) 1 1 [.int .i64 z] rfl (src_one (has_new _ _ _)) (by unfold maxLen; omega) (by omega) (by simp; omega) ?_))
          intro aA ac w7 hown3 hgrow3 hrow3
          have kk := H_cur.out.alloc (by omega) (.cells #[.int .i64 z] 3); clear H_cur; have H_cur := Lib.hid kk; clear kk
          have kk := only_trans H_only.out (only_alloc _ (.cells #[.int .i64 z] 3)); clear H_only; have H_only := Lib.hid kk; clear kk
          have kk := cur_grow H_cur.out hgrow3 (fun b7 hb7 => by have h7 := (hrow3 b7 hb7).1; omega); clear H_cur; have H_cur := Lib.hid kk; clear kk
          have kk := only_grow H_only.out hgrow3 (fun b7 hb7 => by have h7 := (hrow3 b7 hb7).1; omega); clear H_only; have H_only := Lib.hid kk; clear kk
          have hmw7 : w6.heap.size ≤ w7.heap.size := Nat.le_trans (Nat.le_succ _) (by simpa using hgrow3.size)
          have hzw7 := H_only.out.size
          clear H_ro hgrow3 hrow3
          have H_ro := Lib.hid (show w7.ownsRow w.heap.size 3 1 (.slice aA (m + 1) ac) (m + 1) (intV ((l.take m) ++ [z])) by simpa [intV] using hown3); clear hown3
          have hlz7 : ((l.take m) ++ [z]).length = m + 1 := by simp [HLM.out]
          have HLZ := Lib.hid hlz7; clear hlz7
          go_wp2_with fail
          go_ret
          exact ⟨_, _, (l.take m) ++ [z], ret_sl HLZ.out.symm, by rw [HLZ.out]; omega, by rw [HLZ.out]; exact (own_cap7 H_ro.out).1, (own_cap7 H_ro.out).2, by rw [HLZ.out]; exact H_ro.out, H_cur.out, H_only.out⟩
    · skip
      have hk0 : ¬ (0 : Int) < (k : Int) := by omega
      go_wp2_with fail
      refine (once_any _ B g 14 (by omega) (by omega) H_cur.out).mono ?_
      rintro e w2 ⟨fb, rfl, hC9, hO9⟩
      have kk := own_o7 H_ro.out hO9 (by omega); clear H_ro; have H_ro := Lib.hid kk; clear kk
      have kk := hC9; clear H_cur; have H_cur := Lib.hid kk; clear kk
      have kk := only_trans H_only.out hO9; clear H_only; have H_only := Lib.hid kk; clear kk
      have hmw2 := hO9.size
      clear hC9 hO9
      have hzw2 := H_only.out.size
      cases fb
      · skip
        go_wp2_with fail
        go_ret
        exact ⟨_, _, l, ret_sl HL.out.symm, by rw [HL.out]; omega, by rw [HL.out]; exact (own_cap7 H_ro.out).1, (own_cap7 H_ro.out).2, by rw [HL.out]; exact H_ro.out, H_cur.out, H_only.out⟩
      · skip
        go_wp2_with fail
        generalize hX : (w2.alloc (.cells #[.int .i64 (-1), .int .i64 0, .int .i64 (n : Int)] 3)) = w3
        have hb : Below w2.heap.size w2 w3 := by rw [← hX]; exact balloc _ _
        have hk : Has w3 w2.heap.size 3 #[.int .i64 (-1), .int .i64 0, .int .i64 (n : Int)] := by rw [← hX]; exact has_new _ _ _
        clear hX
        have kk := own_call H_ro.out hb; clear H_ro; have H_ro := Lib.hid kk; clear kk
        have kk := cur_bel H_cur.out hb; clear H_cur; have H_cur := Lib.hid kk; clear kk
        have kk := only_trans H_only.out (only_bel hb); clear H_only; have H_only := Lib.hid kk; clear kk
        have hmw3 := hb.size
        clear hb
        have hzw3 := H_only.out.size
        have H_zl := Lib.hid hk; have hl_zl := has_lt hk; clear hk
        have zl9 := H_zl.out
        clear H_zl
        refine (pickInt_any _ B g (w2.heap.size) 3 _ (-1) 5 H_cur.out zl9 rfl (by omega) (by omega) (by omega) (by intro j hj; rcases j with _ | _ | _ | j; exact ⟨_, by decide, by decide, rfl⟩; exact ⟨_, by decide, by decide, rfl⟩; exact ⟨_, by omega, by omega, rfl⟩; omega)).mono ?_
        rintro e w4 ⟨z, hz0, hz1, rfl, hC9, hO9⟩
        have kk := own_o7 H_ro.out hO9 (by omega); clear H_ro; have H_ro := Lib.hid kk; clear kk
        have kk := hC9; clear H_cur; have H_cur := Lib.hid kk; clear kk
        have kk := only_trans H_only.out hO9; clear H_only; have H_only := Lib.hid kk; clear kk
        have hmw4 := hO9.size
        clear hC9 hO9
        have hzw4 := H_only.out.size
        clear zl9 hl_zl
        go_wp2_with (at_builtin; go_must (refine list_app rfl _ _ 28 rfl (w.heap.size) 3 i0_i (.int .i64 0) 1 8 Try.underlying28 hi_i.out hz0_i.out hz1_i.out hz2_i.out rfl (by decide) _ k _ rfl (H_ro.out.alloc _) (some ⟨w4.heap.size, 0, none⟩) 1 1 [.int .i64 z] rfl (src_one (has_new _ _ _)) (by unfold maxLen; omega) (by omega) (by simp; omega) ?_))
        intro aA ac w5 hown3 hgrow3 hrow3
        have kk := H_cur.out.alloc (by omega) (.cells #[.int .i64 z] 3); clear H_cur; have H_cur := Lib.hid kk; clear kk
        have kk := only_trans H_only.out (only_alloc _ (.cells #[.int .i64 z] 3)); clear H_only; have H_only := Lib.hid kk; clear kk
        have kk := cur_grow H_cur.out hgrow3 (fun b7 hb7 => by have h7 := (hrow3 b7 hb7).1; omega); clear H_cur; have H_cur := Lib.hid kk; clear kk
        have kk := only_grow H_only.out hgrow3 (fun b7 hb7 => by have h7 := (hrow3 b7 hb7).1; omega); clear H_only; have H_only := Lib.hid kk; clear kk
        have hmw5 : w4.heap.size ≤ w5.heap.size := Nat.le_trans (Nat.le_succ _) (by simpa using hgrow3.size)
        have hzw5 := H_only.out.size
        clear H_ro hgrow3 hrow3
        have H_ro := Lib.hid (show w5.ownsRow w.heap.size 3 1 (.slice aA (k + 1) ac) (k + 1) (intV (l ++ [z])) by simpa [intV] using hown3); clear hown3
        have hlz7 : (l ++ [z]).length = k + 1 := by simp [HL.out]
        have HLZ := Lib.hid hlz7; clear hlz7
        go_wp2_with fail
        go_ret
        exact ⟨_, _, l ++ [z], ret_sl HLZ.out.symm, by rw [HLZ.out]; omega, by rw [HLZ.out]; exact (own_cap7 H_ro.out).1, (own_cap7 H_ro.out).2, by rw [HLZ.out]; exact H_ro.out, H_cur.out, H_only.out⟩
end Go.Proofs.Ytmaclochdmndkaa
