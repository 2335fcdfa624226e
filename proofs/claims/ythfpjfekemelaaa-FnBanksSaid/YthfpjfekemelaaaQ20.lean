/- Chapter 2: a column that may be anything (gen_danc.py). -/
import Derived.Test.YthfpjfekemelaaaQ19
import Derived.Test.YthfpjfekemelaaaQ10
import Derived.Deep.DeepMust
namespace Go.Proofs.Ythfpjfekemelaaa
open Go.RowKit
set_option linter.unusedVariables false
theorem has_neC {w : World} {a b : Nat} {s t : TypeId} {x y : Array Value} (h : Has w a s x) (k : Has w b t y) (hne : s ≠ t) : ¬ a = b := fun e => by
  subst e
  have := h.symm.trans k
  injection this with this; injection this with _ this _
  exact hne this
theorem or_neC {w : World} {base : Nat} {e : TypeId} {A : Option Addr} {L : List Bx} (h : OR w base e A (boxV L)) (hl : 1 ≤ L.length) : ∃ b cur, A = some ⟨b, 0, none⟩ ∧ base ≤ b ∧ Has w b e cur := by
  rcases h with h | ⟨b, cur, rfl, hb, hh, _⟩
  · have := boxV_nil h; subst this; simp at hl
  · exact ⟨b, cur, rfl, hb, hh⟩
theorem or_setC {w : World} {base b : Nat} {e : TypeId} {L : List Bx} {j i : Nat} {x y : Bx} {v : Value} (h : OR w base e (some ⟨b, 0, none⟩) (boxV L)) (hx : L[j]? = some x) (hi : i < 4) (hy : boxC y = (boxC x).set i v) :
    (∃ cur, Has w b e cur) ∧ (∃ u, w.cell? ⟨b, j * 4 + i, none⟩ = some u) ∧ w.frozen? ⟨b, j * 4 + i, none⟩ = false ∧ OR (w.setCell ⟨b, j * 4 + i, none⟩ v) base e (some ⟨b, 0, none⟩) (boxV (L.set j y)) := by
  obtain ⟨g, cur, hA, _, hh, hu, hf, ho⟩ := or_set h hx hi hy
  injection hA with hA; injection hA with hA
  subst hA
  exact ⟨⟨cur, hh⟩, hu, hf, ho⟩
theorem oq_own {w : World} {base n : Nat} {e : TypeId} {A : Option Addr} {xs : List Value} (h : OQ n w base e A xs) : w.ownsRow base e 1 (.slice A xs.length n) xs.length xs := h
theorem oq_ownI {w : World} {base n : Nat} {e : TypeId} {A : Option Addr} {l : List Int} (h : OQ n w base e A (intV l)) : w.ownsRow base e 1 (.slice A l.length n) l.length (intV l) := by
  have h2 := oq_own h
  rw [intV_len] at h2
  exact h2
theorem intV_snocC (l : List Int) (x : Int) : intV (l ++ [x]) = intV l ++ [.int .i64 x] := by simp [intV]
theorem cur_grown0 {w w' : World} {B g : Nat} {row : Option Nat} (h : Cur w B g) (hgrow : w.grownBy w' row) (hrow : ∀ b, row = some b → g < b) : Cur w' B g := by
  obtain ⟨A, n, c, i, hh, hH, hS, hn, h0, h1, hg⟩ := h
  have hlt := has_lt hH
  have key : ∀ k, k ≤ g → w'.heap[k]? = w.heap[k]? := fun k hk => hgrow.block k (by omega) (fun e => by have := hrow k e.symm; omega)
  exact ⟨A, n, c, i, hh, (key g (Nat.le_refl _)).trans hH, hS.kept fun p hp => World.cell?_of_block (key p.block (by omega)), hn, h0, h1, hg⟩
def AnyP (z : Int) (F : List Int) (L : List Bx) : Prop := F.length ≤ 2 ∧ L.length ≤ 24

set_option maxRecDepth 100000 in
set_option maxHeartbeats 16000000 in
theorem anyC_any (w : World) (B g : Nat) (hC : Cur w B g) : Calls Try.prog 50 #[.pointer (some ⟨g, 0, none⟩)] w (DrawnCol AnyP w B g) := by
  have hlt := hC.lt; obtain ⟨hB, hg⟩ := hlt
  obtain ⟨i0, hi0, hz0, hz1, hz2⟩ := info_parts intInfo
  have I0 := Lib.hid hi0; have Z0 := Lib.hid hz0; have Z1 := Lib.hid hz1; have Z2 := Lib.hid hz2; clear hi0 hz0 hz1 hz2
  have HC := Lib.hid hC; clear hC
  have HO := Lib.hid (only_refl w g)
  have hsw := HO.out.size
  go_enter Try.func50, Try.ntmps50
  go_wp2_with fail
  generalize hX : (w.alloc (.cells #[.int .i64 0, .slice none 0 0, .slice none 0 0] 57)) = w1
  have hb : Below w.heap.size w w1 := by rw [← hX]; exact balloc _ _
  have hk : Has w1 w.heap.size 57 #[.int .i64 0, .slice none 0 0, .slice none 0 0] := by rw [← hX]; exact has_new _ _ _
  clear hX
  have hmw1 := hb.size
  have kk := HC.out.belC hb; clear HC; have HC := Lib.hid kk; clear kk
  have kk := only_trans HO.out (only_belC (g := g) hb); clear HO; have HO := Lib.hid kk; clear kk hb
  have hsw1 := HO.out.size
  have zr := hk; clear hk; have hlzr := has_lt zr
  refine (colD_any _ B g 1 (by omega) (by omega) HC.out).mono ?_
  rintro e w2 ⟨z, F, L, A, A', n, n', rfl, hV, or1, or2, hC9, hO9⟩
  replace zr := has_only zr hO9 (by omega)
  have hmw2 := hO9.size
  have kk := only_trans HO.out hO9; clear HO; have HO := Lib.hid kk; clear kk
  clear HC; have HC := Lib.hid hC9; clear hC9 hO9
  have hsw2 := HO.out.size
  have RF := Lib.hid (or1.more (show w.heap.size ≤ w1.heap.size by omega)); have RL := Lib.hid (or2.more (show w.heap.size ≤ w1.heap.size by omega)); clear or1 or2
  obtain ⟨hl1, hl2, hl3, hl4⟩ := cvd_len hV; have hl5 := hV.2.1; clear hV
  obtain ⟨b, curb, hAb, hbb, hhb⟩ := or_neC RL.out hl2; subst hAb; clear hhb curb
  have zrc0 := has_cell zr 0 rfl; have zrc1 := has_cell zr 1 rfl; have zrc2 := has_cell zr 2 rfl
  have zrlt := has_lt zr
  have ZRH := Lib.hid zr; clear zr
  go_wp2_with fail
  clear zrc0 zrc1 zrc2 zrlt
  have zr := ZRH.out; clear ZRH
  generalize hX : (w2.alloc (.cells #[.int .i64 z, .slice A F.length n, .slice (some ⟨b, 0, none⟩) L.length n'] 57)) = w3
  have hb : Below w2.heap.size w2 w3 := by rw [← hX]; exact balloc _ _
  have hk : Has w3 w2.heap.size 57 #[.int .i64 z, .slice A F.length n, .slice (some ⟨b, 0, none⟩) L.length n'] := by rw [← hX]; exact has_new _ _ _
  clear hX
  replace zr := has_call zr hb
  have kk := OQ.below RF.out hb; clear RF; have RF := Lib.hid kk; clear kk
  have kk := OR.below RL.out hb; clear RL; have RL := Lib.hid kk; clear kk
  have hmw3 := hb.size
  have kk := HC.out.belC hb; clear HC; have HC := Lib.hid kk; clear kk
  have kk := only_trans HO.out (only_belC (g := g) hb); clear HO; have HO := Lib.hid kk; clear kk hb
  have hsw3 := HO.out.size
  have zx := hk; clear hk; have hlzx := has_lt zx
  refine (below_any _ B g (L.length : Int) (by omega) (by omega) HC.out).mono ?_
  rintro e w4 ⟨x7, hx70, hx71, rfl, hC9, hO9⟩
  replace zr := has_only zr hO9 (by omega)
  replace zx := has_only zx hO9 (by omega)
  have kk := oq_only RF.out hO9 (by omega); clear RF; have RF := Lib.hid kk; clear kk
  have kk := or_only RL.out hO9 (by omega); clear RL; have RL := Lib.hid kk; clear kk
  have hmw4 := hO9.size
  have kk := only_trans HO.out hO9; clear HO; have HO := Lib.hid kk; clear kk
  clear HC; have HC := Lib.hid hC9; clear hC9 hO9
  have hsw4 := HO.out.size
  obtain ⟨k, hk7⟩ := Int.eq_ofNat_of_zero_le hx70; subst hk7
  have hk : k < L.length := by omega
  obtain ⟨y, hy⟩ : ∃ y, L[k]? = some y := ⟨_, List.getElem?_eq_getElem hk⟩
  have HY := Lib.hid hy; clear hy
  have hbx : b < w4.heap.size ∧ ¬ b = w2.heap.size ∧ ¬ b = w.heap.size := by
    obtain ⟨⟨cb, hcb⟩, _⟩ := or_setC (i := 1) (v := .int .i64 0) (y := ⟨y.low, 0, y.par, y.jam⟩) RL.out HY.out (by omega) rfl
    exact ⟨has_lt hcb, has_neC hcb zx (by decide), has_neC hcb zr (by decide)⟩
  obtain ⟨hbl, hb1, hb2⟩ := hbx
  have hb3 := Ne.symm hb1; have hb4 := Ne.symm hb2
  have hne1 : ¬ w.heap.size = w2.heap.size := (by omega); have hne2 : ¬ w2.heap.size = w.heap.size := (by omega)
  have zrc0 := has_cell zr 0 rfl; have zrc1 := has_cell zr 1 rfl; have zrc2 := has_cell zr 2 rfl
  have zrlt := has_lt zr
  have zxc0 := has_cell zx 0 rfl; have zxc1 := has_cell zx 1 rfl; have zxc2 := has_cell zx 2 rfl
  have zxlt := has_lt zx
  have ZRH := Lib.hid zr; clear zr
  have ZXH := Lib.hid zx; clear zx
  go_wp2_with fail
  clear zrc0 zrc1 zrc2 zrlt zxc0 zxc1 zxc2 zxlt
  have zr := ZRH.out; clear ZRH
  have zx := ZXH.out; clear ZXH
  refine (below_any _ B g 14 (by omega) (by omega) HC.out).mono ?_
  rintro e w5 ⟨x0, hx00, hx01, rfl, hC9, hO9⟩
  replace zr := has_only zr hO9 (by omega)
  replace zx := has_only zx hO9 (by omega)
  have kk := oq_only RF.out hO9 (by omega); clear RF; have RF := Lib.hid kk; clear kk
  have kk := or_only RL.out hO9 (by omega); clear RL; have RL := Lib.hid kk; clear kk
  have hmw5 := hO9.size
  have kk := only_trans HO.out hO9; clear HO; have HO := Lib.hid kk; clear kk
  clear HC; have HC := Lib.hid hC9; clear hC9 hO9
  have hsw5 := HO.out.size
  have hcs : x0 = 0 ∨ x0 = 1 ∨ x0 = 2 ∨ x0 = 3 ∨ x0 = 4 ∨ 5 ≤ x0 := by omega
  rcases hcs with rfl | rfl | rfl | rfl | rfl | hcs
  · skip
    have zrc0 := has_cell zr 0 rfl; have zrc1 := has_cell zr 1 rfl; have zrc2 := has_cell zr 2 rfl
    have zrlt := has_lt zr
    have zxc0 := has_cell zx 0 rfl; have zxc1 := has_cell zx 1 rfl; have zxc2 := has_cell zx 2 rfl
    have zxlt := has_lt zx
    have ZRH := Lib.hid zr; clear zr
    have ZXH := Lib.hid zx; clear zx
    go_wp2_with fail
    clear zrc0 zrc1 zrc2 zrlt zxc0 zxc1 zxc2 zxlt
    have zr := ZRH.out; clear ZRH
    have zx := ZXH.out; clear ZXH
    generalize hX : (w5.alloc (.cells #[.int .i64 0, .int .i64 24, .int .i64 25, .int .i64 (z + 1)] 3)) = w6
    have hb : Below w5.heap.size w5 w6 := by rw [← hX]; exact balloc _ _
    have hk : Has w6 w5.heap.size 3 #[.int .i64 0, .int .i64 24, .int .i64 25, .int .i64 (z + 1)] := by rw [← hX]; exact has_new _ _ _
    clear hX
    replace zr := has_call zr hb
    replace zx := has_call zx hb
    have kk := OQ.below RF.out hb; clear RF; have RF := Lib.hid kk; clear kk
    have kk := OR.below RL.out hb; clear RL; have RL := Lib.hid kk; clear kk
    have hmw6 := hb.size
    have kk := HC.out.belC hb; clear HC; have HC := Lib.hid kk; clear kk
    have kk := only_trans HO.out (only_belC (g := g) hb); clear HO; have HO := Lib.hid kk; clear kk hb
    have hsw6 := HO.out.size
    have zl := hk; clear hk; have hlzl := has_lt zl
    refine (pickInt_any _ B g (w5.heap.size) 4 _ 0 25 HC.out zl rfl (by omega) (by omega) (by omega) (by intro j hj; rcases j with _ | _ | _ | _ | j; exact ⟨_, by omega, by omega, rfl⟩; exact ⟨_, by omega, by omega, rfl⟩; exact ⟨_, by omega, by omega, rfl⟩; exact ⟨_, by omega, by omega, rfl⟩; omega)).mono ?_
    rintro e w7 ⟨x9, hx90, hx91, rfl, hC9, hO9⟩
    replace zr := has_only zr hO9 (by omega)
    replace zx := has_only zx hO9 (by omega)
    have kk := oq_only RF.out hO9 (by omega); clear RF; have RF := Lib.hid kk; clear kk
    have kk := or_only RL.out hO9 (by omega); clear RL; have RL := Lib.hid kk; clear kk
    have hmw7 := hO9.size
    have kk := only_trans HO.out hO9; clear HO; have HO := Lib.hid kk; clear kk
    clear HC; have HC := Lib.hid hC9; clear hC9 hO9
    have hsw7 := HO.out.size
    clear zl hlzl
    have zxc0 := has_cell zx 0 rfl; have zxf0 := has_free zx 0
    have zw9 : Has (w7.setCell ⟨w2.heap.size, 0, none⟩ (.int .i64 x9)) (w2.heap.size) 57 #[.int .i64 x9, .slice A F.length n, .slice (some ⟨b, 0, none⟩) L.length n'] := by simpa using has_set zx 0 (.int .i64 x9)
    have zr9 : Has (w7.setCell ⟨w2.heap.size, 0, none⟩ (.int .i64 x9)) (w.heap.size) 57 #[.int .i64 0, .slice none 0 0, .slice none 0 0] := has_far zr (p := ⟨w2.heap.size, 0, none⟩) hne1 _
    have c9 := Lib.hid (HC.out.setC (k := w2.heap.size) (by omega) (by omega) 0 (.int .i64 x9)); have o9 := Lib.hid (only_setC HO.out (k := w2.heap.size) (by omega) 0 (.int .i64 x9)); have rf9 := Lib.hid (OQ.set_other RF.out zx (by decide) 0 (.int .i64 x9)); have rl9 := Lib.hid (OR.set_other RL.out zx (by decide) 0 (.int .i64 x9))
    clear zr zx
    have X1 := Lib.hid (set3 (u := .int .i64 x9) (v := .slice A F.length n) (x := .slice (some ⟨b, 0, none⟩) L.length n') zr9)
    have zz0 := has_cell zr9 0 rfl; have zf0 := has_free zr9 0; have zq0 := has_cell zw9 0 rfl; have zz1 := has_cell zr9 1 rfl; have zf1 := has_free zr9 1; have zq1 := has_cell zw9 1 rfl; have zz2 := has_cell zr9 2 rfl; have zf2 := has_free zr9 2; have zq2 := has_cell zw9 2 rfl
    have ZR9 := Lib.hid zr9
    clear zr9
    clear zw9
    go_wp2_with fail
    have g0 := has_cell X1.out 0 rfl; have g1 := has_cell X1.out 1 rfl; have g2 := has_cell X1.out 2 rfl
    refine bodyPost_ret (v := .agg #[.int .i64 x9, .slice A F.length n, .slice (some ⟨b, 0, none⟩) L.length n']) (by simp [results, Try.results50, go_sem, g0, g1, g2]) rfl ⟨_, F, L, A, (some ⟨b, 0, none⟩), n, n', rfl, ⟨by omega, by omega⟩, oq_set3 (rf9.out) ZR9.out (by decide) _ _ _, or_set3 (rl9.out) ZR9.out (by decide) _ _ _, cur3 (c9.out) (by omega) (by omega) _ _ _, only3 (o9.out) (by omega) _ _ _⟩
  · skip
    have S0 : (fun W : World => (W.cell? ⟨w2.heap.size, 2, none⟩ = some (.slice (some ⟨b, 0, none⟩) L.length n'))) w5.drew := has_cell zx 2 rfl
    have hkk0 : (0 : Int) ≤ (k : Int) := by omega
    have hkk1 : (k : Int) < (L.length : Int) := by omega
    have zrc0 := has_cell zr 0 rfl; have zrc1 := has_cell zr 1 rfl; have zrc2 := has_cell zr 2 rfl
    have zrlt := has_lt zr
    have zxc0 := has_cell zx 0 rfl; have zxc1 := has_cell zx 1 rfl; have zxc2 := has_cell zx 2 rfl
    have zxlt := has_lt zx
    have ZRH := Lib.hid zr; clear zr
    have ZXH := Lib.hid zx; clear zx
    try go_wp2_with fail
    clear zrc0 zrc1 zrc2 zrlt zxc0 zxc1 zxc2 zxlt
    refine wp_region_held_drew (S := (fun W : World => (W.cell? ⟨w2.heap.size, 2, none⟩ = some (.slice (some ⟨b, 0, none⟩) L.length n')))) (by kernel_rfl) S0 (fun _ => ?_)
    refine any_take (i := 0) (some 25) (.pointer (some ⟨w2.heap.size, 2, none⟩)) rfl rfl (by kernel_rfl) (by kernel_rfl) (by kernel_rfl) (fun _ _ _ h => h) rfl (fun W hSw => ?_) (S0) ?_
    · (try dsimp only at hSw); go_simp <;> with_reducible rfl
    try simp only [Act.put, List.setIfInBounds_toArray, List.set_cons_zero, List.set_cons_succ]
    refine any_take (i := 1) (some 26) (.slice (some ⟨b, 0, none⟩) L.length n') rfl rfl (by kernel_rfl) (by kernel_rfl) (by kernel_rfl) (fun _ _ _ h => h) rfl (fun W hSw => ?_) (S0) ?_
    · (try dsimp only at hSw); go_simp <;> with_reducible rfl
    try simp only [Act.put, List.setIfInBounds_toArray, List.set_cons_zero, List.set_cons_succ]
    refine any_take (i := 2) (some 27) (.int .i64 (k : Int)) rfl rfl (by kernel_rfl) (by kernel_rfl) (by kernel_rfl) (fun _ _ _ h => h) rfl (fun W hSw => ?_) (S0) ?_
    · (try dsimp only at hSw); go_simp <;> with_reducible rfl
    try simp only [Act.put, List.setIfInBounds_toArray, List.set_cons_zero, List.set_cons_succ]
    refine any_take (i := 3) (some 28) (.pointer (some ⟨g, 0, none⟩)) rfl rfl (by kernel_rfl) (by kernel_rfl) (by kernel_rfl) (fun _ _ _ h => h) rfl (fun W hSw => ?_) (S0) ?_
    · (try dsimp only at hSw); go_simp <;> with_reducible rfl
    try simp only [Act.put, List.setIfInBounds_toArray, List.set_cons_zero, List.set_cons_succ]
    have zr := ZRH.out; clear ZRH
    have zx := ZXH.out; clear ZXH
    refine wpAnyH_ready (rs := [4]) (by kernel_rfl) (by simp) ?_
    refine AllReadyH.cons rfl (fun K hK => ?_) AllReadyH.nil
    go_simp
    generalize hX : (w5.alloc (.cells #[.int .i64 (-1), .int .i64 0, .int .i64 1, .int .i64 9223372036854775807] 3)) = w6
    have hb : Below w5.heap.size w5 w6 := by rw [← hX]; exact balloc _ _
    have hk : Has w6 w5.heap.size 3 #[.int .i64 (-1), .int .i64 0, .int .i64 1, .int .i64 9223372036854775807] := by rw [← hX]; exact has_new _ _ _
    clear hX
    replace zr := has_call zr hb
    replace zx := has_call zx hb
    have kk := OQ.below RF.out hb; clear RF; have RF := Lib.hid kk; clear kk
    have kk := OR.below RL.out hb; clear RL; have RL := Lib.hid kk; clear kk
    have hmw6 := hb.size
    have kk := HC.out.belC hb; clear HC; have HC := Lib.hid kk; clear kk
    have kk := only_trans HO.out (only_belC (g := g) hb); clear HO; have HO := Lib.hid kk; clear kk hb
    have hsw6 := HO.out.size
    have zl := hk; clear hk; have hlzl := has_lt zl
    have hb : Below w6.heap.size w6 w6.drew := (Below.refl _ _).drew
    replace zr := has_call zr hb
    replace zx := has_call zx hb
    replace zl := has_call zl hb
    have kk := OQ.below RF.out hb; clear RF; have RF := Lib.hid kk; clear kk
    have kk := OR.below RL.out hb; clear RL; have RL := Lib.hid kk; clear kk
    have hmw6.drew := hb.size
    have kk := HC.out.belC hb; clear HC; have HC := Lib.hid kk; clear kk
    have kk := only_trans HO.out (only_belC (g := g) hb); clear HO; have HO := Lib.hid kk; clear kk hb
    have hsw6.drew := HO.out.size
    refine hK.out _ _ (show (fun W : World => (W.cell? ⟨w2.heap.size, 2, none⟩ = some (.slice (some ⟨b, 0, none⟩) L.length n'))) _ from has_cell zx 2 rfl) (fun _ => ?_)
    clear hK K
    try simp only [Act.put, List.setIfInBounds_toArray, List.set_cons_zero, List.set_cons_succ]
    refine wpAnyH_ready (rs := [5]) (by kernel_rfl) (by simp) ?_
    refine AllReadyH.cons rfl (fun K hK => ?_) AllReadyH.nil
    go_simp
    go_at_call 25
    refine (pickInt_any _ B g (w5.heap.size) 4 _ (-1) 9223372036854775807 HC.out zl rfl (by omega) (by omega) (by omega) (by intro j hj; rcases j with _ | _ | _ | _ | j; exact ⟨_, by omega, by omega, rfl⟩; exact ⟨_, by omega, by omega, rfl⟩; exact ⟨_, by omega, by omega, rfl⟩; exact ⟨_, by omega, by omega, rfl⟩; omega)).mono ?_
    rintro e w7 ⟨x9, hx90, hx91, rfl, hC9, hO9⟩
    replace zr := has_only zr hO9 (by omega)
    replace zx := has_only zx hO9 (by omega)
    have kk := oq_only RF.out hO9 (by omega); clear RF; have RF := Lib.hid kk; clear kk
    have kk := or_only RL.out hO9 (by omega); clear RL; have RL := Lib.hid kk; clear kk
    have hmw7 := hO9.size
    have kk := only_trans HO.out hO9; clear HO; have HO := Lib.hid kk; clear kk
    clear HC; have HC := Lib.hid hC9; clear hC9 hO9
    have hsw7 := HO.out.size
    clear zl hlzl
    go_wp2_with fail
    refine hK.out _ _ (show (fun W : World => (W.cell? ⟨w2.heap.size, 2, none⟩ = some (.slice (some ⟨b, 0, none⟩) L.length n'))) _ from has_cell zx 2 rfl) (fun _ => ?_)
    clear hK K
    try simp only [Act.put, List.setIfInBounds_toArray, List.set_cons_zero, List.set_cons_succ]
    refine any_take (i := 6) (some 31) (.pointer (some ⟨b, k * 4, none⟩)) rfl rfl (by kernel_rfl) (by kernel_rfl) (by kernel_rfl) (fun _ _ _ h => h) rfl (fun W hSw => ?_) ((show (fun W : World => (W.cell? ⟨w2.heap.size, 2, none⟩ = some (.slice (some ⟨b, 0, none⟩) L.length n'))) w7 from has_cell zx 2 rfl)) ?_
    · (try dsimp only at hSw); go_simp <;> with_reducible rfl
    try simp only [Act.put, List.setIfInBounds_toArray, List.set_cons_zero, List.set_cons_succ]
    refine any_take (i := 7) (some 32) (.pointer (some ⟨b, k * 4 + 1, none⟩)) rfl rfl (by kernel_rfl) (by kernel_rfl) (by kernel_rfl) (fun _ _ _ h => h) rfl (fun W hSw => ?_) ((show (fun W : World => (W.cell? ⟨w2.heap.size, 2, none⟩ = some (.slice (some ⟨b, 0, none⟩) L.length n'))) w7 from has_cell zx 2 rfl)) ?_
    · (try dsimp only at hSw); go_simp <;> with_reducible rfl
    try simp only [Act.put, List.setIfInBounds_toArray, List.set_cons_zero, List.set_cons_succ]
    obtain ⟨⟨cb, hcb⟩, ⟨cv, hcv⟩, hfz, ro9⟩ := or_setC (i := 1) (v := .int .i64 x9) (y := ⟨y.low, x9, y.par, y.jam⟩) RL.out HY.out (by omega) rfl
    refine wpAnyH_ready (rs := [8]) (by kernel_rfl) (by simp) ?_
    refine AllReadyH.cons rfl (fun K hK => ?_) AllReadyH.nil
    go_simp
    have zw9 : Has (w7.setCell ⟨b, k * 4 + 1, none⟩ (.int .i64 x9)) (w2.heap.size) 57 #[.int .i64 z, .slice A F.length n, .slice (some ⟨b, 0, none⟩) L.length n'] := has_far zx (p := ⟨b, k * 4 + 1, none⟩) hb3 _
    have zr9 : Has (w7.setCell ⟨b, k * 4 + 1, none⟩ (.int .i64 x9)) (w.heap.size) 57 #[.int .i64 0, .slice none 0 0, .slice none 0 0] := has_far zr (p := ⟨b, k * 4 + 1, none⟩) hb4 _
    refine hK.out _ _ (show (fun W : World => (W.cell? ⟨w2.heap.size, 2, none⟩ = some (.slice (some ⟨b, 0, none⟩) L.length n'))) _ from has_cell zw9 2 rfl) (fun _ => ?_)
    clear hK K
    try simp only [Act.put, List.setIfInBounds_toArray, List.set_cons_zero, List.set_cons_succ]
    refine wpAnyH_done (by kernel_rfl) ?_ _
    have rf9 := Lib.hid (OQ.set_other RF.out hcb (by decide) (k * 4 + 1) (.int .i64 x9))
    have c9 := Lib.hid (HC.out.setC (k := b) (by omega) (by omega) (k * 4 + 1) (.int .i64 x9)); have o9 := Lib.hid (only_setC HO.out (k := b) (by omega) (k * 4 + 1) (.int .i64 x9)); have RO9 := Lib.hid ro9
    clear zr zx hcv hfz ro9 hcb
    have X1 := Lib.hid (set3 (u := .int .i64 z) (v := .slice A F.length n) (x := .slice (some ⟨b, 0, none⟩) L.length n') zr9)
    have zz0 := has_cell zr9 0 rfl; have zf0 := has_free zr9 0; have zq0 := has_cell zw9 0 rfl; have zz1 := has_cell zr9 1 rfl; have zf1 := has_free zr9 1; have zq1 := has_cell zw9 1 rfl; have zz2 := has_cell zr9 2 rfl; have zf2 := has_free zr9 2; have zq2 := has_cell zw9 2 rfl
    have ZR9 := Lib.hid zr9
    clear zr9
    clear zw9
    go_wp2_with fail
    have g0 := has_cell X1.out 0 rfl; have g1 := has_cell X1.out 1 rfl; have g2 := has_cell X1.out 2 rfl
    refine bodyPost_ret (v := .agg #[.int .i64 z, .slice A F.length n, .slice (some ⟨b, 0, none⟩) L.length n']) (by simp [results, Try.results50, go_sem, g0, g1, g2]) rfl ⟨_, F, L.set k ⟨y.low, x9, y.par, y.jam⟩, A, (some ⟨b, 0, none⟩), n, n', by rw [List.length_set], ⟨by omega, by rw [List.length_set]; omega⟩, oq_set3 (rf9.out) ZR9.out (by decide) _ _ _, or_set3 (RO9.out) ZR9.out (by decide) _ _ _, cur3 (c9.out) (by omega) (by omega) _ _ _, only3 (o9.out) (by omega) _ _ _⟩
  · skip
    have S0 : (fun W : World => (W.cell? ⟨w2.heap.size, 2, none⟩ = some (.slice (some ⟨b, 0, none⟩) L.length n'))) w5.drew := has_cell zx 2 rfl
    have hkk0 : (0 : Int) ≤ (k : Int) := by omega
    have hkk1 : (k : Int) < (L.length : Int) := by omega
    have zrc0 := has_cell zr 0 rfl; have zrc1 := has_cell zr 1 rfl; have zrc2 := has_cell zr 2 rfl
    have zrlt := has_lt zr
    have zxc0 := has_cell zx 0 rfl; have zxc1 := has_cell zx 1 rfl; have zxc2 := has_cell zx 2 rfl
    have zxlt := has_lt zx
    have ZRH := Lib.hid zr; clear zr
    have ZXH := Lib.hid zx; clear zx
    try go_wp2_with fail
    clear zrc0 zrc1 zrc2 zrlt zxc0 zxc1 zxc2 zxlt
    refine wp_region_held_drew (S := (fun W : World => (W.cell? ⟨w2.heap.size, 2, none⟩ = some (.slice (some ⟨b, 0, none⟩) L.length n')))) (by kernel_rfl) S0 (fun _ => ?_)
    refine any_take (i := 0) (some 35) (.pointer (some ⟨w2.heap.size, 2, none⟩)) rfl rfl (by kernel_rfl) (by kernel_rfl) (by kernel_rfl) (fun _ _ _ h => h) rfl (fun W hSw => ?_) (S0) ?_
    · (try dsimp only at hSw); go_simp <;> with_reducible rfl
    try simp only [Act.put, List.setIfInBounds_toArray, List.set_cons_zero, List.set_cons_succ]
    refine any_take (i := 1) (some 36) (.slice (some ⟨b, 0, none⟩) L.length n') rfl rfl (by kernel_rfl) (by kernel_rfl) (by kernel_rfl) (fun _ _ _ h => h) rfl (fun W hSw => ?_) (S0) ?_
    · (try dsimp only at hSw); go_simp <;> with_reducible rfl
    try simp only [Act.put, List.setIfInBounds_toArray, List.set_cons_zero, List.set_cons_succ]
    refine any_take (i := 2) (some 37) (.int .i64 (k : Int)) rfl rfl (by kernel_rfl) (by kernel_rfl) (by kernel_rfl) (fun _ _ _ h => h) rfl (fun W hSw => ?_) (S0) ?_
    · (try dsimp only at hSw); go_simp <;> with_reducible rfl
    try simp only [Act.put, List.setIfInBounds_toArray, List.set_cons_zero, List.set_cons_succ]
    refine any_take (i := 3) (some 38) (.pointer (some ⟨g, 0, none⟩)) rfl rfl (by kernel_rfl) (by kernel_rfl) (by kernel_rfl) (fun _ _ _ h => h) rfl (fun W hSw => ?_) (S0) ?_
    · (try dsimp only at hSw); go_simp <;> with_reducible rfl
    try simp only [Act.put, List.setIfInBounds_toArray, List.set_cons_zero, List.set_cons_succ]
    have zr := ZRH.out; clear ZRH
    have zx := ZXH.out; clear ZXH
    refine wpAnyH_ready (rs := [4]) (by kernel_rfl) (by simp) ?_
    refine AllReadyH.cons rfl (fun K hK => ?_) AllReadyH.nil
    go_simp
    generalize hX : (w5.alloc (.cells #[.int .i64 (-1), .int .i64 1, .int .i64 999, .int .i64 1000] 3)) = w6
    have hb : Below w5.heap.size w5 w6 := by rw [← hX]; exact balloc _ _
    have hk : Has w6 w5.heap.size 3 #[.int .i64 (-1), .int .i64 1, .int .i64 999, .int .i64 1000] := by rw [← hX]; exact has_new _ _ _
    clear hX
    replace zr := has_call zr hb
    replace zx := has_call zx hb
    have kk := OQ.below RF.out hb; clear RF; have RF := Lib.hid kk; clear kk
    have kk := OR.below RL.out hb; clear RL; have RL := Lib.hid kk; clear kk
    have hmw6 := hb.size
    have kk := HC.out.belC hb; clear HC; have HC := Lib.hid kk; clear kk
    have kk := only_trans HO.out (only_belC (g := g) hb); clear HO; have HO := Lib.hid kk; clear kk hb
    have hsw6 := HO.out.size
    have zl := hk; clear hk; have hlzl := has_lt zl
    have hb : Below w6.heap.size w6 w6.drew := (Below.refl _ _).drew
    replace zr := has_call zr hb
    replace zx := has_call zx hb
    replace zl := has_call zl hb
    have kk := OQ.below RF.out hb; clear RF; have RF := Lib.hid kk; clear kk
    have kk := OR.below RL.out hb; clear RL; have RL := Lib.hid kk; clear kk
    have hmw6.drew := hb.size
    have kk := HC.out.belC hb; clear HC; have HC := Lib.hid kk; clear kk
    have kk := only_trans HO.out (only_belC (g := g) hb); clear HO; have HO := Lib.hid kk; clear kk hb
    have hsw6.drew := HO.out.size
    refine hK.out _ _ (show (fun W : World => (W.cell? ⟨w2.heap.size, 2, none⟩ = some (.slice (some ⟨b, 0, none⟩) L.length n'))) _ from has_cell zx 2 rfl) (fun _ => ?_)
    clear hK K
    try simp only [Act.put, List.setIfInBounds_toArray, List.set_cons_zero, List.set_cons_succ]
    refine wpAnyH_ready (rs := [5]) (by kernel_rfl) (by simp) ?_
    refine AllReadyH.cons rfl (fun K hK => ?_) AllReadyH.nil
    go_simp
    go_at_call 25
    refine (pickInt_any _ B g (w5.heap.size) 4 _ (-1) 1000 HC.out zl rfl (by omega) (by omega) (by omega) (by intro j hj; rcases j with _ | _ | _ | _ | j; exact ⟨_, by omega, by omega, rfl⟩; exact ⟨_, by omega, by omega, rfl⟩; exact ⟨_, by omega, by omega, rfl⟩; exact ⟨_, by omega, by omega, rfl⟩; omega)).mono ?_
    rintro e w7 ⟨x9, hx90, hx91, rfl, hC9, hO9⟩
    replace zr := has_only zr hO9 (by omega)
    replace zx := has_only zx hO9 (by omega)
    have kk := oq_only RF.out hO9 (by omega); clear RF; have RF := Lib.hid kk; clear kk
    have kk := or_only RL.out hO9 (by omega); clear RL; have RL := Lib.hid kk; clear kk
    have hmw7 := hO9.size
    have kk := only_trans HO.out hO9; clear HO; have HO := Lib.hid kk; clear kk
    clear HC; have HC := Lib.hid hC9; clear hC9 hO9
    have hsw7 := HO.out.size
    clear zl hlzl
    go_wp2_with fail
    refine hK.out _ _ (show (fun W : World => (W.cell? ⟨w2.heap.size, 2, none⟩ = some (.slice (some ⟨b, 0, none⟩) L.length n'))) _ from has_cell zx 2 rfl) (fun _ => ?_)
    clear hK K
    try simp only [Act.put, List.setIfInBounds_toArray, List.set_cons_zero, List.set_cons_succ]
    refine any_take (i := 6) (some 41) (.pointer (some ⟨b, k * 4, none⟩)) rfl rfl (by kernel_rfl) (by kernel_rfl) (by kernel_rfl) (fun _ _ _ h => h) rfl (fun W hSw => ?_) ((show (fun W : World => (W.cell? ⟨w2.heap.size, 2, none⟩ = some (.slice (some ⟨b, 0, none⟩) L.length n'))) w7 from has_cell zx 2 rfl)) ?_
    · (try dsimp only at hSw); go_simp <;> with_reducible rfl
    try simp only [Act.put, List.setIfInBounds_toArray, List.set_cons_zero, List.set_cons_succ]
    refine any_take (i := 7) (some 42) (.pointer (some ⟨b, k * 4 + 2, none⟩)) rfl rfl (by kernel_rfl) (by kernel_rfl) (by kernel_rfl) (fun _ _ _ h => h) rfl (fun W hSw => ?_) ((show (fun W : World => (W.cell? ⟨w2.heap.size, 2, none⟩ = some (.slice (some ⟨b, 0, none⟩) L.length n'))) w7 from has_cell zx 2 rfl)) ?_
    · (try dsimp only at hSw); go_simp <;> with_reducible rfl
    try simp only [Act.put, List.setIfInBounds_toArray, List.set_cons_zero, List.set_cons_succ]
    obtain ⟨⟨cb, hcb⟩, ⟨cv, hcv⟩, hfz, ro9⟩ := or_setC (i := 2) (v := .int .i64 x9) (y := ⟨y.low, y.size, x9, y.jam⟩) RL.out HY.out (by omega) rfl
    refine wpAnyH_ready (rs := [8]) (by kernel_rfl) (by simp) ?_
    refine AllReadyH.cons rfl (fun K hK => ?_) AllReadyH.nil
    go_simp
    have zw9 : Has (w7.setCell ⟨b, k * 4 + 2, none⟩ (.int .i64 x9)) (w2.heap.size) 57 #[.int .i64 z, .slice A F.length n, .slice (some ⟨b, 0, none⟩) L.length n'] := has_far zx (p := ⟨b, k * 4 + 2, none⟩) hb3 _
    have zr9 : Has (w7.setCell ⟨b, k * 4 + 2, none⟩ (.int .i64 x9)) (w.heap.size) 57 #[.int .i64 0, .slice none 0 0, .slice none 0 0] := has_far zr (p := ⟨b, k * 4 + 2, none⟩) hb4 _
    refine hK.out _ _ (show (fun W : World => (W.cell? ⟨w2.heap.size, 2, none⟩ = some (.slice (some ⟨b, 0, none⟩) L.length n'))) _ from has_cell zw9 2 rfl) (fun _ => ?_)
    clear hK K
    try simp only [Act.put, List.setIfInBounds_toArray, List.set_cons_zero, List.set_cons_succ]
    refine wpAnyH_done (by kernel_rfl) ?_ _
    have rf9 := Lib.hid (OQ.set_other RF.out hcb (by decide) (k * 4 + 2) (.int .i64 x9))
    have c9 := Lib.hid (HC.out.setC (k := b) (by omega) (by omega) (k * 4 + 2) (.int .i64 x9)); have o9 := Lib.hid (only_setC HO.out (k := b) (by omega) (k * 4 + 2) (.int .i64 x9)); have RO9 := Lib.hid ro9
    clear zr zx hcv hfz ro9 hcb
    have X1 := Lib.hid (set3 (u := .int .i64 z) (v := .slice A F.length n) (x := .slice (some ⟨b, 0, none⟩) L.length n') zr9)
    have zz0 := has_cell zr9 0 rfl; have zf0 := has_free zr9 0; have zq0 := has_cell zw9 0 rfl; have zz1 := has_cell zr9 1 rfl; have zf1 := has_free zr9 1; have zq1 := has_cell zw9 1 rfl; have zz2 := has_cell zr9 2 rfl; have zf2 := has_free zr9 2; have zq2 := has_cell zw9 2 rfl
    have ZR9 := Lib.hid zr9
    clear zr9
    clear zw9
    go_wp2_with fail
    have g0 := has_cell X1.out 0 rfl; have g1 := has_cell X1.out 1 rfl; have g2 := has_cell X1.out 2 rfl
    refine bodyPost_ret (v := .agg #[.int .i64 z, .slice A F.length n, .slice (some ⟨b, 0, none⟩) L.length n']) (by simp [results, Try.results50, go_sem, g0, g1, g2]) rfl ⟨_, F, L.set k ⟨y.low, y.size, x9, y.jam⟩, A, (some ⟨b, 0, none⟩), n, n', by rw [List.length_set], ⟨by omega, by rw [List.length_set]; omega⟩, oq_set3 (rf9.out) ZR9.out (by decide) _ _ _, or_set3 (RO9.out) ZR9.out (by decide) _ _ _, cur3 (c9.out) (by omega) (by omega) _ _ _, only3 (o9.out) (by omega) _ _ _⟩
  · skip
    have zrc0 := has_cell zr 0 rfl; have zrc1 := has_cell zr 1 rfl; have zrc2 := has_cell zr 2 rfl
    have zrlt := has_lt zr
    have zxc0 := has_cell zx 0 rfl; have zxc1 := has_cell zx 1 rfl; have zxc2 := has_cell zx 2 rfl
    have zxlt := has_lt zx
    have ZRH := Lib.hid zr; clear zr
    have ZXH := Lib.hid zx; clear zx
    try go_wp2_with fail
    clear zrc0 zrc1 zrc2 zrlt zxc0 zxc1 zxc2 zxlt
    have zr := ZRH.out; clear ZRH
    have zx := ZXH.out; clear ZXH
    refine wp_region_held_drew (S := (fun _ : World => True)) (by kernel_rfl) trivial (fun _ => ?_)
    have hb : Below w5.heap.size w5 w5.drew := (Below.refl _ _).drew
    replace zr := has_call zr hb
    replace zx := has_call zx hb
    have kk := OQ.below RF.out hb; clear RF; have RF := Lib.hid kk; clear kk
    have kk := OR.below RL.out hb; clear RL; have RL := Lib.hid kk; clear kk
    have hmw5.drew := hb.size
    have kk := HC.out.belC hb; clear HC; have HC := Lib.hid kk; clear kk
    have kk := only_trans HO.out (only_belC (g := g) hb); clear HO; have HO := Lib.hid kk; clear kk hb
    have hsw5.drew := HO.out.size
    refine any_take (i := 0) (some 45) (.pointer (some ⟨w2.heap.size, 1, none⟩)) rfl rfl (by kernel_rfl) (by kernel_rfl) (by kernel_rfl) (fun _ _ _ h => h) rfl (fun W hSw => ?_) (trivial) ?_
    · (try dsimp only at hSw); go_simp <;> with_reducible rfl
    try simp only [Act.put, List.setIfInBounds_toArray, List.set_cons_zero, List.set_cons_succ]
    refine any_take (i := 2) (some 47) (.pointer (some ⟨g, 0, none⟩)) rfl rfl (by kernel_rfl) (by kernel_rfl) (by kernel_rfl) (fun _ _ _ h => h) rfl (fun W hSw => ?_) (trivial) ?_
    · (try dsimp only at hSw); go_simp <;> with_reducible rfl
    try simp only [Act.put, List.setIfInBounds_toArray, List.set_cons_zero, List.set_cons_succ]
    refine wpAnyH_ready (rs := [1, 3]) (by kernel_rfl) (by simp) ?_
    refine AllReadyH.cons rfl (fun K hK => ?_) (AllReadyH.cons rfl (fun K hK => ?_) AllReadyH.nil)
    · skip
      have zc1 := has_cell zx 1 rfl
      go_simp
      clear zc1
      refine hK.out _ _ trivial (fun _ => ?_)
      clear hK K
      try simp only [Act.put, List.setIfInBounds_toArray, List.set_cons_zero, List.set_cons_succ]
      refine wpAnyH_ready (rs := [3]) (by kernel_rfl) (by simp) ?_
      refine AllReadyH.cons rfl (fun K hK => ?_) AllReadyH.nil
      · skip
        go_simp
        go_at_call 26
        refine (below_any _ B g 14 (by omega) (by omega) HC.out).mono ?_
        rintro e w6 ⟨x9, hx90, hx91, rfl, hC9, hO9⟩
        replace zr := has_only zr hO9 (by omega)
        replace zx := has_only zx hO9 (by omega)
        have kk := oq_only RF.out hO9 (by omega); clear RF; have RF := Lib.hid kk; clear kk
        have kk := or_only RL.out hO9 (by omega); clear RL; have RL := Lib.hid kk; clear kk
        have hmw6 := hO9.size
        have kk := only_trans HO.out hO9; clear HO; have HO := Lib.hid kk; clear kk
        clear HC; have HC := Lib.hid hC9; clear hC9 hO9
        have hsw6 := HO.out.size
        go_wp2_with fail
        refine hK.out _ _ trivial (fun _ => ?_)
        clear hK K
        try simp only [Act.put, List.setIfInBounds_toArray, List.set_cons_zero, List.set_cons_succ]
        refine wpAnyH_ready (rs := [4]) (by kernel_rfl) (by simp) ?_
        refine AllReadyH.cons rfl (fun K hK => ?_) AllReadyH.nil
        · skip
          go_simp
          generalize hX : (w6.alloc (.cells #[.int .i64 x9] 3)) = w7
          have hb : Below w6.heap.size w6 w7 := by rw [← hX]; exact balloc _ _
          have hk : Has w7 w6.heap.size 3 #[.int .i64 x9] := by rw [← hX]; exact has_new _ _ _
          clear hX
          replace zr := has_call zr hb
          replace zx := has_call zx hb
          have kk := OQ.below RF.out hb; clear RF; have RF := Lib.hid kk; clear kk
          have kk := OR.below RL.out hb; clear RL; have RL := Lib.hid kk; clear kk
          have hmw7 := hb.size
          have kk := HC.out.belC hb; clear HC; have HC := Lib.hid kk; clear kk
          have kk := only_trans HO.out (only_belC (g := g) hb); clear HO; have HO := Lib.hid kk; clear kk hb
          have hsw7 := HO.out.size
          have zs := hk; clear hk; have hlzs := has_lt zs
          refine hK.out _ _ trivial (fun _ => ?_)
          clear hK K
          try simp only [Act.put, List.setIfInBounds_toArray, List.set_cons_zero, List.set_cons_succ]
          refine wpAnyH_ready (rs := [5]) (by kernel_rfl) (by simp) ?_
          refine AllReadyH.cons rfl (fun K hK => ?_) AllReadyH.nil
          · skip
            refine step_app rfl _ _ 43 rfl w.heap.size 3 i0 (.int .i64 0) 1 8 Try.underlying43 I0.out Z0.out Z1.out Z2.out rfl (by decide) _ _ _ rfl (oq_ownI RF.out) _ 1 1 [.int .i64 x9] rfl (src_intC zs) (by unfold maxLen; omega) (by omega) (by omega) ?_
            intro A3 c3 w9 hown1 hgrow hrow
            have zw9 : Has w9 (w2.heap.size) 57 #[.int .i64 z, .slice A F.length n, .slice (some ⟨b, 0, none⟩) L.length n'] := (hgrow.block (w2.heap.size) (has_lt zx) (fun e => by obtain ⟨_, cc, hc⟩ := hrow _ e.symm; exact has_neC hc zx (by decide) rfl)).trans zx
            have zr9 : Has w9 (w.heap.size) 57 #[.int .i64 0, .slice none 0 0, .slice none 0 0] := (hgrow.block (w.heap.size) (has_lt zr) (fun e => by obtain ⟨_, cc, hc⟩ := hrow _ e.symm; exact has_neC hc zr (by decide) rfl)).trans zr
            have rl9 := OR.grown_ RL.out hgrow (fun b e => (hrow b e).2) (by decide)
            have hc9o : Cur w9 B g := cur_grown0 HC.out hgrow (fun b e => by have := (hrow b e).1; omega)
            have ho9o : Only w g w9 := ⟨hgrow.os.trans HO.out.os, hgrow.tape.trans HO.out.tape, hgrow.output.trans HO.out.output, Nat.le_trans HO.out.size hgrow.size, fun j hj hne => (hgrow.block j (Nat.lt_of_lt_of_le hj HO.out.size) (fun e => by have := (hrow j e.symm).1; omega)).trans (HO.out.block j hj hne)⟩
            have hq9 : OQ c3 w9 w.heap.size 3 A3 (intV (F ++ [x9])) := by rw [intV_snocC]; exact oq_of hown1
            have hl9 : (F ++ [x9]).length = F.length + 1 := by simp
            have hs9 := hgrow.size
            clear hown1 hrow
            refine hK.out _ _ trivial (fun _ => ?_)
            clear hK K
            try simp only [Act.put, List.setIfInBounds_toArray, List.set_cons_zero, List.set_cons_succ]
            refine any_take (i := 6) (some 51) (.pointer (some ⟨w2.heap.size, 1, none⟩)) rfl rfl (by kernel_rfl) (by kernel_rfl) (by kernel_rfl) (fun _ _ _ h => h) rfl (fun W hSw => ?_) (trivial) ?_
            · (try dsimp only at hSw); go_simp <;> with_reducible rfl
            try simp only [Act.put, List.setIfInBounds_toArray, List.set_cons_zero, List.set_cons_succ]
            refine wpAnyH_ready (rs := [7]) (by kernel_rfl) (by simp) ?_
            refine AllReadyH.cons rfl (fun K hK => ?_) AllReadyH.nil
            · skip
              have zx1 := has_cell zw9 1 rfl; have zf1 := has_free zw9 1
              go_simp
              clear zx1 zf1
              refine hK.out _ _ trivial (fun _ => ?_)
              clear hK K
              try simp only [Act.put, List.setIfInBounds_toArray, List.set_cons_zero, List.set_cons_succ]
              refine wpAnyH_done (by kernel_rfl) ?_ _
              have zwX : Has (w9.setCell ⟨w2.heap.size, 1, none⟩ (.slice A3 (F.length + 1) c3)) (w2.heap.size) 57 #[.int .i64 z, .slice A3 (F.length + 1) c3, .slice (some ⟨b, 0, none⟩) L.length n'] := by simpa using has_set zw9 1 (.slice A3 (F.length + 1) c3)
              have zrX : Has (w9.setCell ⟨w2.heap.size, 1, none⟩ (.slice A3 (F.length + 1) c3)) (w.heap.size) 57 #[.int .i64 0, .slice none 0 0, .slice none 0 0] := has_far zr9 (p := ⟨w2.heap.size, 1, none⟩) hne1 _
              have RFX := Lib.hid (OQ.set_other hq9 zw9 (by decide) 1 (.slice A3 (F.length + 1) c3)); have RLX := Lib.hid (OR.set_other rl9 zw9 (by decide) 1 (.slice A3 (F.length + 1) c3))
              have CXX := Lib.hid (hc9o.setC (k := w2.heap.size) (by omega) (by omega) 1 (.slice A3 (F.length + 1) c3)); have OX := Lib.hid (only_setC ho9o (k := w2.heap.size) (by omega) 1 (.slice A3 (F.length + 1) c3))
              clear zw9 zr9 rl9 hc9o ho9o hq9 hgrow zr zx
              have X1 := Lib.hid (set3 (u := .int .i64 z) (v := .slice A3 (F.length + 1) c3) (x := .slice (some ⟨b, 0, none⟩) L.length n') zrX)
              have zz0 := has_cell zrX 0 rfl; have zf0 := has_free zrX 0; have zq0 := has_cell zwX 0 rfl; have zz1 := has_cell zrX 1 rfl; have zf1 := has_free zrX 1; have zq1 := has_cell zwX 1 rfl; have zz2 := has_cell zrX 2 rfl; have zf2 := has_free zrX 2; have zq2 := has_cell zwX 2 rfl
              have ZR9 := Lib.hid zrX
              clear zrX
              clear zwX
              go_wp2_with fail
              have g0 := has_cell X1.out 0 rfl; have g1 := has_cell X1.out 1 rfl; have g2 := has_cell X1.out 2 rfl
              refine bodyPost_ret (v := .agg #[.int .i64 z, .slice A3 (F.length + 1) c3, .slice (some ⟨b, 0, none⟩) L.length n']) (by simp [results, Try.results50, go_sem, g0, g1, g2]) rfl ⟨_, F ++ [x9], L, A3, (some ⟨b, 0, none⟩), c3, n', by rw [hl9], ⟨by omega, by omega⟩, oq_set3 (RFX.out) ZR9.out (by decide) _ _ _, or_set3 (RLX.out) ZR9.out (by decide) _ _ _, cur3 (CXX.out) (by omega) (by omega) _ _ _, only3 (OX.out) (by omega) _ _ _⟩
    · skip
      go_simp
      go_at_call 26
      refine (below_any _ B g 14 (by omega) (by omega) HC.out).mono ?_
      rintro e w6 ⟨x9, hx90, hx91, rfl, hC9, hO9⟩
      replace zr := has_only zr hO9 (by omega)
      replace zx := has_only zx hO9 (by omega)
      have kk := oq_only RF.out hO9 (by omega); clear RF; have RF := Lib.hid kk; clear kk
      have kk := or_only RL.out hO9 (by omega); clear RL; have RL := Lib.hid kk; clear kk
      have hmw6 := hO9.size
      have kk := only_trans HO.out hO9; clear HO; have HO := Lib.hid kk; clear kk
      clear HC; have HC := Lib.hid hC9; clear hC9 hO9
      have hsw6 := HO.out.size
      go_wp2_with fail
      refine hK.out _ _ trivial (fun _ => ?_)
      clear hK K
      try simp only [Act.put, List.setIfInBounds_toArray, List.set_cons_zero, List.set_cons_succ]
      refine wpAnyH_ready (rs := [1, 4]) (by kernel_rfl) (by simp) ?_
      refine AllReadyH.cons rfl (fun K hK => ?_) (AllReadyH.cons rfl (fun K hK => ?_) AllReadyH.nil)
      · skip
        have zc1 := has_cell zx 1 rfl
        go_simp
        clear zc1
        refine hK.out _ _ trivial (fun _ => ?_)
        clear hK K
        try simp only [Act.put, List.setIfInBounds_toArray, List.set_cons_zero, List.set_cons_succ]
        refine wpAnyH_ready (rs := [4]) (by kernel_rfl) (by simp) ?_
        refine AllReadyH.cons rfl (fun K hK => ?_) AllReadyH.nil
        · skip
          go_simp
          generalize hX : (w6.alloc (.cells #[.int .i64 x9] 3)) = w7
          have hb : Below w6.heap.size w6 w7 := by rw [← hX]; exact balloc _ _
          have hk : Has w7 w6.heap.size 3 #[.int .i64 x9] := by rw [← hX]; exact has_new _ _ _
          clear hX
          replace zr := has_call zr hb
          replace zx := has_call zx hb
          have kk := OQ.below RF.out hb; clear RF; have RF := Lib.hid kk; clear kk
          have kk := OR.below RL.out hb; clear RL; have RL := Lib.hid kk; clear kk
          have hmw7 := hb.size
          have kk := HC.out.belC hb; clear HC; have HC := Lib.hid kk; clear kk
          have kk := only_trans HO.out (only_belC (g := g) hb); clear HO; have HO := Lib.hid kk; clear kk hb
          have hsw7 := HO.out.size
          have zs := hk; clear hk; have hlzs := has_lt zs
          refine hK.out _ _ trivial (fun _ => ?_)
          clear hK K
          try simp only [Act.put, List.setIfInBounds_toArray, List.set_cons_zero, List.set_cons_succ]
          refine wpAnyH_ready (rs := [5]) (by kernel_rfl) (by simp) ?_
          refine AllReadyH.cons rfl (fun K hK => ?_) AllReadyH.nil
          · skip
            refine step_app rfl _ _ 43 rfl w.heap.size 3 i0 (.int .i64 0) 1 8 Try.underlying43 I0.out Z0.out Z1.out Z2.out rfl (by decide) _ _ _ rfl (oq_ownI RF.out) _ 1 1 [.int .i64 x9] rfl (src_intC zs) (by unfold maxLen; omega) (by omega) (by omega) ?_
            intro A3 c3 w9 hown1 hgrow hrow
            have zw9 : Has w9 (w2.heap.size) 57 #[.int .i64 z, .slice A F.length n, .slice (some ⟨b, 0, none⟩) L.length n'] := (hgrow.block (w2.heap.size) (has_lt zx) (fun e => by obtain ⟨_, cc, hc⟩ := hrow _ e.symm; exact has_neC hc zx (by decide) rfl)).trans zx
            have zr9 : Has w9 (w.heap.size) 57 #[.int .i64 0, .slice none 0 0, .slice none 0 0] := (hgrow.block (w.heap.size) (has_lt zr) (fun e => by obtain ⟨_, cc, hc⟩ := hrow _ e.symm; exact has_neC hc zr (by decide) rfl)).trans zr
            have rl9 := OR.grown_ RL.out hgrow (fun b e => (hrow b e).2) (by decide)
            have hc9o : Cur w9 B g := cur_grown0 HC.out hgrow (fun b e => by have := (hrow b e).1; omega)
            have ho9o : Only w g w9 := ⟨hgrow.os.trans HO.out.os, hgrow.tape.trans HO.out.tape, hgrow.output.trans HO.out.output, Nat.le_trans HO.out.size hgrow.size, fun j hj hne => (hgrow.block j (Nat.lt_of_lt_of_le hj HO.out.size) (fun e => by have := (hrow j e.symm).1; omega)).trans (HO.out.block j hj hne)⟩
            have hq9 : OQ c3 w9 w.heap.size 3 A3 (intV (F ++ [x9])) := by rw [intV_snocC]; exact oq_of hown1
            have hl9 : (F ++ [x9]).length = F.length + 1 := by simp
            have hs9 := hgrow.size
            clear hown1 hrow
            refine hK.out _ _ trivial (fun _ => ?_)
            clear hK K
            try simp only [Act.put, List.setIfInBounds_toArray, List.set_cons_zero, List.set_cons_succ]
            refine any_take (i := 6) (some 51) (.pointer (some ⟨w2.heap.size, 1, none⟩)) rfl rfl (by kernel_rfl) (by kernel_rfl) (by kernel_rfl) (fun _ _ _ h => h) rfl (fun W hSw => ?_) (trivial) ?_
            · (try dsimp only at hSw); go_simp <;> with_reducible rfl
            try simp only [Act.put, List.setIfInBounds_toArray, List.set_cons_zero, List.set_cons_succ]
            refine wpAnyH_ready (rs := [7]) (by kernel_rfl) (by simp) ?_
            refine AllReadyH.cons rfl (fun K hK => ?_) AllReadyH.nil
            · skip
              have zx1 := has_cell zw9 1 rfl; have zf1 := has_free zw9 1
              go_simp
              clear zx1 zf1
              refine hK.out _ _ trivial (fun _ => ?_)
              clear hK K
              try simp only [Act.put, List.setIfInBounds_toArray, List.set_cons_zero, List.set_cons_succ]
              refine wpAnyH_done (by kernel_rfl) ?_ _
              have zwX : Has (w9.setCell ⟨w2.heap.size, 1, none⟩ (.slice A3 (F.length + 1) c3)) (w2.heap.size) 57 #[.int .i64 z, .slice A3 (F.length + 1) c3, .slice (some ⟨b, 0, none⟩) L.length n'] := by simpa using has_set zw9 1 (.slice A3 (F.length + 1) c3)
              have zrX : Has (w9.setCell ⟨w2.heap.size, 1, none⟩ (.slice A3 (F.length + 1) c3)) (w.heap.size) 57 #[.int .i64 0, .slice none 0 0, .slice none 0 0] := has_far zr9 (p := ⟨w2.heap.size, 1, none⟩) hne1 _
              have RFX := Lib.hid (OQ.set_other hq9 zw9 (by decide) 1 (.slice A3 (F.length + 1) c3)); have RLX := Lib.hid (OR.set_other rl9 zw9 (by decide) 1 (.slice A3 (F.length + 1) c3))
              have CXX := Lib.hid (hc9o.setC (k := w2.heap.size) (by omega) (by omega) 1 (.slice A3 (F.length + 1) c3)); have OX := Lib.hid (only_setC ho9o (k := w2.heap.size) (by omega) 1 (.slice A3 (F.length + 1) c3))
              clear zw9 zr9 rl9 hc9o ho9o hq9 hgrow zr zx
              have X1 := Lib.hid (set3 (u := .int .i64 z) (v := .slice A3 (F.length + 1) c3) (x := .slice (some ⟨b, 0, none⟩) L.length n') zrX)
              have zz0 := has_cell zrX 0 rfl; have zf0 := has_free zrX 0; have zq0 := has_cell zwX 0 rfl; have zz1 := has_cell zrX 1 rfl; have zf1 := has_free zrX 1; have zq1 := has_cell zwX 1 rfl; have zz2 := has_cell zrX 2 rfl; have zf2 := has_free zrX 2; have zq2 := has_cell zwX 2 rfl
              have ZR9 := Lib.hid zrX
              clear zrX
              clear zwX
              go_wp2_with fail
              have g0 := has_cell X1.out 0 rfl; have g1 := has_cell X1.out 1 rfl; have g2 := has_cell X1.out 2 rfl
              refine bodyPost_ret (v := .agg #[.int .i64 z, .slice A3 (F.length + 1) c3, .slice (some ⟨b, 0, none⟩) L.length n']) (by simp [results, Try.results50, go_sem, g0, g1, g2]) rfl ⟨_, F ++ [x9], L, A3, (some ⟨b, 0, none⟩), c3, n', by rw [hl9], ⟨by omega, by omega⟩, oq_set3 (RFX.out) ZR9.out (by decide) _ _ _, or_set3 (RLX.out) ZR9.out (by decide) _ _ _, cur3 (CXX.out) (by omega) (by omega) _ _ _, only3 (OX.out) (by omega) _ _ _⟩
      · skip
        go_simp
        generalize hX : (w6.alloc (.cells #[.int .i64 x9] 3)) = w7
        have hb : Below w6.heap.size w6 w7 := by rw [← hX]; exact balloc _ _
        have hk : Has w7 w6.heap.size 3 #[.int .i64 x9] := by rw [← hX]; exact has_new _ _ _
        clear hX
        replace zr := has_call zr hb
        replace zx := has_call zx hb
        have kk := OQ.below RF.out hb; clear RF; have RF := Lib.hid kk; clear kk
        have kk := OR.below RL.out hb; clear RL; have RL := Lib.hid kk; clear kk
        have hmw7 := hb.size
        have kk := HC.out.belC hb; clear HC; have HC := Lib.hid kk; clear kk
        have kk := only_trans HO.out (only_belC (g := g) hb); clear HO; have HO := Lib.hid kk; clear kk hb
        have hsw7 := HO.out.size
        have zs := hk; clear hk; have hlzs := has_lt zs
        refine hK.out _ _ trivial (fun _ => ?_)
        clear hK K
        try simp only [Act.put, List.setIfInBounds_toArray, List.set_cons_zero, List.set_cons_succ]
        refine wpAnyH_ready (rs := [1]) (by kernel_rfl) (by simp) ?_
        refine AllReadyH.cons rfl (fun K hK => ?_) AllReadyH.nil
        · skip
          have zc1 := has_cell zx 1 rfl
          go_simp
          clear zc1
          refine hK.out _ _ trivial (fun _ => ?_)
          clear hK K
          try simp only [Act.put, List.setIfInBounds_toArray, List.set_cons_zero, List.set_cons_succ]
          refine wpAnyH_ready (rs := [5]) (by kernel_rfl) (by simp) ?_
          refine AllReadyH.cons rfl (fun K hK => ?_) AllReadyH.nil
          · skip
            refine step_app rfl _ _ 43 rfl w.heap.size 3 i0 (.int .i64 0) 1 8 Try.underlying43 I0.out Z0.out Z1.out Z2.out rfl (by decide) _ _ _ rfl (oq_ownI RF.out) _ 1 1 [.int .i64 x9] rfl (src_intC zs) (by unfold maxLen; omega) (by omega) (by omega) ?_
            intro A3 c3 w9 hown1 hgrow hrow
            have zw9 : Has w9 (w2.heap.size) 57 #[.int .i64 z, .slice A F.length n, .slice (some ⟨b, 0, none⟩) L.length n'] := (hgrow.block (w2.heap.size) (has_lt zx) (fun e => by obtain ⟨_, cc, hc⟩ := hrow _ e.symm; exact has_neC hc zx (by decide) rfl)).trans zx
            have zr9 : Has w9 (w.heap.size) 57 #[.int .i64 0, .slice none 0 0, .slice none 0 0] := (hgrow.block (w.heap.size) (has_lt zr) (fun e => by obtain ⟨_, cc, hc⟩ := hrow _ e.symm; exact has_neC hc zr (by decide) rfl)).trans zr
            have rl9 := OR.grown_ RL.out hgrow (fun b e => (hrow b e).2) (by decide)
            have hc9o : Cur w9 B g := cur_grown0 HC.out hgrow (fun b e => by have := (hrow b e).1; omega)
            have ho9o : Only w g w9 := ⟨hgrow.os.trans HO.out.os, hgrow.tape.trans HO.out.tape, hgrow.output.trans HO.out.output, Nat.le_trans HO.out.size hgrow.size, fun j hj hne => (hgrow.block j (Nat.lt_of_lt_of_le hj HO.out.size) (fun e => by have := (hrow j e.symm).1; omega)).trans (HO.out.block j hj hne)⟩
            have hq9 : OQ c3 w9 w.heap.size 3 A3 (intV (F ++ [x9])) := by rw [intV_snocC]; exact oq_of hown1
            have hl9 : (F ++ [x9]).length = F.length + 1 := by simp
            have hs9 := hgrow.size
            clear hown1 hrow
            refine hK.out _ _ trivial (fun _ => ?_)
            clear hK K
            try simp only [Act.put, List.setIfInBounds_toArray, List.set_cons_zero, List.set_cons_succ]
            refine any_take (i := 6) (some 51) (.pointer (some ⟨w2.heap.size, 1, none⟩)) rfl rfl (by kernel_rfl) (by kernel_rfl) (by kernel_rfl) (fun _ _ _ h => h) rfl (fun W hSw => ?_) (trivial) ?_
            · (try dsimp only at hSw); go_simp <;> with_reducible rfl
            try simp only [Act.put, List.setIfInBounds_toArray, List.set_cons_zero, List.set_cons_succ]
            refine wpAnyH_ready (rs := [7]) (by kernel_rfl) (by simp) ?_
            refine AllReadyH.cons rfl (fun K hK => ?_) AllReadyH.nil
            · skip
              have zx1 := has_cell zw9 1 rfl; have zf1 := has_free zw9 1
              go_simp
              clear zx1 zf1
              refine hK.out _ _ trivial (fun _ => ?_)
              clear hK K
              try simp only [Act.put, List.setIfInBounds_toArray, List.set_cons_zero, List.set_cons_succ]
              refine wpAnyH_done (by kernel_rfl) ?_ _
              have zwX : Has (w9.setCell ⟨w2.heap.size, 1, none⟩ (.slice A3 (F.length + 1) c3)) (w2.heap.size) 57 #[.int .i64 z, .slice A3 (F.length + 1) c3, .slice (some ⟨b, 0, none⟩) L.length n'] := by simpa using has_set zw9 1 (.slice A3 (F.length + 1) c3)
              have zrX : Has (w9.setCell ⟨w2.heap.size, 1, none⟩ (.slice A3 (F.length + 1) c3)) (w.heap.size) 57 #[.int .i64 0, .slice none 0 0, .slice none 0 0] := has_far zr9 (p := ⟨w2.heap.size, 1, none⟩) hne1 _
              have RFX := Lib.hid (OQ.set_other hq9 zw9 (by decide) 1 (.slice A3 (F.length + 1) c3)); have RLX := Lib.hid (OR.set_other rl9 zw9 (by decide) 1 (.slice A3 (F.length + 1) c3))
              have CXX := Lib.hid (hc9o.setC (k := w2.heap.size) (by omega) (by omega) 1 (.slice A3 (F.length + 1) c3)); have OX := Lib.hid (only_setC ho9o (k := w2.heap.size) (by omega) 1 (.slice A3 (F.length + 1) c3))
              clear zw9 zr9 rl9 hc9o ho9o hq9 hgrow zr zx
              have X1 := Lib.hid (set3 (u := .int .i64 z) (v := .slice A3 (F.length + 1) c3) (x := .slice (some ⟨b, 0, none⟩) L.length n') zrX)
              have zz0 := has_cell zrX 0 rfl; have zf0 := has_free zrX 0; have zq0 := has_cell zwX 0 rfl; have zz1 := has_cell zrX 1 rfl; have zf1 := has_free zrX 1; have zq1 := has_cell zwX 1 rfl; have zz2 := has_cell zrX 2 rfl; have zf2 := has_free zrX 2; have zq2 := has_cell zwX 2 rfl
              have ZR9 := Lib.hid zrX
              clear zrX
              clear zwX
              go_wp2_with fail
              have g0 := has_cell X1.out 0 rfl; have g1 := has_cell X1.out 1 rfl; have g2 := has_cell X1.out 2 rfl
              refine bodyPost_ret (v := .agg #[.int .i64 z, .slice A3 (F.length + 1) c3, .slice (some ⟨b, 0, none⟩) L.length n']) (by simp [results, Try.results50, go_sem, g0, g1, g2]) rfl ⟨_, F ++ [x9], L, A3, (some ⟨b, 0, none⟩), c3, n', by rw [hl9], ⟨by omega, by omega⟩, oq_set3 (RFX.out) ZR9.out (by decide) _ _ _, or_set3 (RLX.out) ZR9.out (by decide) _ _ _, cur3 (CXX.out) (by omega) (by omega) _ _ _, only3 (OX.out) (by omega) _ _ _⟩
  · skip
    have zxc2 := has_cell zx 2 rfl; have zxf2 := has_free zx 2
    have zw9 : Has (w5.setCell ⟨w2.heap.size, 2, none⟩ (.slice none 0 0)) (w2.heap.size) 57 #[.int .i64 z, .slice A F.length n, .slice none 0 0] := by simpa using has_set zx 2 (.slice none 0 0)
    have zr9 : Has (w5.setCell ⟨w2.heap.size, 2, none⟩ (.slice none 0 0)) (w.heap.size) 57 #[.int .i64 0, .slice none 0 0, .slice none 0 0] := has_far zr (p := ⟨w2.heap.size, 2, none⟩) hne1 _
    have c9 := Lib.hid (HC.out.setC (k := w2.heap.size) (by omega) (by omega) 2 (.slice none 0 0)); have o9 := Lib.hid (only_setC HO.out (k := w2.heap.size) (by omega) 2 (.slice none 0 0)); have rf9 := Lib.hid (OQ.set_other RF.out zx (by decide) 2 (.slice none 0 0))
    clear zr zx
    have X1 := Lib.hid (set3 (u := .int .i64 z) (v := .slice A F.length n) (x := .slice none 0 0) zr9)
    have zz0 := has_cell zr9 0 rfl; have zf0 := has_free zr9 0; have zq0 := has_cell zw9 0 rfl; have zz1 := has_cell zr9 1 rfl; have zf1 := has_free zr9 1; have zq1 := has_cell zw9 1 rfl; have zz2 := has_cell zr9 2 rfl; have zf2 := has_free zr9 2; have zq2 := has_cell zw9 2 rfl
    have ZR9 := Lib.hid zr9
    clear zr9
    clear zw9
    go_wp2_with fail
    have g0 := has_cell X1.out 0 rfl; have g1 := has_cell X1.out 1 rfl; have g2 := has_cell X1.out 2 rfl
    refine bodyPost_ret (v := .agg #[.int .i64 z, .slice A F.length n, .slice none 0 0]) (by simp [results, Try.results50, go_sem, g0, g1, g2]) rfl ⟨_, F, [], A, none, n, 0, rfl, ⟨by omega, by simp⟩, oq_set3 (rf9.out) ZR9.out (by decide) _ _ _, or_set3 (.inl rfl) ZR9.out (by decide) _ _ _, cur3 (c9.out) (by omega) (by omega) _ _ _, only3 (o9.out) (by omega) _ _ _⟩
  · skip
    have e0 : (x0 == 0) = false := by rw [beq_eq_false_iff_ne]; omega
    have e1 : (x0 == 1) = false := by rw [beq_eq_false_iff_ne]; omega
    have e2 : (x0 == 2) = false := by rw [beq_eq_false_iff_ne]; omega
    have e3 : (x0 == 3) = false := by rw [beq_eq_false_iff_ne]; omega
    have e4 : (x0 == 4) = false := by rw [beq_eq_false_iff_ne]; omega
    have X1 := Lib.hid (set3 (u := .int .i64 z) (v := .slice A F.length n) (x := .slice (some ⟨b, 0, none⟩) L.length n') zr)
    have zz0 := has_cell zr 0 rfl; have zf0 := has_free zr 0; have zq0 := has_cell zx 0 rfl; have zz1 := has_cell zr 1 rfl; have zf1 := has_free zr 1; have zq1 := has_cell zx 1 rfl; have zz2 := has_cell zr 2 rfl; have zf2 := has_free zr 2; have zq2 := has_cell zx 2 rfl
    have ZR9 := Lib.hid zr
    clear zr
    clear zx
    go_wp2_with fail
    have g0 := has_cell X1.out 0 rfl; have g1 := has_cell X1.out 1 rfl; have g2 := has_cell X1.out 2 rfl
    refine bodyPost_ret (v := .agg #[.int .i64 z, .slice A F.length n, .slice (some ⟨b, 0, none⟩) L.length n']) (by simp [results, Try.results50, go_sem, g0, g1, g2]) rfl ⟨_, F, L, A, (some ⟨b, 0, none⟩), n, n', rfl, ⟨by omega, by omega⟩, oq_set3 (RF.out) ZR9.out (by decide) _ _ _, or_set3 (RL.out) ZR9.out (by decide) _ _ _, cur3 (HC.out) (by omega) (by omega) _ _ _, only3 (HO.out) (by omega) _ _ _⟩
end Go.Proofs.Ythfpjfekemelaaa
