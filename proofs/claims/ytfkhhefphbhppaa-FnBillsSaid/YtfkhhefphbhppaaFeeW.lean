/- Chapter 6: the drawing of terms (gen_dfe.py). -/
import Derived.Test.YtfkhhefphbhppaaWeekLw
import Derived.Test.YtfkhhefphbhppaaFeeP
namespace Go.Proofs.Ytfkhhefphbhppaa
open Go.RowKit
set_option linter.unusedVariables false
theorem hoo6 {w w' : World} {g h : Nat} {t : TypeId} {cs : Array Value} (k : Has w h t cs) (ho : Only w g w') (hne : h ≠ g) : Has w' h t cs := (ho.block h (has_lt k) (fun e => hne (by injection e))).trans k
theorem Cur.bel {w w' : World} {B g : Nat} (h : Cur w B g) (hb : Below w.heap.size w w') : Cur w' B g := h.only fun k hk _ => hb.block k hk
theorem only_bel {w w' : World} {g : Nat} (h : Below w.heap.size w w') : Only w g w' := ⟨h.os, h.tape, h.output, h.size, fun k hk _ => h.block k hk⟩
theorem only_setn {a w : World} {g k : Nat} (h : Only a g w) (hk : a.heap.size ≤ k) (i : Nat) (u : Value) : Only a g (w.setCell ⟨k, i, none⟩ u) :=
  ⟨h.os, h.tape, h.output, by rw [size_set]; exact h.size, fun j hj hne => (Below.heap_setCell w ⟨k, i, none⟩ u j (by show j ≠ k; omega)).trans (h.block j hj hne)⟩
theorem Cur.setn {w : World} {B g k : Nat} (h : Cur w B g) (hk : B ≤ k) (hne : k ≠ g) (i : Nat) (u : Value) : Cur (w.setCell ⟨k, i, none⟩ u) B g := h.only fun j hj hjg => Below.heap_setCell w ⟨k, i, none⟩ u j (by show j ≠ k; omega)
theorem cset8 {W : World} {B g r : Nat} (h : Cur W B g) (hk : B ≤ r) (hne : r ≠ g) (a0 a1 a2 a3 a4 a5 a6 a7 : Value) : Cur ((((((((W.setCell ⟨r, 0, none⟩ a0).setCell ⟨r, 1, none⟩ a1).setCell ⟨r, 2, none⟩ a2).setCell ⟨r, 3, none⟩ a3).setCell ⟨r, 4, none⟩ a4).setCell ⟨r, 5, none⟩ a5).setCell ⟨r, 6, none⟩ a6).setCell ⟨r, 7, none⟩ a7) B g :=
  (((((((h.setn hk hne 0 a0).setn hk hne 1 a1).setn hk hne 2 a2).setn hk hne 3 a3).setn hk hne 4 a4).setn hk hne 5 a5).setn hk hne 6 a6).setn hk hne 7 a7
theorem oset8 {w0 W : World} {g r : Nat} (h : Only w0 g W) (hk : w0.heap.size ≤ r) (a0 a1 a2 a3 a4 a5 a6 a7 : Value) : Only w0 g ((((((((W.setCell ⟨r, 0, none⟩ a0).setCell ⟨r, 1, none⟩ a1).setCell ⟨r, 2, none⟩ a2).setCell ⟨r, 3, none⟩ a3).setCell ⟨r, 4, none⟩ a4).setCell ⟨r, 5, none⟩ a5).setCell ⟨r, 6, none⟩ a6).setCell ⟨r, 7, none⟩ a7) :=
  only_setn (only_setn (only_setn (only_setn (only_setn (only_setn (only_setn (only_setn h hk 0 a0) hk 1 a1) hk 2 a2) hk 3 a3) hk 4 a4) hk 5 a5) hk 6 a6) hk 7 a7
/-- valid terms -/
def DrawnT (w : World) (B g : Nat) (e : Ending) (w' : World) : Prop := ∃ t : Tm, e = .returned (.agg #[.int .i64 t.keep, .int .i64 t.free, .int .i64 t.step, .int .i64 t.rate, .int .i64 t.cap, .int .i64 t.longer, .int .i64 t.price, .int .i64 t.most]) ∧ termsB t = true ∧ t.most ≤ 4 ∧ Cur w' B g ∧ Only w g w'

set_option maxRecDepth 100000 in
set_option maxHeartbeats 16000000 in
theorem termsD_any (w : World) (B g : Nat) (hC : Cur w B g) : Calls Try.prog 29 #[.pointer (some ⟨g, 0, none⟩)] w (DrawnT w B g) := by
  have hlt := hC.lt; obtain ⟨hB, hg⟩ := hlt
  have HC := Lib.hid hC; clear hC
  have HO := Lib.hid (only_refl w g)
  have hsw := HO.out.size
  go_enter Try.func29, Try.ntmps29
  go_wp2_with fail
  generalize hX : (w.alloc (.cells #[.int .i64 0, .int .i64 0, .int .i64 0, .int .i64 0, .int .i64 0, .int .i64 0, .int .i64 0, .int .i64 0] 35)) = w1
  have hb : Below w.heap.size w w1 := by rw [← hX]; exact balloc _ _
  have hk : Has w1 w.heap.size 35 #[.int .i64 0, .int .i64 0, .int .i64 0, .int .i64 0, .int .i64 0, .int .i64 0, .int .i64 0, .int .i64 0] := by rw [← hX]; exact has_new _ _ _
  clear hX
  have hmw1 := hb.size
  have kk := HC.out.bel hb; clear HC; have HC := Lib.hid kk; clear kk
  have kk := only_trans HO.out (only_bel (g := g) hb); clear HO; have HO := Lib.hid kk; clear kk hb
  have hsw1 := HO.out.size
  have zr := hk; clear hk; have hlzr := has_lt zr
  refine (below_any _ B g 40 (by omega) (by omega) HC.out).mono ?_
  rintro e w2 ⟨x0, hx00, hx01, rfl, hC9, hO9⟩
  replace zr := hoo6 zr hO9 (by omega)
  have hmw2 := hO9.size
  have kk := only_trans HO.out hO9; clear HO; have HO := Lib.hid kk; clear kk
  clear HC; have HC := Lib.hid hC9; clear hC9 hO9
  have hsw2 := HO.out.size
  have zrc0 := has_cell zr 0 rfl; have zrc1 := has_cell zr 1 rfl; have zrc2 := has_cell zr 2 rfl; have zrc3 := has_cell zr 3 rfl; have zrc4 := has_cell zr 4 rfl; have zrc5 := has_cell zr 5 rfl; have zrc6 := has_cell zr 6 rfl; have zrc7 := has_cell zr 7 rfl
  have zrlt := has_lt zr
  have ZRH := Lib.hid zr; clear zr
  go_wp2_with fail
  clear zrc0 zrc1 zrc2 zrc3 zrc4 zrc5 zrc6 zrc7 zrlt
  have zr := ZRH.out; clear ZRH
  refine (below_any _ B g 30 (by omega) (by omega) HC.out).mono ?_
  rintro e w3 ⟨x1, hx10, hx11, rfl, hC9, hO9⟩
  replace zr := hoo6 zr hO9 (by omega)
  have hmw3 := hO9.size
  have kk := only_trans HO.out hO9; clear HO; have HO := Lib.hid kk; clear kk
  clear HC; have HC := Lib.hid hC9; clear hC9 hO9
  have hsw3 := HO.out.size
  have zrc0 := has_cell zr 0 rfl; have zrc1 := has_cell zr 1 rfl; have zrc2 := has_cell zr 2 rfl; have zrc3 := has_cell zr 3 rfl; have zrc4 := has_cell zr 4 rfl; have zrc5 := has_cell zr 5 rfl; have zrc6 := has_cell zr 6 rfl; have zrc7 := has_cell zr 7 rfl
  have zrlt := has_lt zr
  have ZRH := Lib.hid zr; clear zr
  go_wp2_with fail
  clear zrc0 zrc1 zrc2 zrc3 zrc4 zrc5 zrc6 zrc7 zrlt
  have zr := ZRH.out; clear ZRH
  refine (below_any _ B g 10 (by omega) (by omega) HC.out).mono ?_
  rintro e w4 ⟨x2, hx20, hx21, rfl, hC9, hO9⟩
  replace zr := hoo6 zr hO9 (by omega)
  have hmw4 := hO9.size
  have kk := only_trans HO.out hO9; clear HO; have HO := Lib.hid kk; clear kk
  clear HC; have HC := Lib.hid hC9; clear hC9 hO9
  have hsw4 := HO.out.size
  have zrc0 := has_cell zr 0 rfl; have zrc1 := has_cell zr 1 rfl; have zrc2 := has_cell zr 2 rfl; have zrc3 := has_cell zr 3 rfl; have zrc4 := has_cell zr 4 rfl; have zrc5 := has_cell zr 5 rfl; have zrc6 := has_cell zr 6 rfl; have zrc7 := has_cell zr 7 rfl
  have zrlt := has_lt zr
  have ZRH := Lib.hid zr; clear zr
  go_wp2_with fail
  clear zrc0 zrc1 zrc2 zrc3 zrc4 zrc5 zrc6 zrc7 zrlt
  have zr := ZRH.out; clear ZRH
  generalize hX : (w4.alloc (.cells #[.int .i64 0, .int .i64 1, .int .i64 5, .int .i64 20] 3)) = w5
  have hb : Below w4.heap.size w4 w5 := by rw [← hX]; exact balloc _ _
  have hk : Has w5 w4.heap.size 3 #[.int .i64 0, .int .i64 1, .int .i64 5, .int .i64 20] := by rw [← hX]; exact has_new _ _ _
  clear hX
  replace zr := has_call zr hb
  have hmw5 := hb.size
  have kk := HC.out.bel hb; clear HC; have HC := Lib.hid kk; clear kk
  have kk := only_trans HO.out (only_bel (g := g) hb); clear HO; have HO := Lib.hid kk; clear kk hb
  have hsw5 := HO.out.size
  have zl3 := hk; clear hk; have hlzl3 := has_lt zl3
  refine (pickInt_any _ B g (w4.heap.size) 4 _ (0) 20 HC.out zl3 rfl (by omega) (by omega) (by omega) (by intro j hj; rcases j with _ | _ | _ | _ | j; exact ⟨_, by decide, by decide, rfl⟩; exact ⟨_, by decide, by decide, rfl⟩; exact ⟨_, by decide, by decide, rfl⟩; exact ⟨_, by decide, by decide, rfl⟩; omega)).mono ?_
  rintro e w6 ⟨x3, hx30, hx31, rfl, hC9, hO9⟩
  replace zr := hoo6 zr hO9 (by omega)
  have hmw6 := hO9.size
  have kk := only_trans HO.out hO9; clear HO; have HO := Lib.hid kk; clear kk
  clear HC; have HC := Lib.hid hC9; clear hC9 hO9
  have hsw6 := HO.out.size
  clear zl3 hlzl3
  have zrc0 := has_cell zr 0 rfl; have zrc1 := has_cell zr 1 rfl; have zrc2 := has_cell zr 2 rfl; have zrc3 := has_cell zr 3 rfl; have zrc4 := has_cell zr 4 rfl; have zrc5 := has_cell zr 5 rfl; have zrc6 := has_cell zr 6 rfl; have zrc7 := has_cell zr 7 rfl
  have zrlt := has_lt zr
  have ZRH := Lib.hid zr; clear zr
  go_wp2_with fail
  clear zrc0 zrc1 zrc2 zrc3 zrc4 zrc5 zrc6 zrc7 zrlt
  have zr := ZRH.out; clear ZRH
  generalize hX : (w6.alloc (.cells #[.int .i64 0, .int .i64 50, .int .i64 200, .int .i64 1000000] 3)) = w7
  have hb : Below w6.heap.size w6 w7 := by rw [← hX]; exact balloc _ _
  have hk : Has w7 w6.heap.size 3 #[.int .i64 0, .int .i64 50, .int .i64 200, .int .i64 1000000] := by rw [← hX]; exact has_new _ _ _
  clear hX
  replace zr := has_call zr hb
  have hmw7 := hb.size
  have kk := HC.out.bel hb; clear HC; have HC := Lib.hid kk; clear kk
  have kk := only_trans HO.out (only_bel (g := g) hb); clear HO; have HO := Lib.hid kk; clear kk hb
  have hsw7 := HO.out.size
  have zl4 := hk; clear hk; have hlzl4 := has_lt zl4
  refine (pickInt_any _ B g (w6.heap.size) 4 _ (0) 1000000 HC.out zl4 rfl (by omega) (by omega) (by omega) (by intro j hj; rcases j with _ | _ | _ | _ | j; exact ⟨_, by decide, by decide, rfl⟩; exact ⟨_, by decide, by decide, rfl⟩; exact ⟨_, by decide, by decide, rfl⟩; exact ⟨_, by decide, by decide, rfl⟩; omega)).mono ?_
  rintro e w8 ⟨x4, hx40, hx41, rfl, hC9, hO9⟩
  replace zr := hoo6 zr hO9 (by omega)
  have hmw8 := hO9.size
  have kk := only_trans HO.out hO9; clear HO; have HO := Lib.hid kk; clear kk
  clear HC; have HC := Lib.hid hC9; clear hC9 hO9
  have hsw8 := HO.out.size
  clear zl4 hlzl4
  have zrc0 := has_cell zr 0 rfl; have zrc1 := has_cell zr 1 rfl; have zrc2 := has_cell zr 2 rfl; have zrc3 := has_cell zr 3 rfl; have zrc4 := has_cell zr 4 rfl; have zrc5 := has_cell zr 5 rfl; have zrc6 := has_cell zr 6 rfl; have zrc7 := has_cell zr 7 rfl
  have zrlt := has_lt zr
  have ZRH := Lib.hid zr; clear zr
  go_wp2_with fail
  clear zrc0 zrc1 zrc2 zrc3 zrc4 zrc5 zrc6 zrc7 zrlt
  have zr := ZRH.out; clear ZRH
  refine (below_any _ B g 30 (by omega) (by omega) HC.out).mono ?_
  rintro e w9 ⟨x5, hx50, hx51, rfl, hC9, hO9⟩
  replace zr := hoo6 zr hO9 (by omega)
  have hmw9 := hO9.size
  have kk := only_trans HO.out hO9; clear HO; have HO := Lib.hid kk; clear kk
  clear HC; have HC := Lib.hid hC9; clear hC9 hO9
  have hsw9 := HO.out.size
  have zrc0 := has_cell zr 0 rfl; have zrc1 := has_cell zr 1 rfl; have zrc2 := has_cell zr 2 rfl; have zrc3 := has_cell zr 3 rfl; have zrc4 := has_cell zr 4 rfl; have zrc5 := has_cell zr 5 rfl; have zrc6 := has_cell zr 6 rfl; have zrc7 := has_cell zr 7 rfl
  have zrlt := has_lt zr
  have ZRH := Lib.hid zr; clear zr
  go_wp2_with fail
  clear zrc0 zrc1 zrc2 zrc3 zrc4 zrc5 zrc6 zrc7 zrlt
  have zr := ZRH.out; clear ZRH
  generalize hX : (w9.alloc (.cells #[.int .i64 0, .int .i64 3, .int .i64 25] 3)) = w10
  have hb : Below w9.heap.size w9 w10 := by rw [← hX]; exact balloc _ _
  have hk : Has w10 w9.heap.size 3 #[.int .i64 0, .int .i64 3, .int .i64 25] := by rw [← hX]; exact has_new _ _ _
  clear hX
  replace zr := has_call zr hb
  have hmw10 := hb.size
  have kk := HC.out.bel hb; clear HC; have HC := Lib.hid kk; clear kk
  have kk := only_trans HO.out (only_bel (g := g) hb); clear HO; have HO := Lib.hid kk; clear kk hb
  have hsw10 := HO.out.size
  have zl6 := hk; clear hk; have hlzl6 := has_lt zl6
  refine (pickInt_any _ B g (w9.heap.size) 3 _ (0) 25 HC.out zl6 rfl (by omega) (by omega) (by omega) (by intro j hj; rcases j with _ | _ | _ | j; exact ⟨_, by decide, by decide, rfl⟩; exact ⟨_, by decide, by decide, rfl⟩; exact ⟨_, by decide, by decide, rfl⟩; omega)).mono ?_
  rintro e w11 ⟨x6, hx60, hx61, rfl, hC9, hO9⟩
  replace zr := hoo6 zr hO9 (by omega)
  have hmw11 := hO9.size
  have kk := only_trans HO.out hO9; clear HO; have HO := Lib.hid kk; clear kk
  clear HC; have HC := Lib.hid hC9; clear hC9 hO9
  have hsw11 := HO.out.size
  clear zl6 hlzl6
  have zrc0 := has_cell zr 0 rfl; have zrc1 := has_cell zr 1 rfl; have zrc2 := has_cell zr 2 rfl; have zrc3 := has_cell zr 3 rfl; have zrc4 := has_cell zr 4 rfl; have zrc5 := has_cell zr 5 rfl; have zrc6 := has_cell zr 6 rfl; have zrc7 := has_cell zr 7 rfl
  have zrlt := has_lt zr
  have ZRH := Lib.hid zr; clear zr
  go_wp2_with fail
  clear zrc0 zrc1 zrc2 zrc3 zrc4 zrc5 zrc6 zrc7 zrlt
  have zr := ZRH.out; clear ZRH
  refine (below_any _ B g 5 (by omega) (by omega) HC.out).mono ?_
  rintro e w12 ⟨x7, hx70, hx71, rfl, hC9, hO9⟩
  replace zr := hoo6 zr hO9 (by omega)
  have hmw12 := hO9.size
  have kk := only_trans HO.out hO9; clear HO; have HO := Lib.hid kk; clear kk
  clear HC; have HC := Lib.hid hC9; clear hC9 hO9
  have hsw12 := HO.out.size
  have zrc0 := has_cell zr 0 rfl; have zrc1 := has_cell zr 1 rfl; have zrc2 := has_cell zr 2 rfl; have zrc3 := has_cell zr 3 rfl; have zrc4 := has_cell zr 4 rfl; have zrc5 := has_cell zr 5 rfl; have zrc6 := has_cell zr 6 rfl; have zrc7 := has_cell zr 7 rfl
  have zrf0 := has_free zr 0; have zrf1 := has_free zr 1; have zrf2 := has_free zr 2; have zrf3 := has_free zr 3; have zrf4 := has_free zr 4; have zrf5 := has_free zr 5; have zrf6 := has_free zr 6; have zrf7 := has_free zr 7
  have zrlt := has_lt zr
  have ZRH := Lib.hid zr; clear zr
  go_wp2_with fail
  refine bodyPost_ret (v := .agg #[.int .i64 (1 + x0), .int .i64 x1, .int .i64 (1 + x2), .int .i64 x3, .int .i64 x4, .int .i64 (1 + x5), .int .i64 x6, .int .i64 x7]) ?_ ?_ ?_
  · simp [results, Try.results29, go_sem, zrc0, zrc1, zrc2, zrc3, zrc4, zrc5, zrc6, zrc7, zrf0, zrf1, zrf2, zrf3, zrf4, zrf5, zrf6, zrf7, zrlt]
  · rfl
  · exact ⟨⟨(1 + x0), x1, (1 + x2), x3, x4, (1 + x5), x6, x7⟩, rfl, (terms_iff _).2 (by dsimp only; omega), by dsimp only; omega, cset8 HC.out (by omega) (by omega) _ _ _ _ _ _ _ _, oset8 HO.out (by omega) _ _ _ _ _ _ _ _⟩
/-- terms that are drawn for a law -/
def TermsGiven (w : World) (e : Ending) (w' : World) : Prop := ∃ t : Tm, e = .returned (.agg #[.int .i64 t.keep, .int .i64 t.free, .int .i64 t.step, .int .i64 t.rate, .int .i64 t.cap, .int .i64 t.longer, .int .i64 t.price, .int .i64 t.most]) ∧ termsB t = true ∧ t.most ≤ 4 ∧ Below w.heap.size w w'
end Go.Proofs.Ytfkhhefphbhppaa
