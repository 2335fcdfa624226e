/- Chapter 5: the drawing of grants. -/
import Derived.Test.YtdaeljjjcgpcoaaGraC
import Derived.Test.YtdaeljjjcgpcoaaActD
namespace Go.Proofs.Ytdaeljjjcgpcoaa
open Go.RowKit
set_option linter.unusedVariables false
theorem hoo' {w w' : World} {g h : Nat} {t : TypeId} {cs : Array Value} (k : Has w h t cs) (ho : Only w g w') (hne : h ≠ g) : Has w' h t cs := (ho.block h (has_lt k) (fun e => hne (by injection e))).trans k
theorem size_new_ (w : World) (t : TypeId) (cs : Array Value) : (w.alloc (.cells cs t)).heap.size = w.heap.size + 1 := by simp
theorem cset7 {W : World} {B g r : Nat} (h : Cur W B g) (hk : B ≤ r) (hne : r ≠ g) (a b c d e f i : Value) : Cur (((((((W.setCell ⟨r, 0, none⟩ a).setCell ⟨r, 1, none⟩ b).setCell ⟨r, 2, none⟩ c).setCell ⟨r, 3, none⟩ d).setCell ⟨r, 4, none⟩ e).setCell ⟨r, 5, none⟩ f).setCell ⟨r, 6, none⟩ i) B g :=
  ((((((h.setn hk hne 0 a).setn hk hne 1 b).setn hk hne 2 c).setn hk hne 3 d).setn hk hne 4 e).setn hk hne 5 f).setn hk hne 6 i
theorem oset7 {w0 W : World} {g r : Nat} (h : Only w0 g W) (hk : w0.heap.size ≤ r) (a b c d e f i : Value) : Only w0 g (((((((W.setCell ⟨r, 0, none⟩ a).setCell ⟨r, 1, none⟩ b).setCell ⟨r, 2, none⟩ c).setCell ⟨r, 3, none⟩ d).setCell ⟨r, 4, none⟩ e).setCell ⟨r, 5, none⟩ f).setCell ⟨r, 6, none⟩ i) :=
  only_setn (only_setn (only_setn (only_setn (only_setn (only_setn (only_setn h hk 0 a) hk 1 b) hk 2 c) hk 3 d) hk 4 e) hk 5 f) hk 6 i
/-- a grant that may be anything -/
def DrawnG (w : World) (B g : Nat) (e : Ending) (w' : World) : Prop := ∃ (f t p d s u : Int) (o : Bool), e = .returned (.agg #[.int .i64 f, .int .i64 t, .int .i64 p, .int .i64 d, .int .i64 s, .int .i64 u, .bool o]) ∧ Cur w' B g ∧ Only w g w'
/-- a valid grant -/
def DrawnGV (w : World) (B g : Nat) (e : Ending) (w' : World) : Prop := ∃ (f t p d s u : Int) (o : Bool), e = .returned (.agg #[.int .i64 f, .int .i64 t, .int .i64 p, .int .i64 d, .int .i64 s, .int .i64 u, .bool o]) ∧ grantB ⟨f, t, p, d, s, u, o⟩ = true ∧ f ≤ 6 ∧ t ≤ 6 ∧ u ≤ 42 ∧ Cur w' B g ∧ Only w g w'
theorem grant_ok {f t p d s u : Int} {o : Bool} (h : (1 ≤ f ∧ f ≤ 40) ∧ (1 ≤ t ∧ t ≤ 40) ∧ f ≠ t ∧ (0 ≤ p ∧ p ≤ 999) ∧ (0 ≤ d ∧ d ≤ 5) ∧ (0 ≤ s ∧ s ≤ 20000) ∧ (0 ≤ u ∧ u ≤ 20000) ∧ s < u) : grantB ⟨f, t, p, d, s, u, o⟩ = true := by
  obtain ⟨h1, h2, h3, h4, h5, h6, h7, h8⟩ := h
  simp only [grantB, perB, timB, Bool.and_eq_true, inR_iff, bne_iff_ne, decide_eq_true_eq]
  exact ⟨⟨⟨⟨⟨⟨⟨h1, h2⟩, h3⟩, h4⟩, h5⟩, h6⟩, h7⟩, h8⟩

set_option maxRecDepth 100000 in
set_option maxHeartbeats 16000000 in
theorem grantD_any (w : World) (B g : Nat) (hC : Cur w B g) : Calls Try.prog 42 #[.pointer (some ⟨g, 0, none⟩)] w (DrawnGV w B g) := by
  have hlt := hC.lt; obtain ⟨hB, hg⟩ := hlt
  have HC := Lib.hid hC; clear hC
  have HO := Lib.hid (only_refl w g)
  have hsw := HO.out.size
  go_enter Try.func42, Try.ntmps42
  go_wp2_with fail
  generalize hX : (w.alloc (.cells #[.int .i64 0, .int .i64 0, .int .i64 0, .int .i64 0, .int .i64 0, .int .i64 0, .bool false] 35)) = w1
  have hb : Below w.heap.size w w1 := by rw [← hX]; exact balloc _ _
  have hk : Has w1 w.heap.size 35 #[.int .i64 0, .int .i64 0, .int .i64 0, .int .i64 0, .int .i64 0, .int .i64 0, .bool false] := by rw [← hX]; exact has_new _ _ _
  clear hX
  have hmw1 := hb.size
  have kk := HC.out.bel hb; clear HC; have HC := Lib.hid kk; clear kk
  have kk := only_trans HO.out (only_bel (g := g) hb); clear HO; have HO := Lib.hid kk; clear kk hb
  have hsw1 := HO.out.size
  have zr := hk; clear hk; have hlzr := has_lt zr
  refine (below_any _ B g 5 (by omega) (by omega) HC.out).mono ?_
  rintro e w2 ⟨x0, hx00, hx01, rfl, hC9, hO9⟩
  replace zr := hoo' zr hO9 (by omega)
  have hmw2 := hO9.size
  have kk := only_trans HO.out hO9; clear HO; have HO := Lib.hid kk; clear kk
  clear HC; have HC := Lib.hid hC9; clear hC9 hO9
  have hsw2 := HO.out.size
  have zrc0 := has_cell zr 0 rfl; have zrc1 := has_cell zr 1 rfl; have zrc2 := has_cell zr 2 rfl; have zrc3 := has_cell zr 3 rfl; have zrc4 := has_cell zr 4 rfl; have zrc5 := has_cell zr 5 rfl; have zrc6 := has_cell zr 6 rfl
  have zrlt := has_lt zr
  have ZRH := Lib.hid zr; clear zr
  go_wp2_with fail
  clear zrc0 zrc1 zrc2 zrc3 zrc4 zrc5 zrc6 zrlt
  have zr := ZRH.out; clear ZRH
  refine (below_any _ B g 5 (by omega) (by omega) HC.out).mono ?_
  rintro e w3 ⟨x1, hx10, hx11, rfl, hC9, hO9⟩
  replace zr := hoo' zr hO9 (by omega)
  have hmw3 := hO9.size
  have kk := only_trans HO.out hO9; clear HO; have HO := Lib.hid kk; clear kk
  clear HC; have HC := Lib.hid hC9; clear hC9 hO9
  have hsw3 := HO.out.size
  have hcs : x1 = x0 ∨ x1 ≠ x0 := by omega
  rcases hcs with rfl | hne
  · skip
    have zrc0 := has_cell zr 0 rfl; have zrc1 := has_cell zr 1 rfl; have zrc2 := has_cell zr 2 rfl; have zrc3 := has_cell zr 3 rfl; have zrc4 := has_cell zr 4 rfl; have zrc5 := has_cell zr 5 rfl; have zrc6 := has_cell zr 6 rfl
    have zrlt := has_lt zr
    have ZRH := Lib.hid zr; clear zr
    go_wp2_with fail
    clear zrc0 zrc1 zrc2 zrc3 zrc4 zrc5 zrc6 zrlt
    have zr := ZRH.out; clear ZRH
    refine (below_any _ B g 12 (by omega) (by omega) HC.out).mono ?_
    rintro e w4 ⟨x2, hx20, hx21, rfl, hC9, hO9⟩
    replace zr := hoo' zr hO9 (by omega)
    have hmw4 := hO9.size
    have kk := only_trans HO.out hO9; clear HO; have HO := Lib.hid kk; clear kk
    clear HC; have HC := Lib.hid hC9; clear hC9 hO9
    have hsw4 := HO.out.size
    have zrc0 := has_cell zr 0 rfl; have zrc1 := has_cell zr 1 rfl; have zrc2 := has_cell zr 2 rfl; have zrc3 := has_cell zr 3 rfl; have zrc4 := has_cell zr 4 rfl; have zrc5 := has_cell zr 5 rfl; have zrc6 := has_cell zr 6 rfl
    have zrlt := has_lt zr
    have ZRH := Lib.hid zr; clear zr
    go_wp2_with fail
    clear zrc0 zrc1 zrc2 zrc3 zrc4 zrc5 zrc6 zrlt
    have zr := ZRH.out; clear ZRH
    generalize hX : (w4.alloc (.cells #[.int .i64 0, .int .i64 1, .int .i64 1, .int .i64 2] 3)) = w5
    have hb : Below w4.heap.size w4 w5 := by rw [← hX]; exact balloc _ _
    have hk : Has w5 w4.heap.size 3 #[.int .i64 0, .int .i64 1, .int .i64 1, .int .i64 2] := by rw [← hX]; exact has_new _ _ _
    clear hX
    replace zr := has_call zr hb
    have hmw5 := hb.size
    have kk := HC.out.bel hb; clear HC; have HC := Lib.hid kk; clear kk
    have kk := only_trans HO.out (only_bel (g := g) hb); clear HO; have HO := Lib.hid kk; clear kk hb
    have hsw5 := HO.out.size
    have zl3 := hk; clear hk; have hlzl3 := has_lt zl3
    refine (pickInt_any _ B g (w4.heap.size) 4 _ (0) 2 HC.out zl3 rfl (by omega) (by omega) (by omega) (by intro j hj; rcases j with _ | _ | _ | _ | j; exact ⟨_, by decide, by decide, rfl⟩; exact ⟨_, by decide, by decide, rfl⟩; exact ⟨_, by decide, by decide, rfl⟩; exact ⟨_, by decide, by decide, rfl⟩; omega)).mono ?_
    rintro e w6 ⟨x3, hx30, hx31, rfl, hC9, hO9⟩
    replace zr := hoo' zr hO9 (by omega)
    have hmw6 := hO9.size
    have kk := only_trans HO.out hO9; clear HO; have HO := Lib.hid kk; clear kk
    clear HC; have HC := Lib.hid hC9; clear hC9 hO9
    have hsw6 := HO.out.size
    clear zl3 hlzl3
    have zrc0 := has_cell zr 0 rfl; have zrc1 := has_cell zr 1 rfl; have zrc2 := has_cell zr 2 rfl; have zrc3 := has_cell zr 3 rfl; have zrc4 := has_cell zr 4 rfl; have zrc5 := has_cell zr 5 rfl; have zrc6 := has_cell zr 6 rfl
    have zrlt := has_lt zr
    have ZRH := Lib.hid zr; clear zr
    go_wp2_with fail
    clear zrc0 zrc1 zrc2 zrc3 zrc4 zrc5 zrc6 zrlt
    have zr := ZRH.out; clear ZRH
    generalize hX : (w6.alloc (.cells #[.int .i64 0, .int .i64 1, .int .i64 1, .int .i64 2, .int .i64 3, .int .i64 5] 3)) = w7
    have hb : Below w6.heap.size w6 w7 := by rw [← hX]; exact balloc _ _
    have hk : Has w7 w6.heap.size 3 #[.int .i64 0, .int .i64 1, .int .i64 1, .int .i64 2, .int .i64 3, .int .i64 5] := by rw [← hX]; exact has_new _ _ _
    clear hX
    replace zr := has_call zr hb
    have hmw7 := hb.size
    have kk := HC.out.bel hb; clear HC; have HC := Lib.hid kk; clear kk
    have kk := only_trans HO.out (only_bel (g := g) hb); clear HO; have HO := Lib.hid kk; clear kk hb
    have hsw7 := HO.out.size
    have zl4 := hk; clear hk; have hlzl4 := has_lt zl4
    refine (pickInt_any _ B g (w6.heap.size) 6 _ (0) 5 HC.out zl4 rfl (by omega) (by omega) (by omega) (by intro j hj; rcases j with _ | _ | _ | _ | _ | _ | j; exact ⟨_, by decide, by decide, rfl⟩; exact ⟨_, by decide, by decide, rfl⟩; exact ⟨_, by decide, by decide, rfl⟩; exact ⟨_, by decide, by decide, rfl⟩; exact ⟨_, by decide, by decide, rfl⟩; exact ⟨_, by decide, by decide, rfl⟩; omega)).mono ?_
    rintro e w8 ⟨x4, hx40, hx41, rfl, hC9, hO9⟩
    replace zr := hoo' zr hO9 (by omega)
    have hmw8 := hO9.size
    have kk := only_trans HO.out hO9; clear HO; have HO := Lib.hid kk; clear kk
    clear HC; have HC := Lib.hid hC9; clear hC9 hO9
    have hsw8 := HO.out.size
    clear zl4 hlzl4
    have zrc0 := has_cell zr 0 rfl; have zrc1 := has_cell zr 1 rfl; have zrc2 := has_cell zr 2 rfl; have zrc3 := has_cell zr 3 rfl; have zrc4 := has_cell zr 4 rfl; have zrc5 := has_cell zr 5 rfl; have zrc6 := has_cell zr 6 rfl
    have zrlt := has_lt zr
    have ZRH := Lib.hid zr; clear zr
    go_wp2_with fail
    clear zrc0 zrc1 zrc2 zrc3 zrc4 zrc5 zrc6 zrlt
    have zr := ZRH.out; clear ZRH
    refine (below_any _ B g 30 (by omega) (by omega) HC.out).mono ?_
    rintro e w9 ⟨x5, hx50, hx51, rfl, hC9, hO9⟩
    replace zr := hoo' zr hO9 (by omega)
    have hmw9 := hO9.size
    have kk := only_trans HO.out hO9; clear HO; have HO := Lib.hid kk; clear kk
    clear HC; have HC := Lib.hid hC9; clear hC9 hO9
    have hsw9 := HO.out.size
    have zrc0 := has_cell zr 0 rfl; have zrc1 := has_cell zr 1 rfl; have zrc2 := has_cell zr 2 rfl; have zrc3 := has_cell zr 3 rfl; have zrc4 := has_cell zr 4 rfl; have zrc5 := has_cell zr 5 rfl; have zrc6 := has_cell zr 6 rfl
    have zrlt := has_lt zr
    have ZRH := Lib.hid zr; clear zr
    go_wp2_with fail
    clear zrc0 zrc1 zrc2 zrc3 zrc4 zrc5 zrc6 zrlt
    have zr := ZRH.out; clear ZRH
    refine (once_any _ B g 9 (by omega) (by omega) HC.out).mono ?_
    rintro e w10 ⟨x6, rfl, hC9, hO9⟩
    replace zr := hoo' zr hO9 (by omega)
    have hmw10 := hO9.size
    have kk := only_trans HO.out hO9; clear HO; have HO := Lib.hid kk; clear kk
    clear HC; have HC := Lib.hid hC9; clear hC9 hO9
    have hsw10 := HO.out.size
    have zrc0 := has_cell zr 0 rfl; have zrc1 := has_cell zr 1 rfl; have zrc2 := has_cell zr 2 rfl; have zrc3 := has_cell zr 3 rfl; have zrc4 := has_cell zr 4 rfl; have zrc5 := has_cell zr 5 rfl; have zrc6 := has_cell zr 6 rfl
    have zrf0 := has_free zr 0; have zrf1 := has_free zr 1; have zrf2 := has_free zr 2; have zrf3 := has_free zr 3; have zrf4 := has_free zr 4; have zrf5 := has_free zr 5; have zrf6 := has_free zr 6
    have zrlt := has_lt zr
    have ZRH := Lib.hid zr; clear zr
    go_wp2_with fail
    refine bodyPost_ret (v := .agg #[.int .i64 (1 + x1), .int .i64 6, .int .i64 x3, .int .i64 x4, .int .i64 x2, .int .i64 (x2 + 1 + x5), .bool x6]) ?_ ?_ ?_
    · simp [results, Try.results42, go_sem, zrc0, zrc1, zrc2, zrc3, zrc4, zrc5, zrc6, zrf0, zrf1, zrf2, zrf3, zrf4, zrf5, zrf6, zrlt]
    · rfl
    · exact ⟨_, _, _, _, _, _, _, rfl, grant_ok (by omega), by omega, by omega, by omega, cset7 HC.out (by omega) (by omega) _ _ _ _ _ _ _, oset7 HO.out (by omega) _ _ _ _ _ _ _⟩
  · skip
    have e0 : ((1 + x1) == (1 + x0)) = false := by rw [beq_eq_false_iff_ne]; omega
    have zrc0 := has_cell zr 0 rfl; have zrc1 := has_cell zr 1 rfl; have zrc2 := has_cell zr 2 rfl; have zrc3 := has_cell zr 3 rfl; have zrc4 := has_cell zr 4 rfl; have zrc5 := has_cell zr 5 rfl; have zrc6 := has_cell zr 6 rfl
    have zrlt := has_lt zr
    have ZRH := Lib.hid zr; clear zr
    go_wp2_with fail
    clear zrc0 zrc1 zrc2 zrc3 zrc4 zrc5 zrc6 zrlt
    have zr := ZRH.out; clear ZRH
    refine (below_any _ B g 12 (by omega) (by omega) HC.out).mono ?_
    rintro e w4 ⟨x2, hx20, hx21, rfl, hC9, hO9⟩
    replace zr := hoo' zr hO9 (by omega)
    have hmw4 := hO9.size
    have kk := only_trans HO.out hO9; clear HO; have HO := Lib.hid kk; clear kk
    clear HC; have HC := Lib.hid hC9; clear hC9 hO9
    have hsw4 := HO.out.size
    have zrc0 := has_cell zr 0 rfl; have zrc1 := has_cell zr 1 rfl; have zrc2 := has_cell zr 2 rfl; have zrc3 := has_cell zr 3 rfl; have zrc4 := has_cell zr 4 rfl; have zrc5 := has_cell zr 5 rfl; have zrc6 := has_cell zr 6 rfl
    have zrlt := has_lt zr
    have ZRH := Lib.hid zr; clear zr
    go_wp2_with fail
    clear zrc0 zrc1 zrc2 zrc3 zrc4 zrc5 zrc6 zrlt
    have zr := ZRH.out; clear ZRH
    generalize hX : (w4.alloc (.cells #[.int .i64 0, .int .i64 1, .int .i64 1, .int .i64 2] 3)) = w5
    have hb : Below w4.heap.size w4 w5 := by rw [← hX]; exact balloc _ _
    have hk : Has w5 w4.heap.size 3 #[.int .i64 0, .int .i64 1, .int .i64 1, .int .i64 2] := by rw [← hX]; exact has_new _ _ _
    clear hX
    replace zr := has_call zr hb
    have hmw5 := hb.size
    have kk := HC.out.bel hb; clear HC; have HC := Lib.hid kk; clear kk
    have kk := only_trans HO.out (only_bel (g := g) hb); clear HO; have HO := Lib.hid kk; clear kk hb
    have hsw5 := HO.out.size
    have zl3 := hk; clear hk; have hlzl3 := has_lt zl3
    refine (pickInt_any _ B g (w4.heap.size) 4 _ (0) 2 HC.out zl3 rfl (by omega) (by omega) (by omega) (by intro j hj; rcases j with _ | _ | _ | _ | j; exact ⟨_, by decide, by decide, rfl⟩; exact ⟨_, by decide, by decide, rfl⟩; exact ⟨_, by decide, by decide, rfl⟩; exact ⟨_, by decide, by decide, rfl⟩; omega)).mono ?_
    rintro e w6 ⟨x3, hx30, hx31, rfl, hC9, hO9⟩
    replace zr := hoo' zr hO9 (by omega)
    have hmw6 := hO9.size
    have kk := only_trans HO.out hO9; clear HO; have HO := Lib.hid kk; clear kk
    clear HC; have HC := Lib.hid hC9; clear hC9 hO9
    have hsw6 := HO.out.size
    clear zl3 hlzl3
    have zrc0 := has_cell zr 0 rfl; have zrc1 := has_cell zr 1 rfl; have zrc2 := has_cell zr 2 rfl; have zrc3 := has_cell zr 3 rfl; have zrc4 := has_cell zr 4 rfl; have zrc5 := has_cell zr 5 rfl; have zrc6 := has_cell zr 6 rfl
    have zrlt := has_lt zr
    have ZRH := Lib.hid zr; clear zr
    go_wp2_with fail
    clear zrc0 zrc1 zrc2 zrc3 zrc4 zrc5 zrc6 zrlt
    have zr := ZRH.out; clear ZRH
    generalize hX : (w6.alloc (.cells #[.int .i64 0, .int .i64 1, .int .i64 1, .int .i64 2, .int .i64 3, .int .i64 5] 3)) = w7
    have hb : Below w6.heap.size w6 w7 := by rw [← hX]; exact balloc _ _
    have hk : Has w7 w6.heap.size 3 #[.int .i64 0, .int .i64 1, .int .i64 1, .int .i64 2, .int .i64 3, .int .i64 5] := by rw [← hX]; exact has_new _ _ _
    clear hX
    replace zr := has_call zr hb
    have hmw7 := hb.size
    have kk := HC.out.bel hb; clear HC; have HC := Lib.hid kk; clear kk
    have kk := only_trans HO.out (only_bel (g := g) hb); clear HO; have HO := Lib.hid kk; clear kk hb
    have hsw7 := HO.out.size
    have zl4 := hk; clear hk; have hlzl4 := has_lt zl4
    refine (pickInt_any _ B g (w6.heap.size) 6 _ (0) 5 HC.out zl4 rfl (by omega) (by omega) (by omega) (by intro j hj; rcases j with _ | _ | _ | _ | _ | _ | j; exact ⟨_, by decide, by decide, rfl⟩; exact ⟨_, by decide, by decide, rfl⟩; exact ⟨_, by decide, by decide, rfl⟩; exact ⟨_, by decide, by decide, rfl⟩; exact ⟨_, by decide, by decide, rfl⟩; exact ⟨_, by decide, by decide, rfl⟩; omega)).mono ?_
    rintro e w8 ⟨x4, hx40, hx41, rfl, hC9, hO9⟩
    replace zr := hoo' zr hO9 (by omega)
    have hmw8 := hO9.size
    have kk := only_trans HO.out hO9; clear HO; have HO := Lib.hid kk; clear kk
    clear HC; have HC := Lib.hid hC9; clear hC9 hO9
    have hsw8 := HO.out.size
    clear zl4 hlzl4
    have zrc0 := has_cell zr 0 rfl; have zrc1 := has_cell zr 1 rfl; have zrc2 := has_cell zr 2 rfl; have zrc3 := has_cell zr 3 rfl; have zrc4 := has_cell zr 4 rfl; have zrc5 := has_cell zr 5 rfl; have zrc6 := has_cell zr 6 rfl
    have zrlt := has_lt zr
    have ZRH := Lib.hid zr; clear zr
    go_wp2_with fail
    clear zrc0 zrc1 zrc2 zrc3 zrc4 zrc5 zrc6 zrlt
    have zr := ZRH.out; clear ZRH
    refine (below_any _ B g 30 (by omega) (by omega) HC.out).mono ?_
    rintro e w9 ⟨x5, hx50, hx51, rfl, hC9, hO9⟩
    replace zr := hoo' zr hO9 (by omega)
    have hmw9 := hO9.size
    have kk := only_trans HO.out hO9; clear HO; have HO := Lib.hid kk; clear kk
    clear HC; have HC := Lib.hid hC9; clear hC9 hO9
    have hsw9 := HO.out.size
    have zrc0 := has_cell zr 0 rfl; have zrc1 := has_cell zr 1 rfl; have zrc2 := has_cell zr 2 rfl; have zrc3 := has_cell zr 3 rfl; have zrc4 := has_cell zr 4 rfl; have zrc5 := has_cell zr 5 rfl; have zrc6 := has_cell zr 6 rfl
    have zrlt := has_lt zr
    have ZRH := Lib.hid zr; clear zr
    go_wp2_with fail
    clear zrc0 zrc1 zrc2 zrc3 zrc4 zrc5 zrc6 zrlt
    have zr := ZRH.out; clear ZRH
    refine (once_any _ B g 9 (by omega) (by omega) HC.out).mono ?_
    rintro e w10 ⟨x6, rfl, hC9, hO9⟩
    replace zr := hoo' zr hO9 (by omega)
    have hmw10 := hO9.size
    have kk := only_trans HO.out hO9; clear HO; have HO := Lib.hid kk; clear kk
    clear HC; have HC := Lib.hid hC9; clear hC9 hO9
    have hsw10 := HO.out.size
    have zrc0 := has_cell zr 0 rfl; have zrc1 := has_cell zr 1 rfl; have zrc2 := has_cell zr 2 rfl; have zrc3 := has_cell zr 3 rfl; have zrc4 := has_cell zr 4 rfl; have zrc5 := has_cell zr 5 rfl; have zrc6 := has_cell zr 6 rfl
    have zrf0 := has_free zr 0; have zrf1 := has_free zr 1; have zrf2 := has_free zr 2; have zrf3 := has_free zr 3; have zrf4 := has_free zr 4; have zrf5 := has_free zr 5; have zrf6 := has_free zr 6
    have zrlt := has_lt zr
    have ZRH := Lib.hid zr; clear zr
    go_wp2_with fail
    refine bodyPost_ret (v := .agg #[.int .i64 (1 + x0), .int .i64 (1 + x1), .int .i64 x3, .int .i64 x4, .int .i64 x2, .int .i64 (x2 + 1 + x5), .bool x6]) ?_ ?_ ?_
    · simp [results, Try.results42, go_sem, zrc0, zrc1, zrc2, zrc3, zrc4, zrc5, zrc6, zrf0, zrf1, zrf2, zrf3, zrf4, zrf5, zrf6, zrlt]
    · rfl
    · exact ⟨_, _, _, _, _, _, _, rfl, grant_ok (by omega), by omega, by omega, by omega, cset7 HC.out (by omega) (by omega) _ _ _ _ _ _ _, oset7 HO.out (by omega) _ _ _ _ _ _ _⟩
set_option maxRecDepth 100000 in
set_option maxHeartbeats 4000000 in
theorem whoD_any (w : World) (B g : Nat) (hC : Cur w B g) : Calls Try.prog 30 #[.pointer (some ⟨g, 0, none⟩)] w (Drawn (-1) 41 w B g) := by
  have hlt := hC.lt; obtain ⟨hB, hg⟩ := hlt
  have HC := Lib.hid hC; clear hC
  have HO := Lib.hid (only_refl w g)
  have hsw := HO.out.size
  go_enter Try.func30, Try.ntmps30
  go_wp2_with fail
  refine (once_any _ B g 14 (by omega) (by omega) HC.out).mono ?_
  rintro e w1 ⟨x0, rfl, hC9, hO9⟩
  have hmw1 := hO9.size
  have kk := only_trans HO.out hO9; clear HO; have HO := Lib.hid kk; clear kk
  clear HC; have HC := Lib.hid hC9; clear hC9 hO9
  have hsw1 := HO.out.size
  cases x0
  · skip
    go_wp2_with fail
    refine (below_any _ B g 6 (by omega) (by omega) HC.out).mono ?_
    rintro e w2 ⟨x1, hx10, hx11, rfl, hC9, hO9⟩
    have hmw2 := hO9.size
    have kk := only_trans HO.out hO9; clear HO; have HO := Lib.hid kk; clear kk
    clear HC; have HC := Lib.hid hC9; clear hC9 hO9
    have hsw2 := HO.out.size
    go_wp2_with fail
    go_ret
    exact ⟨_, by omega, by omega, rfl, HC.out, HO.out⟩
  · skip
    go_wp2_with fail
    generalize hX : (w1.alloc (.cells #[.int .i64 0, .int .i64 40, .int .i64 41, .int .i64 (-1)] 3)) = w2
    have hb : Below w1.heap.size w1 w2 := by rw [← hX]; exact balloc _ _
    have hk : Has w2 w1.heap.size 3 #[.int .i64 0, .int .i64 40, .int .i64 41, .int .i64 (-1)] := by rw [← hX]; exact has_new _ _ _
    clear hX
    have hmw2 := hb.size
    have kk := HC.out.bel hb; clear HC; have HC := Lib.hid kk; clear kk
    have kk := only_trans HO.out (only_bel (g := g) hb); clear HO; have HO := Lib.hid kk; clear kk hb
    have hsw2 := HO.out.size
    have zl1 := hk; clear hk; have hlzl1 := has_lt zl1
    refine (pickInt_any _ B g (w1.heap.size) 4 _ (-1) 41 HC.out zl1 rfl (by omega) (by omega) (by omega) (by intro j hj; rcases j with _ | _ | _ | _ | j; exact ⟨_, by decide, by decide, rfl⟩; exact ⟨_, by decide, by decide, rfl⟩; exact ⟨_, by decide, by decide, rfl⟩; exact ⟨_, by decide, by decide, rfl⟩; omega)).mono ?_
    rintro e w3 ⟨x1, hx10, hx11, rfl, hC9, hO9⟩
    have hmw3 := hO9.size
    have kk := only_trans HO.out hO9; clear HO; have HO := Lib.hid kk; clear kk
    clear HC; have HC := Lib.hid hC9; clear hC9 hO9
    have hsw3 := HO.out.size
    clear zl1 hlzl1
    go_wp2_with fail
    go_ret
    exact ⟨_, by omega, by omega, rfl, HC.out, HO.out⟩
end Go.Proofs.Ytdaeljjjcgpcoaa
