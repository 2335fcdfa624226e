/- Chapter 6: the drawing of terms and stays that may be anything (gen_dfb.py). -/
import Derived.Test.YtfkhhefphbhppaaFeeW
import Derived.Test.YtfkhhefphbhppaaFeeR
import Derived.Test.YtfkhhefphbhppaaFeeS
namespace Go.Proofs.Ytfkhhefphbhppaa
open Go.RowKit
set_option linter.unusedVariables false
/-- terms that may be anything -/
def DrawnA (w : World) (B g : Nat) (e : Ending) (w' : World) : Prop := ∃ t : Tm, e = .returned (.agg #[.int .i64 t.keep, .int .i64 t.free, .int .i64 t.step, .int .i64 t.rate, .int .i64 t.cap, .int .i64 t.longer, .int .i64 t.price, .int .i64 t.most]) ∧ Cur w' B g ∧ Only w g w'

set_option maxRecDepth 100000 in
set_option maxHeartbeats 4000000 in
theorem sizeD_any (w : World) (B g : Nat) (hC : Cur w B g) : Calls Try.prog 30 #[.pointer (some ⟨g, 0, none⟩)] w (Drawn 0 25 w B g) := by
  have hlt := hC.lt; obtain ⟨hB, hg⟩ := hlt
  have HC := Lib.hid hC; clear hC
  have HO := Lib.hid (only_refl w g)
  have hsw := HO.out.size
  go_enter Try.func30, Try.ntmps30
  go_wp2_with fail
  refine (once_any _ B g 12 (by omega) (by omega) HC.out).mono ?_
  rintro e w1 ⟨x0, rfl, hC9, hO9⟩
  have hmw1 := hO9.size
  have kk := only_trans HO.out hO9; clear HO; have HO := Lib.hid kk; clear kk
  clear HC; have HC := Lib.hid hC9; clear hC9 hO9
  have hsw1 := HO.out.size
  cases x0
  · skip
    go_wp2_with fail
    refine (below_any _ B g 4 (by omega) (by omega) HC.out).mono ?_
    rintro e w2 ⟨x1, hx10, hx11, rfl, hC9, hO9⟩
    have hmw2 := hO9.size
    have kk := only_trans HO.out hO9; clear HO; have HO := Lib.hid kk; clear kk
    clear HC; have HC := Lib.hid hC9; clear hC9 hO9
    have hsw2 := HO.out.size
    go_wp2_with fail
    go_ret
    exact ⟨_, by omega, by omega, rfl, HC.out, HO.out⟩
  · skip
    go_wp2_with fail
    generalize hX : (w1.alloc (.cells #[.int .i64 0, .int .i64 24, .int .i64 25] 3)) = w2
    have hb : Below w1.heap.size w1 w2 := by rw [← hX]; exact balloc _ _
    have hk : Has w2 w1.heap.size 3 #[.int .i64 0, .int .i64 24, .int .i64 25] := by rw [← hX]; exact has_new _ _ _
    clear hX
    have hmw2 := hb.size
    have kk := HC.out.bel hb; clear HC; have HC := Lib.hid kk; clear kk
    have kk := only_trans HO.out (only_bel (g := g) hb); clear HO; have HO := Lib.hid kk; clear kk hb
    have hsw2 := HO.out.size
    have zl1 := hk; clear hk; have hlzl1 := has_lt zl1
    refine (pickInt_any _ B g (w1.heap.size) 3 _ (0) 25 HC.out zl1 rfl (by omega) (by omega) (by omega) (by intro j hj; rcases j with _ | _ | _ | j; exact ⟨_, by decide, by decide, rfl⟩; exact ⟨_, by decide, by decide, rfl⟩; exact ⟨_, by decide, by decide, rfl⟩; omega)).mono ?_
    rintro e w3 ⟨x1, hx10, hx11, rfl, hC9, hO9⟩
    have hmw3 := hO9.size
    have kk := only_trans HO.out hO9; clear HO; have HO := Lib.hid kk; clear kk
    clear HC; have HC := Lib.hid hC9; clear hC9 hO9
    have hsw3 := HO.out.size
    clear zl1 hlzl1
    go_wp2_with fail
    go_ret
    exact ⟨_, by omega, by omega, rfl, HC.out, HO.out⟩
set_option maxRecDepth 100000 in
set_option maxHeartbeats 16000000 in
theorem anyTD_any (w : World) (B g : Nat) (hC : Cur w B g) : Calls Try.prog 14 #[.pointer (some ⟨g, 0, none⟩)] w (DrawnA w B g) := by
  have hlt := hC.lt; obtain ⟨hB, hg⟩ := hlt
  have HC := Lib.hid hC; clear hC
  have HO := Lib.hid (only_refl w g)
  have hsw := HO.out.size
  go_enter Try.func14, Try.ntmps14
  go_wp2_with fail
  generalize hX : (w.alloc (.cells #[.int .i64 0, .int .i64 0, .int .i64 0, .int .i64 0, .int .i64 0, .int .i64 0, .int .i64 0, .int .i64 0] 35)) = w1
  have hb : Below w.heap.size w w1 := by rw [← hX]; exact balloc _ _
  have hk : Has w1 w.heap.size 35 #[.int .i64 0, .int .i64 0, .int .i64 0, .int .i64 0, .int .i64 0, .int .i64 0, .int .i64 0, .int .i64 0] := by rw [← hX]; exact has_new _ _ _
  clear hX
  have hmw1 := hb.size
  have kk := HC.out.bel hb; clear HC; have HC := Lib.hid kk; clear kk
  have kk := only_trans HO.out (only_bel (g := g) hb); clear HO; have HO := Lib.hid kk; clear kk hb
  have hsw1 := HO.out.size
  have zr := hk; clear hk; have hlzr := has_lt zr
  refine (termsD_any _ B g HC.out).mono ?_
  rintro e w2 ⟨t, rfl, ht, hm, hC9, hO9⟩
  replace zr := hoo6 zr hO9 (by omega)
  have hmw2 := hO9.size
  have kk := only_trans HO.out hO9; clear HO; have HO := Lib.hid kk; clear kk
  clear HC; have HC := Lib.hid hC9; clear hC9 hO9
  have hsw2 := HO.out.size
  clear ht hm
  have zrc0 := has_cell zr 0 rfl; have zrc1 := has_cell zr 1 rfl; have zrc2 := has_cell zr 2 rfl; have zrc3 := has_cell zr 3 rfl; have zrc4 := has_cell zr 4 rfl; have zrc5 := has_cell zr 5 rfl; have zrc6 := has_cell zr 6 rfl; have zrc7 := has_cell zr 7 rfl
  have zrlt := has_lt zr
  have ZRH := Lib.hid zr; clear zr
  go_wp2_with fail
  clear zrc0 zrc1 zrc2 zrc3 zrc4 zrc5 zrc6 zrc7 zrlt
  have zr := ZRH.out; clear ZRH
  have hne1 : ¬ w.heap.size = w2.heap.size := by omega
  have hne2 : ¬ w2.heap.size = w.heap.size := by omega
  generalize hX : (w2.alloc (.cells #[.int .i64 t.keep, .int .i64 t.free, .int .i64 t.step, .int .i64 t.rate, .int .i64 t.cap, .int .i64 t.longer, .int .i64 t.price, .int .i64 t.most] 35)) = w3
  have hb : Below w2.heap.size w2 w3 := by rw [← hX]; exact balloc _ _
  have hk : Has w3 w2.heap.size 35 #[.int .i64 t.keep, .int .i64 t.free, .int .i64 t.step, .int .i64 t.rate, .int .i64 t.cap, .int .i64 t.longer, .int .i64 t.price, .int .i64 t.most] := by rw [← hX]; exact has_new _ _ _
  clear hX
  replace zr := has_call zr hb
  have hmw3 := hb.size
  have kk := HC.out.bel hb; clear HC; have HC := Lib.hid kk; clear kk
  have kk := only_trans HO.out (only_bel (g := g) hb); clear HO; have HO := Lib.hid kk; clear kk hb
  have hsw3 := HO.out.size
  have zt := hk; clear hk; have hlzt := has_lt zt
  refine (below_any _ B g 16 (by omega) (by omega) HC.out).mono ?_
  rintro e w4 ⟨x0, hx00, hx01, rfl, hC9, hO9⟩
  replace zr := hoo6 zr hO9 (by omega)
  replace zt := hoo6 zt hO9 (by omega)
  have hmw4 := hO9.size
  have kk := only_trans HO.out hO9; clear HO; have HO := Lib.hid kk; clear kk
  clear HC; have HC := Lib.hid hC9; clear hC9 hO9
  have hsw4 := HO.out.size
  have hcs : x0 = 0 ∨ x0 = 1 ∨ x0 = 2 ∨ x0 = 3 ∨ x0 = 4 ∨ 5 ≤ x0 := by omega
  rcases hcs with rfl | rfl | rfl | rfl | rfl | hcs
  · skip
    clear hx00 hx01
    have zrc0 := has_cell zr 0 rfl; have zrc1 := has_cell zr 1 rfl; have zrc2 := has_cell zr 2 rfl; have zrc3 := has_cell zr 3 rfl; have zrc4 := has_cell zr 4 rfl; have zrc5 := has_cell zr 5 rfl; have zrc6 := has_cell zr 6 rfl; have zrc7 := has_cell zr 7 rfl
    have zrlt := has_lt zr
    have ztc0 := has_cell zt 0 rfl; have ztc1 := has_cell zt 1 rfl; have ztc2 := has_cell zt 2 rfl; have ztc3 := has_cell zt 3 rfl; have ztc4 := has_cell zt 4 rfl; have ztc5 := has_cell zt 5 rfl; have ztc6 := has_cell zt 6 rfl; have ztc7 := has_cell zt 7 rfl
    have ztlt := has_lt zt
    have ZRH := Lib.hid zr; clear zr
    have ZTH := Lib.hid zt; clear zt
    go_wp2_with fail
    clear zrc0 zrc1 zrc2 zrc3 zrc4 zrc5 zrc6 zrc7 zrlt ztc0 ztc1 ztc2 ztc3 ztc4 ztc5 ztc6 ztc7 ztlt
    have zr := ZRH.out; clear ZRH
    have zt := ZTH.out; clear ZTH
    generalize hX : (w4.alloc (.cells #[.int .i64 0, .int .i64 2000, .int .i64 2001] 3)) = w5
    have hb : Below w4.heap.size w4 w5 := by rw [← hX]; exact balloc _ _
    have hk : Has w5 w4.heap.size 3 #[.int .i64 0, .int .i64 2000, .int .i64 2001] := by rw [← hX]; exact has_new _ _ _
    clear hX
    replace zr := has_call zr hb
    replace zt := has_call zt hb
    have hmw5 := hb.size
    have kk := HC.out.bel hb; clear HC; have HC := Lib.hid kk; clear kk
    have kk := only_trans HO.out (only_bel (g := g) hb); clear HO; have HO := Lib.hid kk; clear kk hb
    have hsw5 := HO.out.size
    have zl9 := hk; clear hk; have hlzl9 := has_lt zl9
    refine (pickInt_any _ B g (w4.heap.size) 3 _ (0) 2001 HC.out zl9 rfl (by omega) (by omega) (by omega) (by intro j hj; rcases j with _ | _ | _ | j; exact ⟨_, by decide, by decide, rfl⟩; exact ⟨_, by decide, by decide, rfl⟩; exact ⟨_, by decide, by decide, rfl⟩; omega)).mono ?_
    rintro e w6 ⟨x9, hx90, hx91, rfl, hC9, hO9⟩
    replace zr := hoo6 zr hO9 (by omega)
    replace zt := hoo6 zt hO9 (by omega)
    have hmw6 := hO9.size
    have kk := only_trans HO.out hO9; clear HO; have HO := Lib.hid kk; clear kk
    clear HC; have HC := Lib.hid hC9; clear hC9 hO9
    have hsw6 := HO.out.size
    clear zl9 hlzl9
    have zrc0 := has_cell zr 0 rfl; have zrc1 := has_cell zr 1 rfl; have zrc2 := has_cell zr 2 rfl; have zrc3 := has_cell zr 3 rfl; have zrc4 := has_cell zr 4 rfl; have zrc5 := has_cell zr 5 rfl; have zrc6 := has_cell zr 6 rfl; have zrc7 := has_cell zr 7 rfl
    have zrf0 := has_free zr 0; have zrf1 := has_free zr 1; have zrf2 := has_free zr 2; have zrf3 := has_free zr 3; have zrf4 := has_free zr 4; have zrf5 := has_free zr 5; have zrf6 := has_free zr 6; have zrf7 := has_free zr 7
    have zrlt := has_lt zr
    have ztc0 := has_cell zt 0 rfl; have ztc1 := has_cell zt 1 rfl; have ztc2 := has_cell zt 2 rfl; have ztc3 := has_cell zt 3 rfl; have ztc4 := has_cell zt 4 rfl; have ztc5 := has_cell zt 5 rfl; have ztc6 := has_cell zt 6 rfl; have ztc7 := has_cell zt 7 rfl
    have ztf0 := has_free zt 0; have ztf1 := has_free zt 1; have ztf2 := has_free zt 2; have ztf3 := has_free zt 3; have ztf4 := has_free zt 4; have ztf5 := has_free zt 5; have ztf6 := has_free zt 6; have ztf7 := has_free zt 7
    have ztlt := has_lt zt
    have ZRH := Lib.hid zr; clear zr
    have ZTH := Lib.hid zt; clear zt
    go_wp2_with fail
    refine bodyPost_ret (v := .agg #[.int .i64 x9, .int .i64 t.free, .int .i64 t.step, .int .i64 t.rate, .int .i64 t.cap, .int .i64 t.longer, .int .i64 t.price, .int .i64 t.most]) ?_ ?_ ?_
    · simp [results, Try.results14, go_sem, hne1, hne2, zrc0, zrc1, zrc2, zrc3, zrc4, zrc5, zrc6, zrc7, zrf0, zrf1, zrf2, zrf3, zrf4, zrf5, zrf6, zrf7, zrlt, ztc0, ztc1, ztc2, ztc3, ztc4, ztc5, ztc6, ztc7, ztf0, ztf1, ztf2, ztf3, ztf4, ztf5, ztf6, ztf7, ztlt]
    · rfl
    · exact ⟨⟨x9, t.free, t.step, t.rate, t.cap, t.longer, t.price, t.most⟩, rfl, cset8 (HC.out.setn (by omega) (by omega) _ _) (by omega) (by omega) _ _ _ _ _ _ _ _, oset8 (only_setn HO.out (by omega) _ _) (by omega) _ _ _ _ _ _ _ _⟩
  · skip
    clear hx00 hx01
    have zrc0 := has_cell zr 0 rfl; have zrc1 := has_cell zr 1 rfl; have zrc2 := has_cell zr 2 rfl; have zrc3 := has_cell zr 3 rfl; have zrc4 := has_cell zr 4 rfl; have zrc5 := has_cell zr 5 rfl; have zrc6 := has_cell zr 6 rfl; have zrc7 := has_cell zr 7 rfl
    have zrlt := has_lt zr
    have ztc0 := has_cell zt 0 rfl; have ztc1 := has_cell zt 1 rfl; have ztc2 := has_cell zt 2 rfl; have ztc3 := has_cell zt 3 rfl; have ztc4 := has_cell zt 4 rfl; have ztc5 := has_cell zt 5 rfl; have ztc6 := has_cell zt 6 rfl; have ztc7 := has_cell zt 7 rfl
    have ztlt := has_lt zt
    have ZRH := Lib.hid zr; clear zr
    have ZTH := Lib.hid zt; clear zt
    go_wp2_with fail
    clear zrc0 zrc1 zrc2 zrc3 zrc4 zrc5 zrc6 zrc7 zrlt ztc0 ztc1 ztc2 ztc3 ztc4 ztc5 ztc6 ztc7 ztlt
    have zr := ZRH.out; clear ZRH
    have zt := ZTH.out; clear ZTH
    generalize hX : (w4.alloc (.cells #[.int .i64 0, .int .i64 (-1), .int .i64 2000] 3)) = w5
    have hb : Below w4.heap.size w4 w5 := by rw [← hX]; exact balloc _ _
    have hk : Has w5 w4.heap.size 3 #[.int .i64 0, .int .i64 (-1), .int .i64 2000] := by rw [← hX]; exact has_new _ _ _
    clear hX
    replace zr := has_call zr hb
    replace zt := has_call zt hb
    have hmw5 := hb.size
    have kk := HC.out.bel hb; clear HC; have HC := Lib.hid kk; clear kk
    have kk := only_trans HO.out (only_bel (g := g) hb); clear HO; have HO := Lib.hid kk; clear kk hb
    have hsw5 := HO.out.size
    have zl9 := hk; clear hk; have hlzl9 := has_lt zl9
    refine (pickInt_any _ B g (w4.heap.size) 3 _ ((-1)) 2001 HC.out zl9 rfl (by omega) (by omega) (by omega) (by intro j hj; rcases j with _ | _ | _ | j; exact ⟨_, by decide, by decide, rfl⟩; exact ⟨_, by decide, by decide, rfl⟩; exact ⟨_, by decide, by decide, rfl⟩; omega)).mono ?_
    rintro e w6 ⟨x9, hx90, hx91, rfl, hC9, hO9⟩
    replace zr := hoo6 zr hO9 (by omega)
    replace zt := hoo6 zt hO9 (by omega)
    have hmw6 := hO9.size
    have kk := only_trans HO.out hO9; clear HO; have HO := Lib.hid kk; clear kk
    clear HC; have HC := Lib.hid hC9; clear hC9 hO9
    have hsw6 := HO.out.size
    clear zl9 hlzl9
    have zrc0 := has_cell zr 0 rfl; have zrc1 := has_cell zr 1 rfl; have zrc2 := has_cell zr 2 rfl; have zrc3 := has_cell zr 3 rfl; have zrc4 := has_cell zr 4 rfl; have zrc5 := has_cell zr 5 rfl; have zrc6 := has_cell zr 6 rfl; have zrc7 := has_cell zr 7 rfl
    have zrf0 := has_free zr 0; have zrf1 := has_free zr 1; have zrf2 := has_free zr 2; have zrf3 := has_free zr 3; have zrf4 := has_free zr 4; have zrf5 := has_free zr 5; have zrf6 := has_free zr 6; have zrf7 := has_free zr 7
    have zrlt := has_lt zr
    have ztc0 := has_cell zt 0 rfl; have ztc1 := has_cell zt 1 rfl; have ztc2 := has_cell zt 2 rfl; have ztc3 := has_cell zt 3 rfl; have ztc4 := has_cell zt 4 rfl; have ztc5 := has_cell zt 5 rfl; have ztc6 := has_cell zt 6 rfl; have ztc7 := has_cell zt 7 rfl
    have ztf0 := has_free zt 0; have ztf1 := has_free zt 1; have ztf2 := has_free zt 2; have ztf3 := has_free zt 3; have ztf4 := has_free zt 4; have ztf5 := has_free zt 5; have ztf6 := has_free zt 6; have ztf7 := has_free zt 7
    have ztlt := has_lt zt
    have ZRH := Lib.hid zr; clear zr
    have ZTH := Lib.hid zt; clear zt
    go_wp2_with fail
    refine bodyPost_ret (v := .agg #[.int .i64 t.keep, .int .i64 t.free, .int .i64 x9, .int .i64 t.rate, .int .i64 t.cap, .int .i64 t.longer, .int .i64 t.price, .int .i64 t.most]) ?_ ?_ ?_
    · simp [results, Try.results14, go_sem, hne1, hne2, zrc0, zrc1, zrc2, zrc3, zrc4, zrc5, zrc6, zrc7, zrf0, zrf1, zrf2, zrf3, zrf4, zrf5, zrf6, zrf7, zrlt, ztc0, ztc1, ztc2, ztc3, ztc4, ztc5, ztc6, ztc7, ztf0, ztf1, ztf2, ztf3, ztf4, ztf5, ztf6, ztf7, ztlt]
    · rfl
    · exact ⟨⟨t.keep, t.free, x9, t.rate, t.cap, t.longer, t.price, t.most⟩, rfl, cset8 (HC.out.setn (by omega) (by omega) _ _) (by omega) (by omega) _ _ _ _ _ _ _ _, oset8 (only_setn HO.out (by omega) _ _) (by omega) _ _ _ _ _ _ _ _⟩
  · skip
    clear hx00 hx01
    have zrc0 := has_cell zr 0 rfl; have zrc1 := has_cell zr 1 rfl; have zrc2 := has_cell zr 2 rfl; have zrc3 := has_cell zr 3 rfl; have zrc4 := has_cell zr 4 rfl; have zrc5 := has_cell zr 5 rfl; have zrc6 := has_cell zr 6 rfl; have zrc7 := has_cell zr 7 rfl
    have zrlt := has_lt zr
    have ztc0 := has_cell zt 0 rfl; have ztc1 := has_cell zt 1 rfl; have ztc2 := has_cell zt 2 rfl; have ztc3 := has_cell zt 3 rfl; have ztc4 := has_cell zt 4 rfl; have ztc5 := has_cell zt 5 rfl; have ztc6 := has_cell zt 6 rfl; have ztc7 := has_cell zt 7 rfl
    have ztlt := has_lt zt
    have ZRH := Lib.hid zr; clear zr
    have ZTH := Lib.hid zt; clear zt
    go_wp2_with fail
    clear zrc0 zrc1 zrc2 zrc3 zrc4 zrc5 zrc6 zrc7 zrlt ztc0 ztc1 ztc2 ztc3 ztc4 ztc5 ztc6 ztc7 ztlt
    have zr := ZRH.out; clear ZRH
    have zt := ZTH.out; clear ZTH
    generalize hX : (w4.alloc (.cells #[.int .i64 0, .int .i64 2001] 3)) = w5
    have hb : Below w4.heap.size w4 w5 := by rw [← hX]; exact balloc _ _
    have hk : Has w5 w4.heap.size 3 #[.int .i64 0, .int .i64 2001] := by rw [← hX]; exact has_new _ _ _
    clear hX
    replace zr := has_call zr hb
    replace zt := has_call zt hb
    have hmw5 := hb.size
    have kk := HC.out.bel hb; clear HC; have HC := Lib.hid kk; clear kk
    have kk := only_trans HO.out (only_bel (g := g) hb); clear HO; have HO := Lib.hid kk; clear kk hb
    have hsw5 := HO.out.size
    have zl9 := hk; clear hk; have hlzl9 := has_lt zl9
    refine (pickInt_any _ B g (w4.heap.size) 2 _ (0) 2001 HC.out zl9 rfl (by omega) (by omega) (by omega) (by intro j hj; rcases j with _ | _ | j; exact ⟨_, by decide, by decide, rfl⟩; exact ⟨_, by decide, by decide, rfl⟩; omega)).mono ?_
    rintro e w6 ⟨x9, hx90, hx91, rfl, hC9, hO9⟩
    replace zr := hoo6 zr hO9 (by omega)
    replace zt := hoo6 zt hO9 (by omega)
    have hmw6 := hO9.size
    have kk := only_trans HO.out hO9; clear HO; have HO := Lib.hid kk; clear kk
    clear HC; have HC := Lib.hid hC9; clear hC9 hO9
    have hsw6 := HO.out.size
    clear zl9 hlzl9
    have zrc0 := has_cell zr 0 rfl; have zrc1 := has_cell zr 1 rfl; have zrc2 := has_cell zr 2 rfl; have zrc3 := has_cell zr 3 rfl; have zrc4 := has_cell zr 4 rfl; have zrc5 := has_cell zr 5 rfl; have zrc6 := has_cell zr 6 rfl; have zrc7 := has_cell zr 7 rfl
    have zrf0 := has_free zr 0; have zrf1 := has_free zr 1; have zrf2 := has_free zr 2; have zrf3 := has_free zr 3; have zrf4 := has_free zr 4; have zrf5 := has_free zr 5; have zrf6 := has_free zr 6; have zrf7 := has_free zr 7
    have zrlt := has_lt zr
    have ztc0 := has_cell zt 0 rfl; have ztc1 := has_cell zt 1 rfl; have ztc2 := has_cell zt 2 rfl; have ztc3 := has_cell zt 3 rfl; have ztc4 := has_cell zt 4 rfl; have ztc5 := has_cell zt 5 rfl; have ztc6 := has_cell zt 6 rfl; have ztc7 := has_cell zt 7 rfl
    have ztf0 := has_free zt 0; have ztf1 := has_free zt 1; have ztf2 := has_free zt 2; have ztf3 := has_free zt 3; have ztf4 := has_free zt 4; have ztf5 := has_free zt 5; have ztf6 := has_free zt 6; have ztf7 := has_free zt 7
    have ztlt := has_lt zt
    have ZRH := Lib.hid zr; clear zr
    have ZTH := Lib.hid zt; clear zt
    go_wp2_with fail
    refine bodyPost_ret (v := .agg #[.int .i64 t.keep, .int .i64 t.free, .int .i64 t.step, .int .i64 t.rate, .int .i64 t.cap, .int .i64 x9, .int .i64 t.price, .int .i64 t.most]) ?_ ?_ ?_
    · simp [results, Try.results14, go_sem, hne1, hne2, zrc0, zrc1, zrc2, zrc3, zrc4, zrc5, zrc6, zrc7, zrf0, zrf1, zrf2, zrf3, zrf4, zrf5, zrf6, zrf7, zrlt, ztc0, ztc1, ztc2, ztc3, ztc4, ztc5, ztc6, ztc7, ztf0, ztf1, ztf2, ztf3, ztf4, ztf5, ztf6, ztf7, ztlt]
    · rfl
    · exact ⟨⟨t.keep, t.free, t.step, t.rate, t.cap, x9, t.price, t.most⟩, rfl, cset8 (HC.out.setn (by omega) (by omega) _ _) (by omega) (by omega) _ _ _ _ _ _ _ _, oset8 (only_setn HO.out (by omega) _ _) (by omega) _ _ _ _ _ _ _ _⟩
  · skip
    clear hx00 hx01
    have zrc0 := has_cell zr 0 rfl; have zrc1 := has_cell zr 1 rfl; have zrc2 := has_cell zr 2 rfl; have zrc3 := has_cell zr 3 rfl; have zrc4 := has_cell zr 4 rfl; have zrc5 := has_cell zr 5 rfl; have zrc6 := has_cell zr 6 rfl; have zrc7 := has_cell zr 7 rfl
    have zrlt := has_lt zr
    have ztc0 := has_cell zt 0 rfl; have ztc1 := has_cell zt 1 rfl; have ztc2 := has_cell zt 2 rfl; have ztc3 := has_cell zt 3 rfl; have ztc4 := has_cell zt 4 rfl; have ztc5 := has_cell zt 5 rfl; have ztc6 := has_cell zt 6 rfl; have ztc7 := has_cell zt 7 rfl
    have ztlt := has_lt zt
    have ZRH := Lib.hid zr; clear zr
    have ZTH := Lib.hid zt; clear zt
    go_wp2_with fail
    clear zrc0 zrc1 zrc2 zrc3 zrc4 zrc5 zrc6 zrc7 zrlt ztc0 ztc1 ztc2 ztc3 ztc4 ztc5 ztc6 ztc7 ztlt
    have zr := ZRH.out; clear ZRH
    have zt := ZTH.out; clear ZTH
    generalize hX : (w4.alloc (.cells #[.int .i64 (-1), .int .i64 20, .int .i64 21] 3)) = w5
    have hb : Below w4.heap.size w4 w5 := by rw [← hX]; exact balloc _ _
    have hk : Has w5 w4.heap.size 3 #[.int .i64 (-1), .int .i64 20, .int .i64 21] := by rw [← hX]; exact has_new _ _ _
    clear hX
    replace zr := has_call zr hb
    replace zt := has_call zt hb
    have hmw5 := hb.size
    have kk := HC.out.bel hb; clear HC; have HC := Lib.hid kk; clear kk
    have kk := only_trans HO.out (only_bel (g := g) hb); clear HO; have HO := Lib.hid kk; clear kk hb
    have hsw5 := HO.out.size
    have zl9 := hk; clear hk; have hlzl9 := has_lt zl9
    refine (pickInt_any _ B g (w4.heap.size) 3 _ ((-1)) 2001 HC.out zl9 rfl (by omega) (by omega) (by omega) (by intro j hj; rcases j with _ | _ | _ | j; exact ⟨_, by decide, by decide, rfl⟩; exact ⟨_, by decide, by decide, rfl⟩; exact ⟨_, by decide, by decide, rfl⟩; omega)).mono ?_
    rintro e w6 ⟨x9, hx90, hx91, rfl, hC9, hO9⟩
    replace zr := hoo6 zr hO9 (by omega)
    replace zt := hoo6 zt hO9 (by omega)
    have hmw6 := hO9.size
    have kk := only_trans HO.out hO9; clear HO; have HO := Lib.hid kk; clear kk
    clear HC; have HC := Lib.hid hC9; clear hC9 hO9
    have hsw6 := HO.out.size
    clear zl9 hlzl9
    have zrc0 := has_cell zr 0 rfl; have zrc1 := has_cell zr 1 rfl; have zrc2 := has_cell zr 2 rfl; have zrc3 := has_cell zr 3 rfl; have zrc4 := has_cell zr 4 rfl; have zrc5 := has_cell zr 5 rfl; have zrc6 := has_cell zr 6 rfl; have zrc7 := has_cell zr 7 rfl
    have zrf0 := has_free zr 0; have zrf1 := has_free zr 1; have zrf2 := has_free zr 2; have zrf3 := has_free zr 3; have zrf4 := has_free zr 4; have zrf5 := has_free zr 5; have zrf6 := has_free zr 6; have zrf7 := has_free zr 7
    have zrlt := has_lt zr
    have ztc0 := has_cell zt 0 rfl; have ztc1 := has_cell zt 1 rfl; have ztc2 := has_cell zt 2 rfl; have ztc3 := has_cell zt 3 rfl; have ztc4 := has_cell zt 4 rfl; have ztc5 := has_cell zt 5 rfl; have ztc6 := has_cell zt 6 rfl; have ztc7 := has_cell zt 7 rfl
    have ztf0 := has_free zt 0; have ztf1 := has_free zt 1; have ztf2 := has_free zt 2; have ztf3 := has_free zt 3; have ztf4 := has_free zt 4; have ztf5 := has_free zt 5; have ztf6 := has_free zt 6; have ztf7 := has_free zt 7
    have ztlt := has_lt zt
    have ZRH := Lib.hid zr; clear zr
    have ZTH := Lib.hid zt; clear zt
    go_wp2_with fail
    refine bodyPost_ret (v := .agg #[.int .i64 t.keep, .int .i64 t.free, .int .i64 t.step, .int .i64 t.rate, .int .i64 t.cap, .int .i64 t.longer, .int .i64 t.price, .int .i64 x9]) ?_ ?_ ?_
    · simp [results, Try.results14, go_sem, hne1, hne2, zrc0, zrc1, zrc2, zrc3, zrc4, zrc5, zrc6, zrc7, zrf0, zrf1, zrf2, zrf3, zrf4, zrf5, zrf6, zrf7, zrlt, ztc0, ztc1, ztc2, ztc3, ztc4, ztc5, ztc6, ztc7, ztf0, ztf1, ztf2, ztf3, ztf4, ztf5, ztf6, ztf7, ztlt]
    · rfl
    · exact ⟨⟨t.keep, t.free, t.step, t.rate, t.cap, t.longer, t.price, x9⟩, rfl, cset8 (HC.out.setn (by omega) (by omega) _ _) (by omega) (by omega) _ _ _ _ _ _ _ _, oset8 (only_setn HO.out (by omega) _ _) (by omega) _ _ _ _ _ _ _ _⟩
  · skip
    clear hx00 hx01
    have zrc0 := has_cell zr 0 rfl; have zrc1 := has_cell zr 1 rfl; have zrc2 := has_cell zr 2 rfl; have zrc3 := has_cell zr 3 rfl; have zrc4 := has_cell zr 4 rfl; have zrc5 := has_cell zr 5 rfl; have zrc6 := has_cell zr 6 rfl; have zrc7 := has_cell zr 7 rfl
    have zrlt := has_lt zr
    have ztc0 := has_cell zt 0 rfl; have ztc1 := has_cell zt 1 rfl; have ztc2 := has_cell zt 2 rfl; have ztc3 := has_cell zt 3 rfl; have ztc4 := has_cell zt 4 rfl; have ztc5 := has_cell zt 5 rfl; have ztc6 := has_cell zt 6 rfl; have ztc7 := has_cell zt 7 rfl
    have ztlt := has_lt zt
    have ZRH := Lib.hid zr; clear zr
    have ZTH := Lib.hid zt; clear zt
    go_wp2_with fail
    clear zrc0 zrc1 zrc2 zrc3 zrc4 zrc5 zrc6 zrc7 zrlt ztc0 ztc1 ztc2 ztc3 ztc4 ztc5 ztc6 ztc7 ztlt
    have zr := ZRH.out; clear ZRH
    have zt := ZTH.out; clear ZTH
    generalize hX : (w4.alloc (.cells #[.int .i64 (-1), .int .i64 2000, .int .i64 2001] 3)) = w5
    have hb : Below w4.heap.size w4 w5 := by rw [← hX]; exact balloc _ _
    have hk : Has w5 w4.heap.size 3 #[.int .i64 (-1), .int .i64 2000, .int .i64 2001] := by rw [← hX]; exact has_new _ _ _
    clear hX
    replace zr := has_call zr hb
    replace zt := has_call zt hb
    have hmw5 := hb.size
    have kk := HC.out.bel hb; clear HC; have HC := Lib.hid kk; clear kk
    have kk := only_trans HO.out (only_bel (g := g) hb); clear HO; have HO := Lib.hid kk; clear kk hb
    have hsw5 := HO.out.size
    have zl9 := hk; clear hk; have hlzl9 := has_lt zl9
    refine (pickInt_any _ B g (w4.heap.size) 3 _ ((-1)) 2001 HC.out zl9 rfl (by omega) (by omega) (by omega) (by intro j hj; rcases j with _ | _ | _ | j; exact ⟨_, by decide, by decide, rfl⟩; exact ⟨_, by decide, by decide, rfl⟩; exact ⟨_, by decide, by decide, rfl⟩; omega)).mono ?_
    rintro e w6 ⟨x9, hx90, hx91, rfl, hC9, hO9⟩
    replace zr := hoo6 zr hO9 (by omega)
    replace zt := hoo6 zt hO9 (by omega)
    have hmw6 := hO9.size
    have kk := only_trans HO.out hO9; clear HO; have HO := Lib.hid kk; clear kk
    clear HC; have HC := Lib.hid hC9; clear hC9 hO9
    have hsw6 := HO.out.size
    clear zl9 hlzl9
    have zrc0 := has_cell zr 0 rfl; have zrc1 := has_cell zr 1 rfl; have zrc2 := has_cell zr 2 rfl; have zrc3 := has_cell zr 3 rfl; have zrc4 := has_cell zr 4 rfl; have zrc5 := has_cell zr 5 rfl; have zrc6 := has_cell zr 6 rfl; have zrc7 := has_cell zr 7 rfl
    have zrf0 := has_free zr 0; have zrf1 := has_free zr 1; have zrf2 := has_free zr 2; have zrf3 := has_free zr 3; have zrf4 := has_free zr 4; have zrf5 := has_free zr 5; have zrf6 := has_free zr 6; have zrf7 := has_free zr 7
    have zrlt := has_lt zr
    have ztc0 := has_cell zt 0 rfl; have ztc1 := has_cell zt 1 rfl; have ztc2 := has_cell zt 2 rfl; have ztc3 := has_cell zt 3 rfl; have ztc4 := has_cell zt 4 rfl; have ztc5 := has_cell zt 5 rfl; have ztc6 := has_cell zt 6 rfl; have ztc7 := has_cell zt 7 rfl
    have ztf0 := has_free zt 0; have ztf1 := has_free zt 1; have ztf2 := has_free zt 2; have ztf3 := has_free zt 3; have ztf4 := has_free zt 4; have ztf5 := has_free zt 5; have ztf6 := has_free zt 6; have ztf7 := has_free zt 7
    have ztlt := has_lt zt
    have ZRH := Lib.hid zr; clear zr
    have ZTH := Lib.hid zt; clear zt
    go_wp2_with fail
    refine bodyPost_ret (v := .agg #[.int .i64 t.keep, .int .i64 x9, .int .i64 t.step, .int .i64 t.rate, .int .i64 t.cap, .int .i64 t.longer, .int .i64 t.price, .int .i64 t.most]) ?_ ?_ ?_
    · simp [results, Try.results14, go_sem, hne1, hne2, zrc0, zrc1, zrc2, zrc3, zrc4, zrc5, zrc6, zrc7, zrf0, zrf1, zrf2, zrf3, zrf4, zrf5, zrf6, zrf7, zrlt, ztc0, ztc1, ztc2, ztc3, ztc4, ztc5, ztc6, ztc7, ztf0, ztf1, ztf2, ztf3, ztf4, ztf5, ztf6, ztf7, ztlt]
    · rfl
    · exact ⟨⟨t.keep, x9, t.step, t.rate, t.cap, t.longer, t.price, t.most⟩, rfl, cset8 (HC.out.setn (by omega) (by omega) _ _) (by omega) (by omega) _ _ _ _ _ _ _ _, oset8 (only_setn HO.out (by omega) _ _) (by omega) _ _ _ _ _ _ _ _⟩
  · skip
    have e0 : (x0 == 0) = false := by rw [beq_eq_false_iff_ne]; omega
    have e1 : (x0 == 1) = false := by rw [beq_eq_false_iff_ne]; omega
    have e2 : (x0 == 2) = false := by rw [beq_eq_false_iff_ne]; omega
    have e3 : (x0 == 3) = false := by rw [beq_eq_false_iff_ne]; omega
    have e4 : (x0 == 4) = false := by rw [beq_eq_false_iff_ne]; omega
    have zrc0 := has_cell zr 0 rfl; have zrc1 := has_cell zr 1 rfl; have zrc2 := has_cell zr 2 rfl; have zrc3 := has_cell zr 3 rfl; have zrc4 := has_cell zr 4 rfl; have zrc5 := has_cell zr 5 rfl; have zrc6 := has_cell zr 6 rfl; have zrc7 := has_cell zr 7 rfl
    have zrf0 := has_free zr 0; have zrf1 := has_free zr 1; have zrf2 := has_free zr 2; have zrf3 := has_free zr 3; have zrf4 := has_free zr 4; have zrf5 := has_free zr 5; have zrf6 := has_free zr 6; have zrf7 := has_free zr 7
    have zrlt := has_lt zr
    have ztc0 := has_cell zt 0 rfl; have ztc1 := has_cell zt 1 rfl; have ztc2 := has_cell zt 2 rfl; have ztc3 := has_cell zt 3 rfl; have ztc4 := has_cell zt 4 rfl; have ztc5 := has_cell zt 5 rfl; have ztc6 := has_cell zt 6 rfl; have ztc7 := has_cell zt 7 rfl
    have ztf0 := has_free zt 0; have ztf1 := has_free zt 1; have ztf2 := has_free zt 2; have ztf3 := has_free zt 3; have ztf4 := has_free zt 4; have ztf5 := has_free zt 5; have ztf6 := has_free zt 6; have ztf7 := has_free zt 7
    have ztlt := has_lt zt
    have ZRH := Lib.hid zr; clear zr
    have ZTH := Lib.hid zt; clear zt
    go_wp2_with fail
    refine bodyPost_ret (v := .agg #[.int .i64 t.keep, .int .i64 t.free, .int .i64 t.step, .int .i64 t.rate, .int .i64 t.cap, .int .i64 t.longer, .int .i64 t.price, .int .i64 t.most]) ?_ ?_ ?_
    · simp [results, Try.results14, go_sem, hne1, hne2, zrc0, zrc1, zrc2, zrc3, zrc4, zrc5, zrc6, zrc7, zrf0, zrf1, zrf2, zrf3, zrf4, zrf5, zrf6, zrf7, zrlt, ztc0, ztc1, ztc2, ztc3, ztc4, ztc5, ztc6, ztc7, ztf0, ztf1, ztf2, ztf3, ztf4, ztf5, ztf6, ztf7, ztlt]
    · rfl
    · exact ⟨⟨t.keep, t.free, t.step, t.rate, t.cap, t.longer, t.price, t.most⟩, rfl, cset8 (HC.out) (by omega) (by omega) _ _ _ _ _ _ _ _, oset8 (HO.out) (by omega) _ _ _ _ _ _ _ _⟩
end Go.Proofs.Ytfkhhefphbhppaa
