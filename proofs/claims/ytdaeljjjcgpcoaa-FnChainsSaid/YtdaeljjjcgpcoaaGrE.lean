/- Chapter 5: the drawing of grants. -/
import Derived.Test.YtdaeljjjcgpcoaaGrD
namespace Go.Proofs.Ytdaeljjjcgpcoaa
open Go.RowKit
set_option linter.unusedVariables false
set_option maxRecDepth 100000 in
set_option maxHeartbeats 16000000 in
theorem bendD_any (w : World) (B g : Nat) (f t p d s u : Int) (o : Bool) (hC : Cur w B g) : Calls Try.prog 41 #[.pointer (some ⟨g, 0, none⟩), .agg #[.int .i64 f, .int .i64 t, .int .i64 p, .int .i64 d, .int .i64 s, .int .i64 u, .bool o]] w (DrawnG w B g) := by
  have hlt := hC.lt; obtain ⟨hB, hg⟩ := hlt
  have HC := Lib.hid hC; clear hC
  have HO := Lib.hid (only_refl w g)
  have hsw := HO.out.size
  go_enter Try.func41, Try.ntmps41
  go_wp2_with fail
  have hz9 := size_new_ w 35 #[.int .i64 f, .int .i64 t, .int .i64 p, .int .i64 d, .int .i64 s, .int .i64 u, .bool o]
  generalize hX : (w.alloc (.cells #[.int .i64 f, .int .i64 t, .int .i64 p, .int .i64 d, .int .i64 s, .int .i64 u, .bool o] 35)) = w1 at hz9 ⊢
  have hb : Below w.heap.size w w1 := by rw [← hX]; exact balloc _ _
  have hk : Has w1 w.heap.size 35 #[.int .i64 f, .int .i64 t, .int .i64 p, .int .i64 d, .int .i64 s, .int .i64 u, .bool o] := by rw [← hX]; exact has_new _ _ _
  clear hX
  have hmw1 := hb.size
  have kk := HC.out.bel hb; clear HC; have HC := Lib.hid kk; clear kk
  have kk := only_trans HO.out (only_bel (g := g) hb); clear HO; have HO := Lib.hid kk; clear kk hb
  have hsw1 := HO.out.size
  have zg := hk; clear hk; have hlzg := has_lt zg
  generalize hX : (w1.alloc (.cells #[.int .i64 0, .int .i64 0, .int .i64 0, .int .i64 0, .int .i64 0, .int .i64 0, .bool false] 35)) = w2
  have hb : Below w1.heap.size w1 w2 := by rw [← hX]; exact balloc _ _
  have hk : Has w2 w1.heap.size 35 #[.int .i64 0, .int .i64 0, .int .i64 0, .int .i64 0, .int .i64 0, .int .i64 0, .bool false] := by rw [← hX]; exact has_new _ _ _
  clear hX
  replace zg := has_call zg hb
  have hmw2 := hb.size
  have kk := HC.out.bel hb; clear HC; have HC := Lib.hid kk; clear kk
  have kk := only_trans HO.out (only_bel (g := g) hb); clear HO; have HO := Lib.hid kk; clear kk hb
  have hsw2 := HO.out.size
  have zr := hk; clear hk; have hlzr := has_lt zr
  rw [hz9] at zr hlzr; clear hz9
  refine (below_any _ B g 6 (by omega) (by omega) HC.out).mono ?_
  rintro e w3 ⟨x0, hx00, hx01, rfl, hC9, hO9⟩
  replace zg := hoo' zg hO9 (by omega)
  replace zr := hoo' zr hO9 (by omega)
  have hmw3 := hO9.size
  have kk := only_trans HO.out hO9; clear HO; have HO := Lib.hid kk; clear kk
  clear HC; have HC := Lib.hid hC9; clear hC9 hO9
  have hsw3 := HO.out.size
  have hcs : x0 = 0 ∨ x0 = 1 ∨ x0 = 2 ∨ x0 = 3 ∨ x0 = 4 ∨ x0 = 5 := by omega
  have hne1 : ¬ w.heap.size = w.heap.size + 1 := (by omega); have hne2 : ¬ w.heap.size + 1 = w.heap.size := (by omega)
  rcases hcs with rfl | rfl | rfl | rfl | rfl | rfl
  · skip
    clear hx00 hx01
    have zgc0 := has_cell zg 0 rfl; have zgc1 := has_cell zg 1 rfl; have zgc2 := has_cell zg 2 rfl; have zgc3 := has_cell zg 3 rfl; have zgc4 := has_cell zg 4 rfl; have zgc5 := has_cell zg 5 rfl; have zgc6 := has_cell zg 6 rfl
    have zglt := has_lt zg
    have zrc0 := has_cell zr 0 rfl; have zrc1 := has_cell zr 1 rfl; have zrc2 := has_cell zr 2 rfl; have zrc3 := has_cell zr 3 rfl; have zrc4 := has_cell zr 4 rfl; have zrc5 := has_cell zr 5 rfl; have zrc6 := has_cell zr 6 rfl
    have zrlt := has_lt zr
    have ZGH := Lib.hid zg; clear zg
    have ZRH := Lib.hid zr; clear zr
    go_wp2_with fail
    clear zgc0 zgc1 zgc2 zgc3 zgc4 zgc5 zgc6 zglt zrc0 zrc1 zrc2 zrc3 zrc4 zrc5 zrc6 zrlt
    have zg := ZGH.out; clear ZGH
    have zr := ZRH.out; clear ZRH
    generalize hX : (w3.alloc (.cells #[.int .i64 0, .int .i64 40, .int .i64 41, .int .i64 t] 3)) = w4
    have hb : Below w3.heap.size w3 w4 := by rw [← hX]; exact balloc _ _
    have hk : Has w4 w3.heap.size 3 #[.int .i64 0, .int .i64 40, .int .i64 41, .int .i64 t] := by rw [← hX]; exact has_new _ _ _
    clear hX
    replace zg := has_call zg hb
    replace zr := has_call zr hb
    have hmw4 := hb.size
    have kk := HC.out.bel hb; clear HC; have HC := Lib.hid kk; clear kk
    have kk := only_trans HO.out (only_bel (g := g) hb); clear HO; have HO := Lib.hid kk; clear kk hb
    have hsw4 := HO.out.size
    have zl9 := hk; clear hk; have hlzl9 := has_lt zl9
    refine (pickInt_any _ B g (w3.heap.size) 4 _ (min t (-1)) (max t 20001) HC.out zl9 rfl (by omega) (by omega) (by omega) (by intro j hj; rcases j with _ | _ | _ | _ | j; exact ⟨_, by omega, by omega, rfl⟩; exact ⟨_, by omega, by omega, rfl⟩; exact ⟨_, by omega, by omega, rfl⟩; exact ⟨_, by omega, by omega, rfl⟩; omega)).mono ?_
    rintro e w5 ⟨x9, hx90, hx91, rfl, hC9, hO9⟩
    replace zg := hoo' zg hO9 (by omega)
    replace zr := hoo' zr hO9 (by omega)
    have hmw5 := hO9.size
    have kk := only_trans HO.out hO9; clear HO; have HO := Lib.hid kk; clear kk
    clear HC; have HC := Lib.hid hC9; clear hC9 hO9
    have hsw5 := HO.out.size
    clear zl9 hlzl9 hx90 hx91
    have zgc0 := has_cell zg 0 rfl; have zgc1 := has_cell zg 1 rfl; have zgc2 := has_cell zg 2 rfl; have zgc3 := has_cell zg 3 rfl; have zgc4 := has_cell zg 4 rfl; have zgc5 := has_cell zg 5 rfl; have zgc6 := has_cell zg 6 rfl
    have zgf0 := has_free zg 0; have zgf1 := has_free zg 1; have zgf2 := has_free zg 2; have zgf3 := has_free zg 3; have zgf4 := has_free zg 4; have zgf5 := has_free zg 5; have zgf6 := has_free zg 6
    have zglt := has_lt zg
    have zrc0 := has_cell zr 0 rfl; have zrc1 := has_cell zr 1 rfl; have zrc2 := has_cell zr 2 rfl; have zrc3 := has_cell zr 3 rfl; have zrc4 := has_cell zr 4 rfl; have zrc5 := has_cell zr 5 rfl; have zrc6 := has_cell zr 6 rfl
    have zrf0 := has_free zr 0; have zrf1 := has_free zr 1; have zrf2 := has_free zr 2; have zrf3 := has_free zr 3; have zrf4 := has_free zr 4; have zrf5 := has_free zr 5; have zrf6 := has_free zr 6
    have zrlt := has_lt zr
    have ZGH := Lib.hid zg; clear zg
    have ZRH := Lib.hid zr; clear zr
    go_wp2_with fail
    refine bodyPost_ret (v := .agg #[.int .i64 x9, .int .i64 t, .int .i64 p, .int .i64 d, .int .i64 s, .int .i64 u, .bool o]) ?_ ?_ ?_
    · simp [results, Try.results41, go_sem, zrc0, zrc1, zrc2, zrc3, zrc4, zrc5, zrc6, zrf0, zrf1, zrf2, zrf3, zrf4, zrf5, zrf6, zrlt]
    · rfl
    · exact ⟨_, _, _, _, _, _, _, rfl, cset7 (HC.out.setn (by omega) (by omega) _ _) (by omega) (by omega) _ _ _ _ _ _ _, oset7 (only_setn HO.out (by omega) _ _) (by omega) _ _ _ _ _ _ _⟩
  · skip
    clear hx00 hx01
    have zgc0 := has_cell zg 0 rfl; have zgc1 := has_cell zg 1 rfl; have zgc2 := has_cell zg 2 rfl; have zgc3 := has_cell zg 3 rfl; have zgc4 := has_cell zg 4 rfl; have zgc5 := has_cell zg 5 rfl; have zgc6 := has_cell zg 6 rfl
    have zglt := has_lt zg
    have zrc0 := has_cell zr 0 rfl; have zrc1 := has_cell zr 1 rfl; have zrc2 := has_cell zr 2 rfl; have zrc3 := has_cell zr 3 rfl; have zrc4 := has_cell zr 4 rfl; have zrc5 := has_cell zr 5 rfl; have zrc6 := has_cell zr 6 rfl
    have zrlt := has_lt zr
    have ZGH := Lib.hid zg; clear zg
    have ZRH := Lib.hid zr; clear zr
    go_wp2_with fail
    clear zgc0 zgc1 zgc2 zgc3 zgc4 zgc5 zgc6 zglt zrc0 zrc1 zrc2 zrc3 zrc4 zrc5 zrc6 zrlt
    have zg := ZGH.out; clear ZGH
    have zr := ZRH.out; clear ZRH
    generalize hX : (w3.alloc (.cells #[.int .i64 (-1), .int .i64 999, .int .i64 1000] 3)) = w4
    have hb : Below w3.heap.size w3 w4 := by rw [← hX]; exact balloc _ _
    have hk : Has w4 w3.heap.size 3 #[.int .i64 (-1), .int .i64 999, .int .i64 1000] := by rw [← hX]; exact has_new _ _ _
    clear hX
    replace zg := has_call zg hb
    replace zr := has_call zr hb
    have hmw4 := hb.size
    have kk := HC.out.bel hb; clear HC; have HC := Lib.hid kk; clear kk
    have kk := only_trans HO.out (only_bel (g := g) hb); clear HO; have HO := Lib.hid kk; clear kk hb
    have hsw4 := HO.out.size
    have zl9 := hk; clear hk; have hlzl9 := has_lt zl9
    refine (pickInt_any _ B g (w3.heap.size) 3 _ (min t (-1)) (max t 20001) HC.out zl9 rfl (by omega) (by omega) (by omega) (by intro j hj; rcases j with _ | _ | _ | j; exact ⟨_, by omega, by omega, rfl⟩; exact ⟨_, by omega, by omega, rfl⟩; exact ⟨_, by omega, by omega, rfl⟩; omega)).mono ?_
    rintro e w5 ⟨x9, hx90, hx91, rfl, hC9, hO9⟩
    replace zg := hoo' zg hO9 (by omega)
    replace zr := hoo' zr hO9 (by omega)
    have hmw5 := hO9.size
    have kk := only_trans HO.out hO9; clear HO; have HO := Lib.hid kk; clear kk
    clear HC; have HC := Lib.hid hC9; clear hC9 hO9
    have hsw5 := HO.out.size
    clear zl9 hlzl9 hx90 hx91
    have zgc0 := has_cell zg 0 rfl; have zgc1 := has_cell zg 1 rfl; have zgc2 := has_cell zg 2 rfl; have zgc3 := has_cell zg 3 rfl; have zgc4 := has_cell zg 4 rfl; have zgc5 := has_cell zg 5 rfl; have zgc6 := has_cell zg 6 rfl
    have zgf0 := has_free zg 0; have zgf1 := has_free zg 1; have zgf2 := has_free zg 2; have zgf3 := has_free zg 3; have zgf4 := has_free zg 4; have zgf5 := has_free zg 5; have zgf6 := has_free zg 6
    have zglt := has_lt zg
    have zrc0 := has_cell zr 0 rfl; have zrc1 := has_cell zr 1 rfl; have zrc2 := has_cell zr 2 rfl; have zrc3 := has_cell zr 3 rfl; have zrc4 := has_cell zr 4 rfl; have zrc5 := has_cell zr 5 rfl; have zrc6 := has_cell zr 6 rfl
    have zrf0 := has_free zr 0; have zrf1 := has_free zr 1; have zrf2 := has_free zr 2; have zrf3 := has_free zr 3; have zrf4 := has_free zr 4; have zrf5 := has_free zr 5; have zrf6 := has_free zr 6
    have zrlt := has_lt zr
    have ZGH := Lib.hid zg; clear zg
    have ZRH := Lib.hid zr; clear zr
    go_wp2_with fail
    refine bodyPost_ret (v := .agg #[.int .i64 f, .int .i64 t, .int .i64 x9, .int .i64 d, .int .i64 s, .int .i64 u, .bool o]) ?_ ?_ ?_
    · simp [results, Try.results41, go_sem, zrc0, zrc1, zrc2, zrc3, zrc4, zrc5, zrc6, zrf0, zrf1, zrf2, zrf3, zrf4, zrf5, zrf6, zrlt]
    · rfl
    · exact ⟨_, _, _, _, _, _, _, rfl, cset7 (HC.out.setn (by omega) (by omega) _ _) (by omega) (by omega) _ _ _ _ _ _ _, oset7 (only_setn HO.out (by omega) _ _) (by omega) _ _ _ _ _ _ _⟩
  · skip
    clear hx00 hx01
    have zgc0 := has_cell zg 0 rfl; have zgc1 := has_cell zg 1 rfl; have zgc2 := has_cell zg 2 rfl; have zgc3 := has_cell zg 3 rfl; have zgc4 := has_cell zg 4 rfl; have zgc5 := has_cell zg 5 rfl; have zgc6 := has_cell zg 6 rfl
    have zglt := has_lt zg
    have zrc0 := has_cell zr 0 rfl; have zrc1 := has_cell zr 1 rfl; have zrc2 := has_cell zr 2 rfl; have zrc3 := has_cell zr 3 rfl; have zrc4 := has_cell zr 4 rfl; have zrc5 := has_cell zr 5 rfl; have zrc6 := has_cell zr 6 rfl
    have zrlt := has_lt zr
    have ZGH := Lib.hid zg; clear zg
    have ZRH := Lib.hid zr; clear zr
    go_wp2_with fail
    clear zgc0 zgc1 zgc2 zgc3 zgc4 zgc5 zgc6 zglt zrc0 zrc1 zrc2 zrc3 zrc4 zrc5 zrc6 zrlt
    have zg := ZGH.out; clear ZGH
    have zr := ZRH.out; clear ZRH
    generalize hX : (w3.alloc (.cells #[.int .i64 (-1), .int .i64 5, .int .i64 6] 3)) = w4
    have hb : Below w3.heap.size w3 w4 := by rw [← hX]; exact balloc _ _
    have hk : Has w4 w3.heap.size 3 #[.int .i64 (-1), .int .i64 5, .int .i64 6] := by rw [← hX]; exact has_new _ _ _
    clear hX
    replace zg := has_call zg hb
    replace zr := has_call zr hb
    have hmw4 := hb.size
    have kk := HC.out.bel hb; clear HC; have HC := Lib.hid kk; clear kk
    have kk := only_trans HO.out (only_bel (g := g) hb); clear HO; have HO := Lib.hid kk; clear kk hb
    have hsw4 := HO.out.size
    have zl9 := hk; clear hk; have hlzl9 := has_lt zl9
    refine (pickInt_any _ B g (w3.heap.size) 3 _ (min t (-1)) (max t 20001) HC.out zl9 rfl (by omega) (by omega) (by omega) (by intro j hj; rcases j with _ | _ | _ | j; exact ⟨_, by omega, by omega, rfl⟩; exact ⟨_, by omega, by omega, rfl⟩; exact ⟨_, by omega, by omega, rfl⟩; omega)).mono ?_
    rintro e w5 ⟨x9, hx90, hx91, rfl, hC9, hO9⟩
    replace zg := hoo' zg hO9 (by omega)
    replace zr := hoo' zr hO9 (by omega)
    have hmw5 := hO9.size
    have kk := only_trans HO.out hO9; clear HO; have HO := Lib.hid kk; clear kk
    clear HC; have HC := Lib.hid hC9; clear hC9 hO9
    have hsw5 := HO.out.size
    clear zl9 hlzl9 hx90 hx91
    have zgc0 := has_cell zg 0 rfl; have zgc1 := has_cell zg 1 rfl; have zgc2 := has_cell zg 2 rfl; have zgc3 := has_cell zg 3 rfl; have zgc4 := has_cell zg 4 rfl; have zgc5 := has_cell zg 5 rfl; have zgc6 := has_cell zg 6 rfl
    have zgf0 := has_free zg 0; have zgf1 := has_free zg 1; have zgf2 := has_free zg 2; have zgf3 := has_free zg 3; have zgf4 := has_free zg 4; have zgf5 := has_free zg 5; have zgf6 := has_free zg 6
    have zglt := has_lt zg
    have zrc0 := has_cell zr 0 rfl; have zrc1 := has_cell zr 1 rfl; have zrc2 := has_cell zr 2 rfl; have zrc3 := has_cell zr 3 rfl; have zrc4 := has_cell zr 4 rfl; have zrc5 := has_cell zr 5 rfl; have zrc6 := has_cell zr 6 rfl
    have zrf0 := has_free zr 0; have zrf1 := has_free zr 1; have zrf2 := has_free zr 2; have zrf3 := has_free zr 3; have zrf4 := has_free zr 4; have zrf5 := has_free zr 5; have zrf6 := has_free zr 6
    have zrlt := has_lt zr
    have ZGH := Lib.hid zg; clear zg
    have ZRH := Lib.hid zr; clear zr
    go_wp2_with fail
    refine bodyPost_ret (v := .agg #[.int .i64 f, .int .i64 t, .int .i64 p, .int .i64 x9, .int .i64 s, .int .i64 u, .bool o]) ?_ ?_ ?_
    · simp [results, Try.results41, go_sem, zrc0, zrc1, zrc2, zrc3, zrc4, zrc5, zrc6, zrf0, zrf1, zrf2, zrf3, zrf4, zrf5, zrf6, zrlt]
    · rfl
    · exact ⟨_, _, _, _, _, _, _, rfl, cset7 (HC.out.setn (by omega) (by omega) _ _) (by omega) (by omega) _ _ _ _ _ _ _, oset7 (only_setn HO.out (by omega) _ _) (by omega) _ _ _ _ _ _ _⟩
  · skip
    clear hx00 hx01
    have zgc0 := has_cell zg 0 rfl; have zgc1 := has_cell zg 1 rfl; have zgc2 := has_cell zg 2 rfl; have zgc3 := has_cell zg 3 rfl; have zgc4 := has_cell zg 4 rfl; have zgc5 := has_cell zg 5 rfl; have zgc6 := has_cell zg 6 rfl
    have zglt := has_lt zg
    have zrc0 := has_cell zr 0 rfl; have zrc1 := has_cell zr 1 rfl; have zrc2 := has_cell zr 2 rfl; have zrc3 := has_cell zr 3 rfl; have zrc4 := has_cell zr 4 rfl; have zrc5 := has_cell zr 5 rfl; have zrc6 := has_cell zr 6 rfl
    have zrlt := has_lt zr
    have ZGH := Lib.hid zg; clear zg
    have ZRH := Lib.hid zr; clear zr
    go_wp2_with fail
    clear zgc0 zgc1 zgc2 zgc3 zgc4 zgc5 zgc6 zglt zrc0 zrc1 zrc2 zrc3 zrc4 zrc5 zrc6 zrlt
    have zg := ZGH.out; clear ZGH
    have zr := ZRH.out; clear ZRH
    generalize hX : (w3.alloc (.cells #[.int .i64 (-1), .int .i64 u, .int .i64 0] 3)) = w4
    have hb : Below w3.heap.size w3 w4 := by rw [← hX]; exact balloc _ _
    have hk : Has w4 w3.heap.size 3 #[.int .i64 (-1), .int .i64 u, .int .i64 0] := by rw [← hX]; exact has_new _ _ _
    clear hX
    replace zg := has_call zg hb
    replace zr := has_call zr hb
    have hmw4 := hb.size
    have kk := HC.out.bel hb; clear HC; have HC := Lib.hid kk; clear kk
    have kk := only_trans HO.out (only_bel (g := g) hb); clear HO; have HO := Lib.hid kk; clear kk hb
    have hsw4 := HO.out.size
    have zl9 := hk; clear hk; have hlzl9 := has_lt zl9
    refine (pickInt_any _ B g (w3.heap.size) 3 _ (min u (-1)) (max u 20001) HC.out zl9 rfl (by omega) (by omega) (by omega) (by intro j hj; rcases j with _ | _ | _ | j; exact ⟨_, by omega, by omega, rfl⟩; exact ⟨_, by omega, by omega, rfl⟩; exact ⟨_, by omega, by omega, rfl⟩; omega)).mono ?_
    rintro e w5 ⟨x9, hx90, hx91, rfl, hC9, hO9⟩
    replace zg := hoo' zg hO9 (by omega)
    replace zr := hoo' zr hO9 (by omega)
    have hmw5 := hO9.size
    have kk := only_trans HO.out hO9; clear HO; have HO := Lib.hid kk; clear kk
    clear HC; have HC := Lib.hid hC9; clear hC9 hO9
    have hsw5 := HO.out.size
    clear zl9 hlzl9 hx90 hx91
    have zgc0 := has_cell zg 0 rfl; have zgc1 := has_cell zg 1 rfl; have zgc2 := has_cell zg 2 rfl; have zgc3 := has_cell zg 3 rfl; have zgc4 := has_cell zg 4 rfl; have zgc5 := has_cell zg 5 rfl; have zgc6 := has_cell zg 6 rfl
    have zgf0 := has_free zg 0; have zgf1 := has_free zg 1; have zgf2 := has_free zg 2; have zgf3 := has_free zg 3; have zgf4 := has_free zg 4; have zgf5 := has_free zg 5; have zgf6 := has_free zg 6
    have zglt := has_lt zg
    have zrc0 := has_cell zr 0 rfl; have zrc1 := has_cell zr 1 rfl; have zrc2 := has_cell zr 2 rfl; have zrc3 := has_cell zr 3 rfl; have zrc4 := has_cell zr 4 rfl; have zrc5 := has_cell zr 5 rfl; have zrc6 := has_cell zr 6 rfl
    have zrf0 := has_free zr 0; have zrf1 := has_free zr 1; have zrf2 := has_free zr 2; have zrf3 := has_free zr 3; have zrf4 := has_free zr 4; have zrf5 := has_free zr 5; have zrf6 := has_free zr 6
    have zrlt := has_lt zr
    have ZGH := Lib.hid zg; clear zg
    have ZRH := Lib.hid zr; clear zr
    go_wp2_with fail
    refine bodyPost_ret (v := .agg #[.int .i64 f, .int .i64 t, .int .i64 p, .int .i64 d, .int .i64 x9, .int .i64 u, .bool o]) ?_ ?_ ?_
    · simp [results, Try.results41, go_sem, zrc0, zrc1, zrc2, zrc3, zrc4, zrc5, zrc6, zrf0, zrf1, zrf2, zrf3, zrf4, zrf5, zrf6, zrlt]
    · rfl
    · exact ⟨_, _, _, _, _, _, _, rfl, cset7 (HC.out.setn (by omega) (by omega) _ _) (by omega) (by omega) _ _ _ _ _ _ _, oset7 (only_setn HO.out (by omega) _ _) (by omega) _ _ _ _ _ _ _⟩
  · skip
    clear hx00 hx01
    have zgc0 := has_cell zg 0 rfl; have zgc1 := has_cell zg 1 rfl; have zgc2 := has_cell zg 2 rfl; have zgc3 := has_cell zg 3 rfl; have zgc4 := has_cell zg 4 rfl; have zgc5 := has_cell zg 5 rfl; have zgc6 := has_cell zg 6 rfl
    have zglt := has_lt zg
    have zrc0 := has_cell zr 0 rfl; have zrc1 := has_cell zr 1 rfl; have zrc2 := has_cell zr 2 rfl; have zrc3 := has_cell zr 3 rfl; have zrc4 := has_cell zr 4 rfl; have zrc5 := has_cell zr 5 rfl; have zrc6 := has_cell zr 6 rfl
    have zrlt := has_lt zr
    have ZGH := Lib.hid zg; clear zg
    have ZRH := Lib.hid zr; clear zr
    go_wp2_with fail
    clear zgc0 zgc1 zgc2 zgc3 zgc4 zgc5 zgc6 zglt zrc0 zrc1 zrc2 zrc3 zrc4 zrc5 zrc6 zrlt
    have zg := ZGH.out; clear ZGH
    have zr := ZRH.out; clear ZRH
    generalize hX : (w3.alloc (.cells #[.int .i64 20000, .int .i64 20001, .int .i64 0] 3)) = w4
    have hb : Below w3.heap.size w3 w4 := by rw [← hX]; exact balloc _ _
    have hk : Has w4 w3.heap.size 3 #[.int .i64 20000, .int .i64 20001, .int .i64 0] := by rw [← hX]; exact has_new _ _ _
    clear hX
    replace zg := has_call zg hb
    replace zr := has_call zr hb
    have hmw4 := hb.size
    have kk := HC.out.bel hb; clear HC; have HC := Lib.hid kk; clear kk
    have kk := only_trans HO.out (only_bel (g := g) hb); clear HO; have HO := Lib.hid kk; clear kk hb
    have hsw4 := HO.out.size
    have zl9 := hk; clear hk; have hlzl9 := has_lt zl9
    refine (pickInt_any _ B g (w3.heap.size) 3 _ (min t (-1)) (max t 20001) HC.out zl9 rfl (by omega) (by omega) (by omega) (by intro j hj; rcases j with _ | _ | _ | j; exact ⟨_, by omega, by omega, rfl⟩; exact ⟨_, by omega, by omega, rfl⟩; exact ⟨_, by omega, by omega, rfl⟩; omega)).mono ?_
    rintro e w5 ⟨x9, hx90, hx91, rfl, hC9, hO9⟩
    replace zg := hoo' zg hO9 (by omega)
    replace zr := hoo' zr hO9 (by omega)
    have hmw5 := hO9.size
    have kk := only_trans HO.out hO9; clear HO; have HO := Lib.hid kk; clear kk
    clear HC; have HC := Lib.hid hC9; clear hC9 hO9
    have hsw5 := HO.out.size
    clear zl9 hlzl9 hx90 hx91
    have zgc0 := has_cell zg 0 rfl; have zgc1 := has_cell zg 1 rfl; have zgc2 := has_cell zg 2 rfl; have zgc3 := has_cell zg 3 rfl; have zgc4 := has_cell zg 4 rfl; have zgc5 := has_cell zg 5 rfl; have zgc6 := has_cell zg 6 rfl
    have zgf0 := has_free zg 0; have zgf1 := has_free zg 1; have zgf2 := has_free zg 2; have zgf3 := has_free zg 3; have zgf4 := has_free zg 4; have zgf5 := has_free zg 5; have zgf6 := has_free zg 6
    have zglt := has_lt zg
    have zrc0 := has_cell zr 0 rfl; have zrc1 := has_cell zr 1 rfl; have zrc2 := has_cell zr 2 rfl; have zrc3 := has_cell zr 3 rfl; have zrc4 := has_cell zr 4 rfl; have zrc5 := has_cell zr 5 rfl; have zrc6 := has_cell zr 6 rfl
    have zrf0 := has_free zr 0; have zrf1 := has_free zr 1; have zrf2 := has_free zr 2; have zrf3 := has_free zr 3; have zrf4 := has_free zr 4; have zrf5 := has_free zr 5; have zrf6 := has_free zr 6
    have zrlt := has_lt zr
    have ZGH := Lib.hid zg; clear zg
    have ZRH := Lib.hid zr; clear zr
    go_wp2_with fail
    refine bodyPost_ret (v := .agg #[.int .i64 f, .int .i64 t, .int .i64 p, .int .i64 d, .int .i64 s, .int .i64 x9, .bool o]) ?_ ?_ ?_
    · simp [results, Try.results41, go_sem, zrc0, zrc1, zrc2, zrc3, zrc4, zrc5, zrc6, zrf0, zrf1, zrf2, zrf3, zrf4, zrf5, zrf6, zrlt]
    · rfl
    · exact ⟨_, _, _, _, _, _, _, rfl, cset7 (HC.out.setn (by omega) (by omega) _ _) (by omega) (by omega) _ _ _ _ _ _ _, oset7 (only_setn HO.out (by omega) _ _) (by omega) _ _ _ _ _ _ _⟩
  · skip
    clear hx00 hx01
    have zgc0 := has_cell zg 0 rfl; have zgc1 := has_cell zg 1 rfl; have zgc2 := has_cell zg 2 rfl; have zgc3 := has_cell zg 3 rfl; have zgc4 := has_cell zg 4 rfl; have zgc5 := has_cell zg 5 rfl; have zgc6 := has_cell zg 6 rfl
    have zgf0 := has_free zg 0; have zgf1 := has_free zg 1; have zgf2 := has_free zg 2; have zgf3 := has_free zg 3; have zgf4 := has_free zg 4; have zgf5 := has_free zg 5; have zgf6 := has_free zg 6
    have zglt := has_lt zg
    have zrc0 := has_cell zr 0 rfl; have zrc1 := has_cell zr 1 rfl; have zrc2 := has_cell zr 2 rfl; have zrc3 := has_cell zr 3 rfl; have zrc4 := has_cell zr 4 rfl; have zrc5 := has_cell zr 5 rfl; have zrc6 := has_cell zr 6 rfl
    have zrf0 := has_free zr 0; have zrf1 := has_free zr 1; have zrf2 := has_free zr 2; have zrf3 := has_free zr 3; have zrf4 := has_free zr 4; have zrf5 := has_free zr 5; have zrf6 := has_free zr 6
    have zrlt := has_lt zr
    have ZGH := Lib.hid zg; clear zg
    have ZRH := Lib.hid zr; clear zr
    go_wp2_with fail
    refine bodyPost_ret (v := .agg #[.int .i64 f, .int .i64 t, .int .i64 p, .int .i64 d, .int .i64 s, .int .i64 u, .bool o]) ?_ ?_ ?_
    · simp [results, Try.results41, go_sem, zrc0, zrc1, zrc2, zrc3, zrc4, zrc5, zrc6, zrf0, zrf1, zrf2, zrf3, zrf4, zrf5, zrf6, zrlt]
    · rfl
    · exact ⟨_, _, _, _, _, _, _, rfl, cset7 (HC.out) (by omega) (by omega) _ _ _ _ _ _ _, oset7 (HO.out) (by omega) _ _ _ _ _ _ _⟩
end Go.Proofs.Ytdaeljjjcgpcoaa
