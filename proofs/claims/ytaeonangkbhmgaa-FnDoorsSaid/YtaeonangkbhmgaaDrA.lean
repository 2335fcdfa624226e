/- Chapter 4: the drawing of doors and faults. -/
import Derived.Test.YtaeonangkbhmgaaDrD
namespace Go.Proofs.Ytaeonangkbhmgaa
open Go.RowKit
set_option linter.unusedVariables false
set_option maxRecDepth 100000 in
set_option maxHeartbeats 16000000 in
theorem anyD_any (w : World) (B g : Nat) (hC : Cur w B g) : Calls Try.prog 38 #[.pointer (some ⟨g, 0, none⟩)] w (DrawnD w B g) := by
  have hlt := hC.lt; obtain ⟨hB, hg⟩ := hlt
  have HC := Lib.hid hC; clear hC
  have HO := Lib.hid (only_refl w g)
  have hsw := HO.out.size
  go_enter Try.func38, Try.ntmps38
  go_wp2_with fail
  generalize hX : (w.alloc (.cells #[.int .i64 0, .int .i64 0, .bool false, .bool false, .bool false] 27)) = w1
  have hb : Below w.heap.size w w1 := by rw [← hX]; exact balloc _ _
  have hk : Has w1 w.heap.size 27 #[.int .i64 0, .int .i64 0, .bool false, .bool false, .bool false] := by rw [← hX]; exact has_new _ _ _
  clear hX
  have hmw1 := hb.size
  have kk := HC.out.bel hb; clear HC; have HC := Lib.hid kk; clear kk
  have kk := only_trans HO.out (only_bel (g := g) hb); clear HO; have HO := Lib.hid kk; clear kk hb
  have hsw1 := HO.out.size
  have zr := hk; clear hk; have hlzr := has_lt zr
  refine (doorD_any _ B g HC.out).mono ?_
  rintro e w2 ⟨k1, s1, l1, o1, f1, rfl, _, hC9, hO9⟩
  replace zr := hoo zr hO9 (by omega)
  have hmw2 := hO9.size
  have kk := only_trans HO.out hO9; clear HO; have HO := Lib.hid kk; clear kk
  clear HC; have HC := Lib.hid hC9; clear hC9 hO9
  have hsw2 := HO.out.size
  have zrc0 := has_cell zr 0 rfl; have zrc1 := has_cell zr 1 rfl; have zrc2 := has_cell zr 2 rfl; have zrc3 := has_cell zr 3 rfl; have zrc4 := has_cell zr 4 rfl
  have zrlt := has_lt zr
  have ZRH := Lib.hid zr; clear zr
  go_wp2_with fail
  clear zrc0 zrc1 zrc2 zrc3 zrc4 zrlt
  have zr := ZRH.out; clear ZRH
  generalize hX : (w2.alloc (.cells #[.int .i64 k1, .int .i64 s1, .bool l1, .bool o1, .bool f1] 27)) = w3
  have hb : Below w2.heap.size w2 w3 := by rw [← hX]; exact balloc _ _
  have hk : Has w3 w2.heap.size 27 #[.int .i64 k1, .int .i64 s1, .bool l1, .bool o1, .bool f1] := by rw [← hX]; exact has_new _ _ _
  clear hX
  replace zr := has_call zr hb
  have hmw3 := hb.size
  have kk := HC.out.bel hb; clear HC; have HC := Lib.hid kk; clear kk
  have kk := only_trans HO.out (only_bel (g := g) hb); clear HO; have HO := Lib.hid kk; clear kk hb
  have hsw3 := HO.out.size
  have zd := hk; clear hk; have hlzd := has_lt zd
  refine (below_any _ B g 12 (by omega) (by omega) HC.out).mono ?_
  rintro e w4 ⟨x0, hx00, hx01, rfl, hC9, hO9⟩
  replace zr := hoo zr hO9 (by omega)
  replace zd := hoo zd hO9 (by omega)
  have hmw4 := hO9.size
  have kk := only_trans HO.out hO9; clear HO; have HO := Lib.hid kk; clear kk
  clear HC; have HC := Lib.hid hC9; clear hC9 hO9
  have hsw4 := HO.out.size
  have hcs : x0 = 0 ∨ x0 = 1 ∨ x0 = 2 ∨ x0 = 3 ∨ x0 = 4 ∨ 5 ≤ x0 := by omega
  have hne1 : ¬ w.heap.size = w2.heap.size := (by omega); have hne2 : ¬ w2.heap.size = w.heap.size := (by omega)
  rcases hcs with rfl | rfl | rfl | rfl | rfl | h5
  · skip
    clear hx00 hx01
    have zrc0 := has_cell zr 0 rfl; have zrc1 := has_cell zr 1 rfl; have zrc2 := has_cell zr 2 rfl; have zrc3 := has_cell zr 3 rfl; have zrc4 := has_cell zr 4 rfl
    have zrlt := has_lt zr
    have zdc0 := has_cell zd 0 rfl; have zdc1 := has_cell zd 1 rfl; have zdc2 := has_cell zd 2 rfl; have zdc3 := has_cell zd 3 rfl; have zdc4 := has_cell zd 4 rfl
    have zdlt := has_lt zd
    have ZRH := Lib.hid zr; clear zr
    have ZDH := Lib.hid zd; clear zd
    go_wp2_with fail
    clear zrc0 zrc1 zrc2 zrc3 zrc4 zrlt zdc0 zdc1 zdc2 zdc3 zdc4 zdlt
    have zr := ZRH.out; clear ZRH
    have zd := ZDH.out; clear ZDH
    refine (below_any _ B g 5 (by omega) (by omega) HC.out).mono ?_
    rintro e w5 ⟨x9, hx90, hx91, rfl, hC9, hO9⟩
    replace zr := hoo zr hO9 (by omega)
    replace zd := hoo zd hO9 (by omega)
    have hmw5 := hO9.size
    have kk := only_trans HO.out hO9; clear HO; have HO := Lib.hid kk; clear kk
    clear HC; have HC := Lib.hid hC9; clear hC9 hO9
    have hsw5 := HO.out.size
    have zrc0 := has_cell zr 0 rfl; have zrc1 := has_cell zr 1 rfl; have zrc2 := has_cell zr 2 rfl; have zrc3 := has_cell zr 3 rfl; have zrc4 := has_cell zr 4 rfl
    have zrf0 := has_free zr 0; have zrf1 := has_free zr 1; have zrf2 := has_free zr 2; have zrf3 := has_free zr 3; have zrf4 := has_free zr 4
    have zrlt := has_lt zr
    have zdc0 := has_cell zd 0 rfl; have zdc1 := has_cell zd 1 rfl; have zdc2 := has_cell zd 2 rfl; have zdc3 := has_cell zd 3 rfl; have zdc4 := has_cell zd 4 rfl
    have zdf0 := has_free zd 0; have zdf1 := has_free zd 1; have zdf2 := has_free zd 2; have zdf3 := has_free zd 3; have zdf4 := has_free zd 4
    have zdlt := has_lt zd
    have ZRH := Lib.hid zr; clear zr
    have ZDH := Lib.hid zd; clear zd
    go_wp2_with fail
    refine bodyPost_ret (v := .agg #[.int .i64 (x9 - 1), .int .i64 s1, .bool l1, .bool o1, .bool f1]) ?_ ?_ ?_
    · simp [results, Try.results38, go_sem, zrc0, zrc1, zrc2, zrc3, zrc4, zrf0, zrf1, zrf2, zrf3, zrf4, zrlt, zdc0, zdc1, zdc2, zdc3, zdc4, zdf0, zdf1, zdf2, zdf3, zdf4, zdlt]
    · rfl
    · (try unfold DrawnV); (try unfold DrawnD); (try unfold DrawnF); with_reducible exact ⟨_, _, _, _, _, rfl, cset5 (HC.out.setn (by omega) (by omega) _ _) (by omega) (by omega) _ _ _ _ _, oset5n (only_setn HO.out (by omega) _ _) (by omega) _ _ _ _ _⟩
  · skip
    clear hx00 hx01
    have zrc0 := has_cell zr 0 rfl; have zrc1 := has_cell zr 1 rfl; have zrc2 := has_cell zr 2 rfl; have zrc3 := has_cell zr 3 rfl; have zrc4 := has_cell zr 4 rfl
    have zrlt := has_lt zr
    have zdc0 := has_cell zd 0 rfl; have zdc1 := has_cell zd 1 rfl; have zdc2 := has_cell zd 2 rfl; have zdc3 := has_cell zd 3 rfl; have zdc4 := has_cell zd 4 rfl
    have zdlt := has_lt zd
    have ZRH := Lib.hid zr; clear zr
    have ZDH := Lib.hid zd; clear zd
    go_wp2_with fail
    clear zrc0 zrc1 zrc2 zrc3 zrc4 zrlt zdc0 zdc1 zdc2 zdc3 zdc4 zdlt
    have zr := ZRH.out; clear ZRH
    have zd := ZDH.out; clear ZDH
    refine (below_any _ B g 9 (by omega) (by omega) HC.out).mono ?_
    rintro e w5 ⟨x9, hx90, hx91, rfl, hC9, hO9⟩
    replace zr := hoo zr hO9 (by omega)
    replace zd := hoo zd hO9 (by omega)
    have hmw5 := hO9.size
    have kk := only_trans HO.out hO9; clear HO; have HO := Lib.hid kk; clear kk
    clear HC; have HC := Lib.hid hC9; clear hC9 hO9
    have hsw5 := HO.out.size
    have zrc0 := has_cell zr 0 rfl; have zrc1 := has_cell zr 1 rfl; have zrc2 := has_cell zr 2 rfl; have zrc3 := has_cell zr 3 rfl; have zrc4 := has_cell zr 4 rfl
    have zrf0 := has_free zr 0; have zrf1 := has_free zr 1; have zrf2 := has_free zr 2; have zrf3 := has_free zr 3; have zrf4 := has_free zr 4
    have zrlt := has_lt zr
    have zdc0 := has_cell zd 0 rfl; have zdc1 := has_cell zd 1 rfl; have zdc2 := has_cell zd 2 rfl; have zdc3 := has_cell zd 3 rfl; have zdc4 := has_cell zd 4 rfl
    have zdf0 := has_free zd 0; have zdf1 := has_free zd 1; have zdf2 := has_free zd 2; have zdf3 := has_free zd 3; have zdf4 := has_free zd 4
    have zdlt := has_lt zd
    have ZRH := Lib.hid zr; clear zr
    have ZDH := Lib.hid zd; clear zd
    go_wp2_with fail
    refine bodyPost_ret (v := .agg #[.int .i64 k1, .int .i64 (x9 - 1), .bool l1, .bool o1, .bool f1]) ?_ ?_ ?_
    · simp [results, Try.results38, go_sem, zrc0, zrc1, zrc2, zrc3, zrc4, zrf0, zrf1, zrf2, zrf3, zrf4, zrlt, zdc0, zdc1, zdc2, zdc3, zdc4, zdf0, zdf1, zdf2, zdf3, zdf4, zdlt]
    · rfl
    · (try unfold DrawnV); (try unfold DrawnD); (try unfold DrawnF); with_reducible exact ⟨_, _, _, _, _, rfl, cset5 (HC.out.setn (by omega) (by omega) _ _) (by omega) (by omega) _ _ _ _ _, oset5n (only_setn HO.out (by omega) _ _) (by omega) _ _ _ _ _⟩
  · skip
    clear hx00 hx01
    have zrc0 := has_cell zr 0 rfl; have zrc1 := has_cell zr 1 rfl; have zrc2 := has_cell zr 2 rfl; have zrc3 := has_cell zr 3 rfl; have zrc4 := has_cell zr 4 rfl
    have zrf0 := has_free zr 0; have zrf1 := has_free zr 1; have zrf2 := has_free zr 2; have zrf3 := has_free zr 3; have zrf4 := has_free zr 4
    have zrlt := has_lt zr
    have zdc0 := has_cell zd 0 rfl; have zdc1 := has_cell zd 1 rfl; have zdc2 := has_cell zd 2 rfl; have zdc3 := has_cell zd 3 rfl; have zdc4 := has_cell zd 4 rfl
    have zdf0 := has_free zd 0; have zdf1 := has_free zd 1; have zdf2 := has_free zd 2; have zdf3 := has_free zd 3; have zdf4 := has_free zd 4
    have zdlt := has_lt zd
    have ZRH := Lib.hid zr; clear zr
    have ZDH := Lib.hid zd; clear zd
    go_wp2_with fail
    refine bodyPost_ret (v := .agg #[.int .i64 k1, .int .i64 s1, .bool l1, .bool (!o1), .bool f1]) ?_ ?_ ?_
    · simp [results, Try.results38, go_sem, zrc0, zrc1, zrc2, zrc3, zrc4, zrf0, zrf1, zrf2, zrf3, zrf4, zrlt, zdc0, zdc1, zdc2, zdc3, zdc4, zdf0, zdf1, zdf2, zdf3, zdf4, zdlt]
    · rfl
    · (try unfold DrawnV); (try unfold DrawnD); (try unfold DrawnF); with_reducible exact ⟨_, _, _, _, _, rfl, cset5 (HC.out.setn (by omega) (by omega) _ _) (by omega) (by omega) _ _ _ _ _, oset5n (only_setn HO.out (by omega) _ _) (by omega) _ _ _ _ _⟩
  · skip
    clear hx00 hx01
    have zrc0 := has_cell zr 0 rfl; have zrc1 := has_cell zr 1 rfl; have zrc2 := has_cell zr 2 rfl; have zrc3 := has_cell zr 3 rfl; have zrc4 := has_cell zr 4 rfl
    have zrf0 := has_free zr 0; have zrf1 := has_free zr 1; have zrf2 := has_free zr 2; have zrf3 := has_free zr 3; have zrf4 := has_free zr 4
    have zrlt := has_lt zr
    have zdc0 := has_cell zd 0 rfl; have zdc1 := has_cell zd 1 rfl; have zdc2 := has_cell zd 2 rfl; have zdc3 := has_cell zd 3 rfl; have zdc4 := has_cell zd 4 rfl
    have zdf0 := has_free zd 0; have zdf1 := has_free zd 1; have zdf2 := has_free zd 2; have zdf3 := has_free zd 3; have zdf4 := has_free zd 4
    have zdlt := has_lt zd
    have ZRH := Lib.hid zr; clear zr
    have ZDH := Lib.hid zd; clear zd
    go_wp2_with fail
    refine bodyPost_ret (v := .agg #[.int .i64 k1, .int .i64 s1, .bool (!l1), .bool o1, .bool f1]) ?_ ?_ ?_
    · simp [results, Try.results38, go_sem, zrc0, zrc1, zrc2, zrc3, zrc4, zrf0, zrf1, zrf2, zrf3, zrf4, zrlt, zdc0, zdc1, zdc2, zdc3, zdc4, zdf0, zdf1, zdf2, zdf3, zdf4, zdlt]
    · rfl
    · (try unfold DrawnV); (try unfold DrawnD); (try unfold DrawnF); with_reducible exact ⟨_, _, _, _, _, rfl, cset5 (HC.out.setn (by omega) (by omega) _ _) (by omega) (by omega) _ _ _ _ _, oset5n (only_setn HO.out (by omega) _ _) (by omega) _ _ _ _ _⟩
  · skip
    clear hx00 hx01
    have zrc0 := has_cell zr 0 rfl; have zrc1 := has_cell zr 1 rfl; have zrc2 := has_cell zr 2 rfl; have zrc3 := has_cell zr 3 rfl; have zrc4 := has_cell zr 4 rfl
    have zrf0 := has_free zr 0; have zrf1 := has_free zr 1; have zrf2 := has_free zr 2; have zrf3 := has_free zr 3; have zrf4 := has_free zr 4
    have zrlt := has_lt zr
    have zdc0 := has_cell zd 0 rfl; have zdc1 := has_cell zd 1 rfl; have zdc2 := has_cell zd 2 rfl; have zdc3 := has_cell zd 3 rfl; have zdc4 := has_cell zd 4 rfl
    have zdf0 := has_free zd 0; have zdf1 := has_free zd 1; have zdf2 := has_free zd 2; have zdf3 := has_free zd 3; have zdf4 := has_free zd 4
    have zdlt := has_lt zd
    have ZRH := Lib.hid zr; clear zr
    have ZDH := Lib.hid zd; clear zd
    go_wp2_with fail
    refine bodyPost_ret (v := .agg #[.int .i64 k1, .int .i64 s1, .bool l1, .bool o1, .bool (!f1)]) ?_ ?_ ?_
    · simp [results, Try.results38, go_sem, zrc0, zrc1, zrc2, zrc3, zrc4, zrf0, zrf1, zrf2, zrf3, zrf4, zrlt, zdc0, zdc1, zdc2, zdc3, zdc4, zdf0, zdf1, zdf2, zdf3, zdf4, zdlt]
    · rfl
    · (try unfold DrawnV); (try unfold DrawnD); (try unfold DrawnF); with_reducible exact ⟨_, _, _, _, _, rfl, cset5 (HC.out.setn (by omega) (by omega) _ _) (by omega) (by omega) _ _ _ _ _, oset5n (only_setn HO.out (by omega) _ _) (by omega) _ _ _ _ _⟩
  · skip
    clear hx00 hx01
    have e0 : (x0 == 0) = false := by rw [beq_eq_false_iff_ne]; omega
    have e1 : (x0 == 1) = false := by rw [beq_eq_false_iff_ne]; omega
    have e2 : (x0 == 2) = false := by rw [beq_eq_false_iff_ne]; omega
    have e3 : (x0 == 3) = false := by rw [beq_eq_false_iff_ne]; omega
    have e4 : (x0 == 4) = false := by rw [beq_eq_false_iff_ne]; omega
    have zrc0 := has_cell zr 0 rfl; have zrc1 := has_cell zr 1 rfl; have zrc2 := has_cell zr 2 rfl; have zrc3 := has_cell zr 3 rfl; have zrc4 := has_cell zr 4 rfl
    have zrf0 := has_free zr 0; have zrf1 := has_free zr 1; have zrf2 := has_free zr 2; have zrf3 := has_free zr 3; have zrf4 := has_free zr 4
    have zrlt := has_lt zr
    have zdc0 := has_cell zd 0 rfl; have zdc1 := has_cell zd 1 rfl; have zdc2 := has_cell zd 2 rfl; have zdc3 := has_cell zd 3 rfl; have zdc4 := has_cell zd 4 rfl
    have zdf0 := has_free zd 0; have zdf1 := has_free zd 1; have zdf2 := has_free zd 2; have zdf3 := has_free zd 3; have zdf4 := has_free zd 4
    have zdlt := has_lt zd
    have ZRH := Lib.hid zr; clear zr
    have ZDH := Lib.hid zd; clear zd
    go_wp2_with fail
    refine bodyPost_ret (v := .agg #[.int .i64 k1, .int .i64 s1, .bool l1, .bool o1, .bool f1]) ?_ ?_ ?_
    · simp [results, Try.results38, go_sem, zrc0, zrc1, zrc2, zrc3, zrc4, zrf0, zrf1, zrf2, zrf3, zrf4, zrlt, zdc0, zdc1, zdc2, zdc3, zdc4, zdf0, zdf1, zdf2, zdf3, zdf4, zdlt]
    · rfl
    · (try unfold DrawnV); (try unfold DrawnD); (try unfold DrawnF); with_reducible exact ⟨_, _, _, _, _, rfl, cset5 (HC.out) (by omega) (by omega) _ _ _ _ _, oset5n (HO.out) (by omega) _ _ _ _ _⟩
end Go.Proofs.Ytaeonangkbhmgaa
