/- Chapter 4: the drawing of doors and faults. -/
import Derived.Test.YtlbpmjlkoimalaaDrC
namespace Go.Proofs.Ytlbpmjlkoimalaa
open Go.RowKit
set_option linter.unusedVariables false
set_option maxRecDepth 100000 in
set_option maxHeartbeats 16000000 in
theorem faultsD_any (w : World) (B g : Nat) (hC : Cur w B g) : Calls Try.prog 14 #[.pointer (some ⟨g, 0, none⟩)] w (DrawnF w B g) := by
  have hlt := hC.lt; obtain ⟨hB, hg⟩ := hlt
  have HC := Lib.hid hC; clear hC
  have HO := Lib.hid (only_refl w g)
  have hsw := HO.out.size
  go_enter Try.func14, Try.ntmps14
  go_wp2_with fail
  have hz9 := size_new w 27 #[.int .i64 0, .int .i64 0, .int .i64 0, .int .i64 0]
  generalize hX : (w.alloc (.cells #[.int .i64 0, .int .i64 0, .int .i64 0, .int .i64 0] 27)) = w1 at hz9 ⊢
  have hb : Below w.heap.size w w1 := by rw [← hX]; exact balloc _ _
  have hk : Has w1 w.heap.size 27 #[.int .i64 0, .int .i64 0, .int .i64 0, .int .i64 0] := by rw [← hX]; exact has_new _ _ _
  clear hX
  have hmw1 := hb.size
  have kk := HC.out.bel hb; clear HC; have HC := Lib.hid kk; clear kk
  have kk := only_trans HO.out (only_bel (g := g) hb); clear HO; have HO := Lib.hid kk; clear kk hb
  have hsw1 := HO.out.size
  have zr := hk; clear hk; have hlzr := has_lt zr
  generalize hX : (w1.alloc (.cells #[.int .i64 0, .int .i64 0, .int .i64 0, .int .i64 0] 27)) = w2
  have hb : Below w1.heap.size w1 w2 := by rw [← hX]; exact balloc _ _
  have hk : Has w2 w1.heap.size 27 #[.int .i64 0, .int .i64 0, .int .i64 0, .int .i64 0] := by rw [← hX]; exact has_new _ _ _
  clear hX
  replace zr := has_call zr hb
  have hmw2 := hb.size
  have kk := HC.out.bel hb; clear HC; have HC := Lib.hid kk; clear kk
  have kk := only_trans HO.out (only_bel (g := g) hb); clear HO; have HO := Lib.hid kk; clear kk hb
  have hsw2 := HO.out.size
  have zf := hk; clear hk; have hlzf := has_lt zf
  rw [hz9] at zf hlzf; clear hz9
  refine (below_any _ B g 3 (by omega) (by omega) HC.out).mono ?_
  rintro e w3 ⟨x0, hx00, hx01, rfl, hC9, hO9⟩
  replace zr := hoo zr hO9 (by omega)
  replace zf := hoo zf hO9 (by omega)
  have hmw3 := hO9.size
  have kk := only_trans HO.out hO9; clear HO; have HO := Lib.hid kk; clear kk
  clear HC; have HC := Lib.hid hC9; clear hC9 hO9
  have hsw3 := HO.out.size
  obtain ⟨n0, rfl⟩ := Int.eq_ofNat_of_zero_le hx00
  have hn2 : n0 ≤ 2 := by omega
  have zrc0 := has_cell zr 0 rfl; have zrc1 := has_cell zr 1 rfl; have zrc2 := has_cell zr 2 rfl; have zrc3 := has_cell zr 3 rfl
  have zrlt := has_lt zr
  have zfc0 := has_cell zf 0 rfl; have zfc1 := has_cell zf 1 rfl; have zfc2 := has_cell zf 2 rfl; have zfc3 := has_cell zf 3 rfl
  have zflt := has_lt zf
  have ZRH := Lib.hid zr; clear zr
  have ZFH := Lib.hid zf; clear zf
  go_wp2_with fail
  clear zrc0 zrc1 zrc2 zrc3 zrlt zfc0 zfc1 zfc2 zfc3 zflt
  have zr := ZRH.out; clear ZRH
  have zf := ZFH.out; clear ZFH
  have ST : Hid (Has w3 (w.heap.size) 27 #[.int .i64 0, .int .i64 0, .int .i64 0, .int .i64 0] ∧ Has w3 (w.heap.size + 1) 27 #[.int .i64 0, .int .i64 0, .int .i64 0, .int .i64 0]) := Lib.hid ⟨zr, zf⟩
  clear zr zf hx00 hx01
  go_loopw [4] (fun iv wr => ∃ (n : Nat) (a b c d : Int), iv = .int .i64 n ∧ n ≤ n0 ∧ Has wr (w.heap.size) 27 #[.int .i64 0, .int .i64 0, .int .i64 0, .int .i64 0] ∧ Has wr (w.heap.size + 1) 27 #[.int .i64 a, .int .i64 b, .int .i64 c, .int .i64 d] ∧ Cur wr B g ∧ Only w g wr) (fun iv _ => (intOf iv).toNat)
  case atStart => exact ⟨n0, 0, 0, 0, 0, rfl, Nat.le_refl _, ST.out.1, ST.out.2, HC.out, HO.out⟩
  case round =>
    obtain ⟨n, a, b, c, d, rfl, hn, zr, zf, hC9, hO9⟩ := hrel
    clear ST HC HO; have HC := Lib.hid hC9; have HO := Lib.hid hO9; clear hC9 hO9
    have hswr := HO.out.size
    rcases n with _ | n
    · skip
      have zrc0 := has_cell zr 0 rfl; have zrc1 := has_cell zr 1 rfl; have zrc2 := has_cell zr 2 rfl; have zrc3 := has_cell zr 3 rfl
      have zrlt := has_lt zr
      have zfc0 := has_cell zf 0 rfl; have zfc1 := has_cell zf 1 rfl; have zfc2 := has_cell zf 2 rfl; have zfc3 := has_cell zf 3 rfl
      have zflt := has_lt zf
      have ZRH := Lib.hid zr; clear zr
      have ZFH := Lib.hid zf; clear zf
      go_wp2_with fail
      clear zrc0 zrc1 zrc2 zrc3 zrlt zfc0 zfc1 zfc2 zfc3 zflt
      have zr := ZRH.out; clear ZRH
      have zf := ZFH.out; clear ZFH
      refine (once_any _ B g 14 (by omega) (by omega) HC.out).mono ?_
      rintro e w4 ⟨x0, rfl, hC9, hO9⟩
      replace zr := hoo zr hO9 (by omega)
      replace zf := hoo zf hO9 (by omega)
      have hmw4 := hO9.size
      have kk := only_trans HO.out hO9; clear HO; have HO := Lib.hid kk; clear kk
      clear HC; have HC := Lib.hid hC9; clear hC9 hO9
      have hsw4 := HO.out.size
      cases x0
      · skip
        have zrc0 := has_cell zr 0 rfl; have zrc1 := has_cell zr 1 rfl; have zrc2 := has_cell zr 2 rfl; have zrc3 := has_cell zr 3 rfl
        have zrf0 := has_free zr 0; have zrf1 := has_free zr 1; have zrf2 := has_free zr 2; have zrf3 := has_free zr 3
        have zrlt := has_lt zr
        have zfc0 := has_cell zf 0 rfl; have zfc1 := has_cell zf 1 rfl; have zfc2 := has_cell zf 2 rfl; have zfc3 := has_cell zf 3 rfl
        have zff0 := has_free zf 0; have zff1 := has_free zf 1; have zff2 := has_free zf 2; have zff3 := has_free zf 3
        have zflt := has_lt zf
        have ZRH := Lib.hid zr; clear zr
        have ZFH := Lib.hid zf; clear zf
        go_wp2_with fail
        refine bodyPost_ret (v := .agg #[.int .i64 a, .int .i64 b, .int .i64 c, .int .i64 d]) ?_ ?_ ?_
        · simp [results, Try.results14, go_sem, zrc0, zrc1, zrc2, zrc3, zrf0, zrf1, zrf2, zrf3, zrlt]
        · rfl
        · (try unfold DrawnV); (try unfold DrawnD); (try unfold DrawnF); with_reducible exact ⟨_, _, _, _, rfl, cset4 (HC.out) (by omega) (by omega) _ _ _ _, oset4n (HO.out) (by omega) _ _ _ _⟩
      · skip
        have zrc0 := has_cell zr 0 rfl; have zrc1 := has_cell zr 1 rfl; have zrc2 := has_cell zr 2 rfl; have zrc3 := has_cell zr 3 rfl
        have zrlt := has_lt zr
        have zfc0 := has_cell zf 0 rfl; have zfc1 := has_cell zf 1 rfl; have zfc2 := has_cell zf 2 rfl; have zfc3 := has_cell zf 3 rfl
        have zflt := has_lt zf
        have ZRH := Lib.hid zr; clear zr
        have ZFH := Lib.hid zf; clear zf
        go_wp2_with fail
        clear zrc0 zrc1 zrc2 zrc3 zrlt zfc0 zfc1 zfc2 zfc3 zflt
        have zr := ZRH.out; clear ZRH
        have zf := ZFH.out; clear ZFH
        generalize hX : (w4.alloc (.cells #[.int .i64 (-1), .int .i64 3] 3)) = w5
        have hb : Below w4.heap.size w4 w5 := by rw [← hX]; exact balloc _ _
        have hk : Has w5 w4.heap.size 3 #[.int .i64 (-1), .int .i64 3] := by rw [← hX]; exact has_new _ _ _
        clear hX
        replace zr := has_call zr hb
        replace zf := has_call zf hb
        have hmw5 := hb.size
        have kk := HC.out.bel hb; clear HC; have HC := Lib.hid kk; clear kk
        have kk := only_trans HO.out (only_bel (g := g) hb); clear HO; have HO := Lib.hid kk; clear kk hb
        have hsw5 := HO.out.size
        have zl := hk; clear hk; have hlzl := has_lt zl
        refine (pickInt_any _ B g (w4.heap.size) 2 _ (-1) 3 HC.out zl rfl (by omega) (by omega) (by omega) (by intro j hj; rcases j with _ | _ | j; exact ⟨_, by decide, by decide, rfl⟩; exact ⟨_, by decide, by decide, rfl⟩; omega)).mono ?_
        rintro e w6 ⟨x9, hx90, hx91, rfl, hC9, hO9⟩
        replace zr := hoo zr hO9 (by omega)
        replace zf := hoo zf hO9 (by omega)
        replace zl := hoo zl hO9 (by omega)
        have hmw6 := hO9.size
        have kk := only_trans HO.out hO9; clear HO; have HO := Lib.hid kk; clear kk
        clear HC; have HC := Lib.hid hC9; clear hC9 hO9
        have hsw6 := HO.out.size
        have zrc0 := has_cell zr 0 rfl; have zrc1 := has_cell zr 1 rfl; have zrc2 := has_cell zr 2 rfl; have zrc3 := has_cell zr 3 rfl
        have zrf0 := has_free zr 0; have zrf1 := has_free zr 1; have zrf2 := has_free zr 2; have zrf3 := has_free zr 3
        have zrlt := has_lt zr
        have zfc0 := has_cell zf 0 rfl; have zfc1 := has_cell zf 1 rfl; have zfc2 := has_cell zf 2 rfl; have zfc3 := has_cell zf 3 rfl
        have zff0 := has_free zf 0; have zff1 := has_free zf 1; have zff2 := has_free zf 2; have zff3 := has_free zf 3
        have zflt := has_lt zf
        have zlc0 := has_cell zl 0 rfl; have zlc1 := has_cell zl 1 rfl
        have zllt := has_lt zl
        have ZRH := Lib.hid zr; clear zr
        have ZFH := Lib.hid zf; clear zf
        have ZLH := Lib.hid zl; clear zl
        go_wp2_with fail
        refine bodyPost_ret (v := .agg #[.int .i64 a, .int .i64 b, .int .i64 c, .int .i64 x9]) ?_ ?_ ?_
        · simp [results, Try.results14, go_sem, zrc0, zrc1, zrc2, zrc3, zrf0, zrf1, zrf2, zrf3, zrlt]
        · rfl
        · (try unfold DrawnV); (try unfold DrawnD); (try unfold DrawnF); with_reducible exact ⟨_, _, _, _, rfl, cset4 (HC.out.setn (by omega) (by omega) _ _) (by omega) (by omega) _ _ _ _, oset4n (only_setn HO.out (by omega) _ _) (by omega) _ _ _ _⟩
    · have hlt : (0 : Int) < ((n + 1 : Nat) : Int) := by omega
      have zrc0 := has_cell zr 0 rfl; have zrc1 := has_cell zr 1 rfl; have zrc2 := has_cell zr 2 rfl; have zrc3 := has_cell zr 3 rfl
      have zrlt := has_lt zr
      have zfc0 := has_cell zf 0 rfl; have zfc1 := has_cell zf 1 rfl; have zfc2 := has_cell zf 2 rfl; have zfc3 := has_cell zf 3 rfl
      have zflt := has_lt zf
      have ZRH := Lib.hid zr; clear zr
      have ZFH := Lib.hid zf; clear zf
      go_wp2_with fail
      clear zrc0 zrc1 zrc2 zrc3 zrlt zfc0 zfc1 zfc2 zfc3 zflt
      have zr := ZRH.out; clear ZRH
      have zf := ZFH.out; clear ZFH
      refine (below_any _ B g 2 (by omega) (by omega) HC.out).mono ?_
      rintro e w7 ⟨x1, hx10, hx11, rfl, hC9, hO9⟩
      replace zr := hoo zr hO9 (by omega)
      replace zf := hoo zf hO9 (by omega)
      have hmw7 := hO9.size
      have kk := only_trans HO.out hO9; clear HO; have HO := Lib.hid kk; clear kk
      clear HC; have HC := Lib.hid hC9; clear hC9 hO9
      have hsw7 := HO.out.size
      have zrc0 := has_cell zr 0 rfl; have zrc1 := has_cell zr 1 rfl; have zrc2 := has_cell zr 2 rfl; have zrc3 := has_cell zr 3 rfl
      have zrlt := has_lt zr
      have zfc0 := has_cell zf 0 rfl; have zfc1 := has_cell zf 1 rfl; have zfc2 := has_cell zf 2 rfl; have zfc3 := has_cell zf 3 rfl
      have zflt := has_lt zf
      have ZRH := Lib.hid zr; clear zr
      have ZFH := Lib.hid zf; clear zf
      go_wp2_with fail
      clear zrc0 zrc1 zrc2 zrc3 zrlt zfc0 zfc1 zfc2 zfc3 zflt
      have zr := ZRH.out; clear ZRH
      have zf := ZFH.out; clear ZFH
      refine (below_any _ B g 4 (by omega) (by omega) HC.out).mono ?_
      rintro e w8 ⟨x2, hx20, hx21, rfl, hC9, hO9⟩
      replace zr := hoo zr hO9 (by omega)
      replace zf := hoo zf hO9 (by omega)
      have hmw8 := hO9.size
      have kk := only_trans HO.out hO9; clear HO; have HO := Lib.hid kk; clear kk
      clear HC; have HC := Lib.hid hC9; clear hC9 hO9
      have hsw8 := HO.out.size
      have hcs : x2 = 0 ∨ x2 = 1 ∨ x2 = 2 ∨ x2 = 3 := by omega
      rcases hcs with rfl | rfl | rfl | rfl
      · skip
        have zrc0 := has_cell zr 0 rfl; have zrc1 := has_cell zr 1 rfl; have zrc2 := has_cell zr 2 rfl; have zrc3 := has_cell zr 3 rfl
        have zrlt := has_lt zr
        have zfc0 := has_cell zf 0 rfl; have zfc1 := has_cell zf 1 rfl; have zfc2 := has_cell zf 2 rfl; have zfc3 := has_cell zf 3 rfl
        have zff0 := has_free zf 0; have zff1 := has_free zf 1; have zff2 := has_free zf 2; have zff3 := has_free zf 3
        have zflt := has_lt zf
        have ZRH := Lib.hid zr; clear zr
        have ZFH := Lib.hid zf; clear zf
        go_wp2_with fail
        clear zrc0 zrc1 zrc2 zrc3 zrlt zfc0 zfc1 zfc2 zfc3 zff0 zff1 zff2 zff3 zflt
        have zr := ZRH.out; clear ZRH
        have zf := ZFH.out; clear ZFH
        go_roundw
        case rel => with_reducible exact ⟨n, (1 + x1), b, c, d, by go_num, by omega, has_far zr (Nat.ne_of_lt (Nat.lt_succ_self _)) _, by simpa using has_set zf 0 (.int .i64 (1 + x1)), HC.out.setn (by omega) (by omega) _ _, only_setn HO.out (by omega) _ _⟩
        case measure => simp [intOf] <;> omega
      · skip
        have zrc0 := has_cell zr 0 rfl; have zrc1 := has_cell zr 1 rfl; have zrc2 := has_cell zr 2 rfl; have zrc3 := has_cell zr 3 rfl
        have zrlt := has_lt zr
        have zfc0 := has_cell zf 0 rfl; have zfc1 := has_cell zf 1 rfl; have zfc2 := has_cell zf 2 rfl; have zfc3 := has_cell zf 3 rfl
        have zff0 := has_free zf 0; have zff1 := has_free zf 1; have zff2 := has_free zf 2; have zff3 := has_free zf 3
        have zflt := has_lt zf
        have ZRH := Lib.hid zr; clear zr
        have ZFH := Lib.hid zf; clear zf
        go_wp2_with fail
        clear zrc0 zrc1 zrc2 zrc3 zrlt zfc0 zfc1 zfc2 zfc3 zff0 zff1 zff2 zff3 zflt
        have zr := ZRH.out; clear ZRH
        have zf := ZFH.out; clear ZFH
        go_roundw
        case rel => with_reducible exact ⟨n, a, (1 + x1), c, d, by go_num, by omega, has_far zr (Nat.ne_of_lt (Nat.lt_succ_self _)) _, by simpa using has_set zf 1 (.int .i64 (1 + x1)), HC.out.setn (by omega) (by omega) _ _, only_setn HO.out (by omega) _ _⟩
        case measure => simp [intOf] <;> omega
      · skip
        have zrc0 := has_cell zr 0 rfl; have zrc1 := has_cell zr 1 rfl; have zrc2 := has_cell zr 2 rfl; have zrc3 := has_cell zr 3 rfl
        have zrlt := has_lt zr
        have zfc0 := has_cell zf 0 rfl; have zfc1 := has_cell zf 1 rfl; have zfc2 := has_cell zf 2 rfl; have zfc3 := has_cell zf 3 rfl
        have zff0 := has_free zf 0; have zff1 := has_free zf 1; have zff2 := has_free zf 2; have zff3 := has_free zf 3
        have zflt := has_lt zf
        have ZRH := Lib.hid zr; clear zr
        have ZFH := Lib.hid zf; clear zf
        go_wp2_with fail
        clear zrc0 zrc1 zrc2 zrc3 zrlt zfc0 zfc1 zfc2 zfc3 zff0 zff1 zff2 zff3 zflt
        have zr := ZRH.out; clear ZRH
        have zf := ZFH.out; clear ZFH
        go_roundw
        case rel => with_reducible exact ⟨n, a, b, (1 + x1), d, by go_num, by omega, has_far zr (Nat.ne_of_lt (Nat.lt_succ_self _)) _, by simpa using has_set zf 2 (.int .i64 (1 + x1)), HC.out.setn (by omega) (by omega) _ _, only_setn HO.out (by omega) _ _⟩
        case measure => simp [intOf] <;> omega
      · skip
        have zrc0 := has_cell zr 0 rfl; have zrc1 := has_cell zr 1 rfl; have zrc2 := has_cell zr 2 rfl; have zrc3 := has_cell zr 3 rfl
        have zrlt := has_lt zr
        have zfc0 := has_cell zf 0 rfl; have zfc1 := has_cell zf 1 rfl; have zfc2 := has_cell zf 2 rfl; have zfc3 := has_cell zf 3 rfl
        have zff0 := has_free zf 0; have zff1 := has_free zf 1; have zff2 := has_free zf 2; have zff3 := has_free zf 3
        have zflt := has_lt zf
        have ZRH := Lib.hid zr; clear zr
        have ZFH := Lib.hid zf; clear zf
        go_wp2_with fail
        clear zrc0 zrc1 zrc2 zrc3 zrlt zfc0 zfc1 zfc2 zfc3 zff0 zff1 zff2 zff3 zflt
        have zr := ZRH.out; clear ZRH
        have zf := ZFH.out; clear ZFH
        go_roundw
        case rel => with_reducible exact ⟨n, a, b, c, (1 + x1), by go_num, by omega, has_far zr (Nat.ne_of_lt (Nat.lt_succ_self _)) _, by simpa using has_set zf 3 (.int .i64 (1 + x1)), HC.out.setn (by omega) (by omega) _ _, only_setn HO.out (by omega) _ _⟩
        case measure => simp [intOf] <;> omega
end Go.Proofs.Ytlbpmjlkoimalaa
