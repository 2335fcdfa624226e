/- Chapter 4: the drawing of doors and faults. -/
import Derived.Test.YtlbpmjlkoimalaaDrF
import Derived.Deep.RegionHeld3
namespace Go.Proofs.Ytlbpmjlkoimalaa
open Go.RowKit
set_option linter.unusedVariables false
theorem far1 {W : World} {q r i j : Nat} {v u : Value} (h : W.cell? ⟨q, i, none⟩ = some v) (hne : q ≠ r) : (W.setCell ⟨r, j, none⟩ u).cell? ⟨q, i, none⟩ = some v :=
  (World.cell?_of_block (Below.heap_setCell W ⟨r, j, none⟩ u q hne)).trans h
theorem far5 {W : World} {q r i : Nat} {v a b c d e : Value} (h : W.cell? ⟨q, i, none⟩ = some v) (hne : q ≠ r) : (((((W.setCell ⟨r, 0, none⟩ a).setCell ⟨r, 1, none⟩ b).setCell ⟨r, 2, none⟩ c).setCell ⟨r, 3, none⟩ d).setCell ⟨r, 4, none⟩ e).cell? ⟨q, i, none⟩ = some v :=
  far1 (far1 (far1 (far1 (far1 h hne) hne) hne) hne) hne
set_option maxRecDepth 100000 in
set_option maxHeartbeats 4000000 in
theorem drawSigns_any (w : World) (A : Option Addr) (n c : Nat) (hn : n ≤ maxLen) (hS : BS w w.heap.size A n) : Calls Try.prog 5 #[.slice A n c] w fun e w' => (∃ (k s : Int) (l o f : Bool) (a b c d : Int), e = .returned (.tuple #[.agg #[.int .i64 k, .int .i64 s, .bool l, .bool o, .bool f], .agg #[.int .i64 a, .int .i64 b, .int .i64 c, .int .i64 d]])) ∧ Below w.heap.size w w' := by
  have HS := Lib.hid hS; clear hS
  go_enter Try.func5, Try.ntmps5
  go_wp2_with fail
  have hz9 := size_new w 25 #[.int .i64 0, .int .i64 0, .bool false, .bool false, .bool false]
  generalize hX : (w.alloc (.cells #[.int .i64 0, .int .i64 0, .bool false, .bool false, .bool false] 25)) = w1 at hz9 ⊢
  have zb : Below w.heap.size w w1 := by rw [← hX]; exact balloc _ _
  have zr : Has w1 w.heap.size 25 #[.int .i64 0, .int .i64 0, .bool false, .bool false, .bool false] := by rw [← hX]; exact has_new _ _ _
  clear hX
  generalize hX : (w1.alloc (.cells #[.int .i64 0, .int .i64 0, .int .i64 0, .int .i64 0] 27)) = w2
  have hb : Below w1.heap.size w1 w2 := by rw [← hX]; exact balloc _ _
  have zf : Has w2 (w.heap.size + 1) 27 #[.int .i64 0, .int .i64 0, .int .i64 0, .int .i64 0] := by rw [← hX, ← hz9]; exact has_new _ _ _
  clear hX; replace zr := has_call zr hb; replace zb := bthen zb hb; clear hb
  have hl1 := has_lt zr; have hl2 := has_lt zf; have hs2 := zb.size
  refine (new_any w2 w.heap.size A n c hn (by omega) (HS.out.below zb)).mono ?_
  rintro e w3 ⟨rfl, hC, hb⟩
  have hs3 := hb.size; replace zr := has_call zr hb; replace zf := has_call zf hb; replace zb := bthen zb hb; clear hb
  have HC := Lib.hid hC; clear hC
  have hg3 : w2.heap.size < w3.heap.size := HC.out.lt.2
  have HO := Lib.hid (only_refl w3 w2.heap.size)
  have HZB := Lib.hid zb; clear zb
  go_wp2_with fail
  refine (cutD_any _ w.heap.size w2.heap.size HC.out).mono ?_
  rintro e w4 ⟨k1, s1, l1, o1, f1, rfl, hC9, hO9⟩
  replace zr := hoo zr hO9 (by omega)
  replace zf := hoo zf hO9 (by omega)
  have hmw4 := hO9.size
  have kk := only_trans HO.out hO9; clear HO; have HO := Lib.hid kk; clear kk
  clear HC; have HC := Lib.hid hC9; clear hC9 hO9
  have hsw4 := HO.out.size
  have zrc0 := has_cell zr 0 rfl; have zrc1 := has_cell zr 1 rfl; have zrc2 := has_cell zr 2 rfl; have zrc3 := has_cell zr 3 rfl; have zrc4 := has_cell zr 4 rfl
  have zrf0 := has_free zr 0; have zrf1 := has_free zr 1; have zrf2 := has_free zr 2; have zrf3 := has_free zr 3; have zrf4 := has_free zr 4
  have zrlt := has_lt zr
  have zfc0 := has_cell zf 0 rfl; have zfc1 := has_cell zf 1 rfl; have zfc2 := has_cell zf 2 rfl; have zfc3 := has_cell zf 3 rfl
  have zff0 := has_free zf 0; have zff1 := has_free zf 1; have zff2 := has_free zf 2; have zff3 := has_free zf 3
  have zflt := has_lt zf
  have ZRH := Lib.hid zr; clear zr
  have ZFH := Lib.hid zf; clear zf
  go_wp2_with fail
  clear zrc0 zrc1 zrc2 zrc3 zrc4 zrf0 zrf1 zrf2 zrf3 zrf4 zrlt zfc0 zfc1 zfc2 zfc3 zff0 zff1 zff2 zff3 zflt
  have zr := ZRH.out; clear ZRH
  have zf := ZFH.out; clear ZFH
  generalize hX : (w4.alloc (.cells #[.int .i64 k1, .int .i64 s1, .bool l1, .bool o1, .bool f1] 25)) = w5
  have hb : Below w4.heap.size w4 w5 := by rw [← hX]; exact balloc _ _
  have hk : Has w5 w4.heap.size 25 #[.int .i64 k1, .int .i64 s1, .bool l1, .bool o1, .bool f1] := by rw [← hX]; exact has_new _ _ _
  clear hX
  replace zr := has_call zr hb
  replace zf := has_call zf hb
  have hmw5 := hb.size
  have kk := HC.out.bel hb; clear HC; have HC := Lib.hid kk; clear kk
  have kk := only_trans HO.out (only_bel (g := w2.heap.size) hb); clear HO; have HO := Lib.hid kk; clear kk hb
  have hsw5 := HO.out.size
  have zd := hk; clear hk; have hlzd := has_lt zd
  have zd0 := has_drew zd
  have zdd0 := has_cell zd0 0 rfl; have zdd1 := has_cell zd0 1 rfl; have zdd2 := has_cell zd0 2 rfl; have zdd3 := has_cell zd0 3 rfl; have zdd4 := has_cell zd0 4 rfl
  have zrc0 := has_cell zr 0 rfl; have zrc1 := has_cell zr 1 rfl; have zrc2 := has_cell zr 2 rfl; have zrc3 := has_cell zr 3 rfl; have zrc4 := has_cell zr 4 rfl
  have zrlt := has_lt zr
  have ZRH := Lib.hid zr; clear zr
  have ZFH := Lib.hid zf; clear zf
  have ZDH := Lib.hid zd; clear zd
  clear zrc0 zrc1 zrc2 zrc3 zrc4 zrlt zd0
  have hne1 : ¬ w.heap.size = w4.heap.size := (by omega); have hne2 : ¬ w4.heap.size = w.heap.size := (by omega)
  go_region_with (go_at_call 14; refine (faultsD_any w5.drew w.heap.size w2.heap.size HC.out.drew).mono ?_; rintro e w6 ⟨a, b, c, d, rfl, hC9, hO9⟩; have hm6 := hO9.size; have zr6 := hoo (has_drew ZRH.out) hO9 (by omega); have zf6 := hoo (has_drew ZFH.out) hO9 (by omega); have zd6 := hoo (has_drew ZDH.out) hO9 (by omega); have zlr := has_lt zr6; have zlf := has_lt zf6; have zrc0 := has_cell zr6 0 rfl; have zrf0 := has_free zr6 0; have zrc1 := has_cell zr6 1 rfl; have zrf1 := has_free zr6 1; have zrc2 := has_cell zr6 2 rfl; have zrf2 := has_free zr6 2; have zrc3 := has_cell zr6 3 rfl; have zrf3 := has_free zr6 3; have zrc4 := has_cell zr6 4 rfl; have zrf4 := has_free zr6 4; have zfc0 := has_cell zf6 0 rfl; have zff0 := has_free zf6 0; have zfc1 := has_cell zf6 1 rfl; have zff1 := has_free zf6 1; have zfc2 := has_cell zf6 2 rfl; have zff2 := has_free zf6 2; have zfc3 := has_cell zf6 3 rfl; have zff3 := has_free zf6 3; have zdc0 := has_cell zd6 0 rfl; have zdf0 := has_free zd6 0; have zdc1 := has_cell zd6 1 rfl; have zdf1 := has_free zd6 1; have zdc2 := has_cell zd6 2 rfl; have zdf2 := has_free zd6 2; have zdc3 := has_cell zd6 3 rfl; have zdf3 := has_free zd6 3; have zdc4 := has_cell zd6 4 rfl; have zdf4 := has_free zd6 4; have ZR6 := Lib.hid zr6; have ZF6 := Lib.hid zf6; clear zr6 zf6 zd6; have HO6 := Lib.hid hO9; clear hC9 hO9)
  all_goals (go_wp2_with fail)
  all_goals
    have zb5 := HZB.out.trans (only_below HO.out (B := w.heap.size) (by omega) (by omega))
    have zb6 := (zb5.drew).trans (only_below HO6.out (B := w.heap.size) (by show w.heap.size ≤ w5.heap.size; omega) (by omega))
    clear zb5
    refine bodyPost_ret (v := .tuple #[.agg #[.int .i64 k1, .int .i64 s1, .bool l1, .bool o1, .bool f1], .agg #[.int .i64 a, .int .i64 b, .int .i64 c, .int .i64 d]]) ?_ ?_ ?_
    · simp [results, Try.results5, go_sem, zrc0, zrc1, zrc2, zrc3, zrc4, zfc0, zfc1, zfc2, zfc3]
    · rfl
    · with_reducible exact ⟨⟨_, _, _, _, _, _, _, _, _, rfl⟩, ((((bs5 (Nat.le_refl _) _ _ _ _ _ zb6).setCell (Nat.le_succ _) _).setCell (Nat.le_succ _) _).setCell (Nat.le_succ _) _).setCell (Nat.le_succ _) _⟩
end Go.Proofs.Ytlbpmjlkoimalaa
