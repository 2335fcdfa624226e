/- Chapter 5: the drawing of grants. -/
import Derived.Test.YtdaeljjjcgpcoaaGrG
namespace Go.Proofs.Ytdaeljjjcgpcoaa
open Go.RowKit
set_option linter.unusedVariables false
/-- a list of grants and four numbers -/
def DFour (w : World) (e : Ending) (w' : World) : Prop :=
  ∃ (A : Option Addr) (c : Nat) (l : List Gr) (o q p t : Int), e = .returned (.tuple #[.slice A l.length c, .int .i64 o, .int .i64 q, .int .i64 p, .int .i64 t]) ∧ l.length ≤ 31 ∧ (-1 ≤ o ∧ o ≤ 41) ∧ (-1 ≤ q ∧ q ≤ 41) ∧ (0 ≤ p ∧ p ≤ 1000) ∧ (-1 ≤ t ∧ t ≤ 20001) ∧ OR w' w.heap.size 35 A (grV l) ∧ Below w.heap.size w w'
set_option maxRecDepth 100000 in
set_option maxHeartbeats 8000000 in
theorem four_any (w : World) (A : Option Addr) (n c : Nat) (hn : n ≤ maxLen) (hS : BS w w.heap.size A n) : Calls Try.prog 13 #[.slice A n c] w (DFour w) := by
  have HS := Lib.hid hS; clear hS
  go_enter Try.func13, Try.ntmps13
  go_wp2_with fail
  refine (new_any w w.heap.size A n c hn (Nat.le_refl _) HS.out).mono ?_
  rintro e w1 ⟨rfl, hC1, hb1⟩
  have hlt1 := hC1.lt.2
  have C1 := Lib.hid hC1; have B1 := Lib.hid hb1; clear hC1 hb1
  go_wp2_with fail
  refine (anyGD_any w1 w.heap.size w.heap.size C1.out).mono ?_
  rintro e w2 ⟨v0, l, rfl, hl, _, hown, hC2, hO2⟩
  obtain ⟨A0, c0, rfl, _⟩ := or_own hown
  have OW2 := Lib.hid hown; have C2 := Lib.hid hC2; have O2 := Lib.hid hO2; clear hown hC2 hO2 C1
  go_wp2_with fail
  refine (whoD_any w2 w.heap.size w.heap.size C2.out).mono ?_
  rintro e w3 ⟨o, ho0, ho1, rfl, hC3, ho3⟩
  have OW3 := Lib.hid (own_o OW2.out ho3 hlt1); have C3 := Lib.hid hC3; have O3 := Lib.hid (only_trans O2.out ho3); clear hC3 ho3 OW2 C2 O2
  go_wp2_with fail
  refine (whoD_any w3 w.heap.size w.heap.size C3.out).mono ?_
  rintro e w4 ⟨q, hq0, hq1, rfl, hC4, ho4⟩
  have OW4 := Lib.hid (own_o OW3.out ho4 hlt1); have C4 := Lib.hid hC4; have O4 := Lib.hid (only_trans O3.out ho4); clear hC4 ho4 OW3 C3 O3
  have hs4 := O4.out.size
  go_wp2_with fail
  generalize hX : (w4.alloc _) = w5
  have hb5 : Below w4.heap.size w4 w5 := by rw [← hX]; exact balloc _ _
  have k5 : Has w5 w4.heap.size 3 #[.int .i64 1, .int .i64 1, .int .i64 1, .int .i64 2, .int .i64 0, .int .i64 1000] := by rw [← hX]; exact has_new _ _ _
  clear hX
  have hs5 := hb5.size
  have OW5 := Lib.hid (own_o (g := w.heap.size) OW4.out (only_bel hb5) hlt1); have C5 := Lib.hid (C4.out.bel hb5); have O5 := Lib.hid (only_trans O4.out (only_bel (g := w.heap.size) hb5)); clear OW4 C4 O4
  refine (pickInt_any w5 w.heap.size w.heap.size w4.heap.size 6 _ 0 1000 C5.out k5 rfl (by omega) (by omega) (by omega) (by intro j hj; rcases j with _ | _ | _ | _ | _ | _ | j; all_goals first | exact ⟨_, by decide, by decide, rfl⟩ | omega)).mono ?_
  rintro e w6 ⟨p, hp0, hp1, rfl, hC6, ho6⟩
  have OW6 := Lib.hid (own_o OW5.out ho6 hlt1); have C6 := Lib.hid hC6; have O6 := Lib.hid (only_trans O5.out ho6); clear hC6 ho6 OW5 C5 O5 k5 hb5
  have hs6 := O6.out.size
  go_wp2_with fail
  generalize hX : (w6.alloc _) = w7
  have hb7 : Below w6.heap.size w6 w7 := by rw [← hX]; exact balloc _ _
  have k7 : Has w7 w6.heap.size 3 #[.int .i64 5, .int .i64 10, .int .i64 12, .int .i64 15, .int .i64 20, .int .i64 0, .int .i64 20000, .int .i64 20001, .int .i64 (-1)] := by rw [← hX]; exact has_new _ _ _
  clear hX
  have hs7 := hb7.size
  have OW7 := Lib.hid (own_o (g := w.heap.size) OW6.out (only_bel hb7) hlt1); have C7 := Lib.hid (C6.out.bel hb7); have O7 := Lib.hid (only_trans O6.out (only_bel (g := w.heap.size) hb7)); clear OW6 C6 O6
  refine (pickInt_any w7 w.heap.size w.heap.size w6.heap.size 9 _ (-1) 20001 C7.out k7 rfl (by omega) (by omega) (by omega) (by intro j hj; rcases j with _ | _ | _ | _ | _ | _ | _ | _ | _ | j; all_goals first | exact ⟨_, by decide, by decide, rfl⟩ | omega)).mono ?_
  rintro e w8 ⟨t, ht0, ht1, rfl, hC8, ho8⟩
  have OW8 := Lib.hid (own_o OW7.out ho8 hlt1); have O8 := Lib.hid (only_trans O7.out ho8); clear hC8 ho8 OW7 C7 O7 k7 hb7
  go_wp2_with fail
  refine bodyPost_ret (v := .tuple #[.slice A0 l.length c0, .int .i64 o, .int .i64 q, .int .i64 p, .int .i64 t]) (by simp [results, Try.results13, go_sem]) rfl ?_
  exact ⟨A0, c0, l, o, q, p, t, rfl, hl, ⟨ho0, ho1⟩, ⟨hq0, hq1⟩, ⟨hp0, hp1⟩, ⟨ht0, ht1⟩, (own_or OW8.out).more (by omega), B1.out.trans (only_below O8.out (by omega) (Nat.le_refl _))⟩
set_option maxRecDepth 100000 in
set_option maxHeartbeats 4000000 in
theorem chnD_any (w : World) (A : Option Addr) (n c : Nat) (hn : n ≤ maxLen) (hS : BS w w.heap.size A n) : Calls Try.prog 5 #[.slice A n c] w (DFour w) := by
  have HS := Lib.hid hS; clear hS
  go_enter Try.func5, Try.ntmps5
  go_wp2_with fail
  refine (four_any w A n c hn HS.out).mono ?_
  rintro e w1 ⟨A0, c0, l, o, q, p, t, rfl, h1, h2, h3, h4, h5, hor, hb⟩
  have HOR := Lib.hid hor; have HB := Lib.hid hb; clear hor hb
  go_wp2_with fail
  refine bodyPost_ret (v := .tuple #[.slice A0 l.length c0, .int .i64 o, .int .i64 q, .int .i64 p, .int .i64 t]) (by simp [results, Try.results5, go_sem]) rfl ?_
  exact ⟨A0, c0, l, o, q, p, t, rfl, h1, h2, h3, h4, h5, HOR.out, HB.out⟩
end Go.Proofs.Ytdaeljjjcgpcoaa
