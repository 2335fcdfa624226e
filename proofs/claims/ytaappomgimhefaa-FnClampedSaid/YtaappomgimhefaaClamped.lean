/- The walk of the law FnClamped. -/
import Derived.Test.YtaappomgimhefaaDraw
import Derived.OwnWalk
namespace Go.Proofs.Ytaappomgimhefaa
open Go.RowKit
set_option linter.unusedVariables false
theorem ret_bool {a b : Bool} (h : a = b) : Ending.returned (.bool a) = .returned (.bool b) := by rw [h]
theorem ret_int {k : IntKind} {a b : Int} (h : a = b) : Ending.returned (.int k a) = .returned (.int k b) := by rw [h]

def clampB (n a b : Int) : Int := if b < a then a else if n < a then a else if b < n then b else n
theorem clampI_any (w : World) (n a b : Int) : Calls Try.prog 13 #[.int .i64 n, .int .i64 a, .int .i64 b] w fun e w' => e = .returned (.int .i64 (clampB n a b)) ∧ w' = w := by
  go_enter Try.func13, Try.ntmps13
  go_wp2
  all_goals go_ret
  all_goals exact ⟨ret_int (by unfold clampB; repeat (first | omega | split)), rfl⟩
def Three (w : World) (e : Ending) (w' : World) : Prop := ∃ x y z : Int, e = .returned (.tuple #[.int .i64 x, .int .i64 y, .int .i64 z]) ∧ Below w.heap.size w w'
set_option maxHeartbeats 400000 in
theorem drawClamp_any (w : World) (A : Option Addr) (n c : Nat) (hn : n ≤ maxLen) (hS : BS w w.heap.size A n) :
    Calls Try.prog 12 #[.slice A n c] w (Three w) := by
  have HS := Lib.hid hS; clear hS
  go_enter Try.func12, Try.ntmps12
  go_wp2_with fail
  refine (new_any w w.heap.size A n c hn (Nat.le_refl _) HS.out).mono ?_
  rintro e w1 ⟨rfl, hC1, hb1⟩
  have HC1 := Lib.hid hC1; clear hC1
  go_wp2_with fail
  refine (once_any w1 _ _ 4 (by omega) (by omega) HC1.out).mono ?_
  rintro e w2 ⟨x, rfl, hC2, ho2⟩
  have HC2 := Lib.hid hC2; clear hC2
  have hb2 := hb1.trans (only_below ho2 HC1.out.lt.1 (Nat.le_refl _))
  cases x
  · go_wp2_with fail
    refine (below_any w2 _ _ 40 (by omega) (by omega) HC2.out).mono ?_
    rintro e w3 ⟨x, hx0, hx1, rfl, hC3, ho3⟩
    have HC3 := Lib.hid hC3; clear hC3
    have hb3 := hb2.trans (only_below ho3 HC2.out.lt.1 (Nat.le_refl _))
    go_wp2_with fail
    refine (below_any w3 _ _ 80 (by omega) (by omega) HC3.out).mono ?_
    rintro e w4 ⟨y, hy0, hy1, rfl, hC4, ho4⟩
    have HC4 := Lib.hid hC4; clear hC4
    have hb4 := hb3.trans (only_below ho4 HC3.out.lt.1 (Nat.le_refl _))
    go_wp2_with fail
    refine (below_any w4 _ _ 30 (by omega) (by omega) HC4.out).mono ?_
    rintro e w5 ⟨z, hz0, hz1, rfl, hC5, ho5⟩
    have hb5 := hb4.trans (only_below ho5 HC4.out.lt.1 (Nat.le_refl _))
    go_wp2_with fail
    go_ret3
    exact ⟨_, _, _, rfl, hb5⟩
  · go_wp2_with fail
    refine (number_any w2 _ _ HC2.out HC2.out.lt.2).mono ?_
    rintro e w3 ⟨x, hx0, hx1, rfl, hC3, ho3⟩
    have HC3 := Lib.hid hC3; clear hC3
    have hb3 := hb2.trans (only_below ho3 HC2.out.lt.1 (Nat.le_refl _))
    go_wp2_with fail
    refine (number_any w3 _ _ HC3.out HC3.out.lt.2).mono ?_
    rintro e w4 ⟨y, hy0, hy1, rfl, hC4, ho4⟩
    have HC4 := Lib.hid hC4; clear hC4
    have hb4 := hb3.trans (only_below ho4 HC3.out.lt.1 (Nat.le_refl _))
    go_wp2_with fail
    refine (number_any w4 _ _ HC4.out HC4.out.lt.2).mono ?_
    rintro e w5 ⟨z, hz0, hz1, rfl, hC5, ho5⟩
    have hb5 := hb4.trans (only_below ho5 HC4.out.lt.1 (Nat.le_refl _))
    go_wp2_with fail
    go_ret3
    exact ⟨_, _, _, rfl, hb5⟩

set_option maxHeartbeats 1000000 in
theorem clamped_walk (A : Option Addr) (n c : Nat) (w : World) (hn : n ≤ maxLen) (hS : BS w w.heap.size A n) :
    Calls Try.prog 3 #[.slice A n c] w fun e w' => e = .returned (.bool true) ∧ Below w.heap.size w w' := by
  have HS := Lib.hid hS; clear hS
  by_cases hbig : (1048576 : Int) < n
  · have hd : decide ((1048576 : Int) < n) = true := by simpa using hbig
    have Hd := Lib.hid hd; clear hd
    go_enter Try.func3, Try.ntmps3
    go_wp2_with fail
    refine (big_any w A n c hn).mono ?_
    rintro e w1 ⟨rfl, rfl⟩
    rw [Hd.out]
    go_wp2_with fail
    go_ret
    exact ⟨rfl, Below.refl _ _⟩
  have hd : decide ((1048576 : Int) < n) = false := by simpa using hbig
  have Hd := Lib.hid hd; clear hd
  have h735 : clampB 7 3 5 = 5 := by decide
  have H735 := Lib.hid h735; clear h735
  go_enter Try.func3, Try.ntmps3
  go_wp2_with fail
  refine (big_any w A n c hn).mono ?_
  rintro e w1 ⟨rfl, rfl⟩
  rw [Hd.out]
  go_wp2_with fail
  refine (drawClamp_any w1 A n c hn HS.out).mono ?_
  rintro e w2 ⟨m, a, b, rfl, hb2⟩
  go_wp2_with fail
  refine (clampI_any w2 m a b).mono ?_
  rintro e w3 ⟨rfl, rfl⟩
  by_cases hba : b < a
  · have hx : clampB m a b = a := if_pos hba
    rw [hx]
    clear hx
    go_wp2_with fail
    refine (clampI_any w3 7 3 5).mono ?_
    rintro e w4 ⟨rfl, rfl⟩
    rw [H735.out]
    go_wp2_with fail
    go_ret
    exact ⟨rfl, hb2⟩
  · obtain ⟨x, hx⟩ : ∃ x, clampB m a b = x := ⟨_, rfl⟩
    have hxa : a ≤ x ∧ x ≤ b ∧ clampB x a b = x ∧ (m < a ∨ b < m ∨ x = m) := by
      rw [← hx]; unfold clampB; repeat (first | omega | split)
    rw [hx]
    clear hx
    obtain ⟨h1, h2, h3, h4⟩ := hxa
    have H3 := Lib.hid h3; clear h3
    by_cases hma : m < a
    · clear h4
      go_wp2_with fail
      refine (clampI_any w3 x a b).mono ?_
      rintro e w4 ⟨rfl, rfl⟩
      rw [H3.out]
      go_wp2_with fail
      refine (clampI_any w4 7 3 5).mono ?_
      rintro e w5 ⟨rfl, rfl⟩
      rw [H735.out]
      go_wp2_with fail
      go_ret
      exact ⟨rfl, hb2⟩
    · by_cases hmb : b < m
      · clear h4
        go_wp2_with fail
        refine (clampI_any w3 x a b).mono ?_
        rintro e w4 ⟨rfl, rfl⟩
        rw [H3.out]
        go_wp2_with fail
        refine (clampI_any w4 7 3 5).mono ?_
        rintro e w5 ⟨rfl, rfl⟩
        rw [H735.out]
        go_wp2_with fail
        go_ret
        exact ⟨rfl, hb2⟩
      · have hxm : x = m := by omega
        clear h4
        subst hxm
        go_wp2_with fail
        refine (clampI_any w3 x a b).mono ?_
        rintro e w4 ⟨rfl, rfl⟩
        rw [H3.out]
        go_wp2_with fail
        refine (clampI_any w4 7 3 5).mono ?_
        rintro e w5 ⟨rfl, rfl⟩
        rw [H735.out]
        go_wp2_with fail
        go_ret
        exact ⟨rfl, hb2⟩
end Go.Proofs.Ytaappomgimhefaa
