/- Chapter 5: ChainOf as a list and a flag; MayTake of both sides. -/
import Derived.Test.YtdaeljjjcgpcoaaGraH
namespace Go.Proofs.Ytdaeljjjcgpcoaa
open Go.RowKit
set_option linter.unusedVariables false
def AnsIB (R : List Int × Bool) (w : World) (e : Ending) (w' : World) : Prop := ∃ A' c', e = .returned (.tuple #[.slice A' R.1.length c', .bool R.2]) ∧ OR w' w.heap.size 3 A' (intV R.1) ∧ Below w.heap.size w w'
theorem chain_len (l : List Gr) (owner who p t : Int) : ((chainA l owner who p t).getD [], (chainA l owner who p t).isSome).1.length ≤ 6 := by
  unfold chainA
  split
  · cases hs : shortB l p t 0 who owner with
    | none => simp
    | some h =>
      have h1 := chainL_len l p t who h owner
      have h2 := ((find_range _ 7 h).1 hs).1
      simp; omega
  · simp
theorem chainS2_any (w : World) (B : Nat) (A : Option Addr) (c : Nat) (l : List Gr) (owner who p t : Int) (hl : l.length ≤ 1048576) (hB : B ≤ w.heap.size) (hS : grL w B A l) :
    Calls Try.prog 7 #[.slice A l.length c, .int .i64 owner, .int .i64 who, .int .i64 p, .int .i64 t] w (AnsIB ((chainA l owner who p t).getD [], (chainA l owner who p t).isSome) w) := chainS_any w B A c l owner who p t hl hB hS
theorem chainI2_any (w : World) (B : Nat) (A : Option Addr) (c : Nat) (l : List Gr) (owner who p t : Int) (hl : l.length ≤ 1048576) (hB : B ≤ w.heap.size) (hS : grL w B A l) :
    Calls Try.prog 6 #[.slice A l.length c, .int .i64 owner, .int .i64 who, .int .i64 p, .int .i64 t] w (AnsIB ((chainA l owner who p t).getD [], (chainA l owner who p t).isSome) w) := chainI_any w B A c l owner who p t hl hB hS
set_option maxRecDepth 100000 in
set_option maxHeartbeats 2000000 in
theorem mayI_any (w : World) (B : Nat) (A : Option Addr) (c : Nat) (l : List Gr) (owner who p t : Int) (hl : l.length ≤ 1048576) (hB : B ≤ w.heap.size) (hS : grL w B A l) :
    Calls Try.prog 9 #[.slice A l.length c, .int .i64 owner, .int .i64 who, .int .i64 p, .int .i64 t] w fun e w' => e = .returned (.bool (mayB l owner who p t)) ∧ Below w.heap.size w w' := by
  have HM := Lib.hid (may_chain l owner who p t)
  go_enter Try.func9, Try.ntmps9
  go_wp2_with (go_at_call 6; refine (chainI_any w B A c l owner who p t hl hB hS).mono ?_; rintro e w1 ⟨A1, c1, rfl, hor, hb⟩; clear hor; rw [← HM.out])
  go_ret
  exact ⟨rfl, hb⟩
end Go.Proofs.Ytdaeljjjcgpcoaa
