/- Chapter 3: contracts of NewLock, TryName and MostWrong, both sides, and of the laws' copies and comparisons. -/
import Derived.Test.YtjpafmkmpnibgabDoorLckB
namespace Go.Proofs.YtjpafmkmpnibgabDoor
open Go.RowKit
set_option linter.unusedVariables false
/-- what NewLock answers -/
def newK (s : Int) : Value := if secB s = true then .tuple #[.agg #[.int .i64 s, .int .i64 0, .int .i64 0, .int .i64 0, .int .i64 0], .bool true] else .tuple #[.agg #[.int .i64 0, .int .i64 0, .int .i64 0, .int .i64 0, .int .i64 0], .bool false]
theorem newK_yes {s : Int} (h : secB s = true) : newK s = .tuple #[.agg #[.int .i64 s, .int .i64 0, .int .i64 0, .int .i64 0, .int .i64 0], .bool true] := if_pos h
theorem newK_no {s : Int} (h : secB s = false) : newK s = .tuple #[.agg #[.int .i64 0, .int .i64 0, .int .i64 0, .int .i64 0, .int .i64 0], .bool false] := if_neg (by rw [h]; simp)
theorem retv {a b : Value} (h : a = b) : Ending.returned a = .returned b := by rw [h]
set_option maxRecDepth 100000 in
set_option maxHeartbeats 1000000 in
theorem newKS_any (w : World) (s : Int) : Calls Tryd.prog 38 #[.int .i64 s] w fun e w' => e = .returned (newK s) ∧ Below w.heap.size w w' := by
  cases h1 : secB s
  · have HK := Lib.hid (newK_no h1)
    go_enter Tryd.func38, Tryd.ntmps38
    go_wp2_with (refine (secS_any _ _).mono ?_; rintro e w' ⟨rfl, rfl⟩; rw [h1])
    refine bodyPost_ret (v := .tuple #[.agg #[.int .i64 0, .int .i64 0, .int .i64 0, .int .i64 0, .int .i64 0], .bool false]) (by simp [results, Tryd.results38, go_sem]) rfl ⟨retv HK.out.symm, ?_⟩
    first | exact balloc _ _ | exact (balloc _ _).setCell (Nat.le_refl _) _
  · have HK := Lib.hid (newK_yes h1)
    go_enter Tryd.func38, Tryd.ntmps38
    go_wp2_with (refine (secS_any _ _).mono ?_; rintro e w' ⟨rfl, rfl⟩; rw [h1])
    refine bodyPost_ret (v := .tuple #[.agg #[.int .i64 s, .int .i64 0, .int .i64 0, .int .i64 0, .int .i64 0], .bool true]) (by simp [results, Tryd.results38, go_sem]) rfl ⟨retv HK.out.symm, ?_⟩
    first | exact balloc _ _ | exact (balloc _ _).setCell (Nat.le_refl _) _
/-- the name of a result -/
def tnV (r : Int) : ByteArray := if r = 0 then ⟨#[111, 112, 101, 110]⟩ else if r = 1 then ⟨#[119, 97, 105, 116]⟩ else if r = 2 then ⟨#[119, 114, 111, 110, 103]⟩ else if r = 3 then ⟨#[112, 97, 117, 115, 101]⟩ else if r = 4 then ⟨#[98, 97, 100]⟩ else ⟨#[]⟩
theorem tnV_no {r : Int} (h : ¬ (0 ≤ r ∧ r ≤ 4)) : tnV r = ⟨#[]⟩ := by
  unfold tnV
  rw [if_neg (by omega), if_neg (by omega), if_neg (by omega), if_neg (by omega), if_neg (by omega)]
theorem rstr {a b : ByteArray} (h : a = b) : Ending.returned (.string a) = .returned (.string b) := by rw [h]
set_option maxHeartbeats 1000000 in
theorem tnI_any (w : World) (r : Int) : Calls Tryd.prog 13 #[.int .i64 r] w fun e w' => e = .returned (.string (tnV r)) ∧ Below w.heap.size w w' := by
  by_cases h1 : 0 ≤ r ∧ r ≤ 4
  · have hc : r = 0 ∨ r = 1 ∨ r = 2 ∨ r = 3 ∨ r = 4 := by omega
    clear h1
    rcases hc with rfl | rfl | rfl | rfl | rfl
    all_goals
      go_enter Tryd.func13, Tryd.ntmps13
      go_wp2
      go_ret
      exact ⟨rfl, Below.refl _ _⟩
  · have HK := Lib.hid (tnV_no h1)
    have e0 : (r == 0) = false := by simp; omega
    have e1 : (r == 1) = false := by simp; omega
    have e2 : (r == 2) = false := by simp; omega
    have e3 : (r == 3) = false := by simp; omega
    have e4 : (r == 4) = false := by simp; omega
    go_enter Tryd.func13, Tryd.ntmps13
    go_wp2
    go_ret
    exact ⟨rstr HK.out.symm, Below.refl _ _⟩

/-- how many wrong codes are tried: f rounds at most -/
def mostL : Nat → Int → Int → Int → Int → Int
  | 0, _, n, _, _ => n
  | f + 1, time, n, t, p => if t ≤ time then mostL f time (n + 3) (t + pow2 p) (min (p + 1) 6) else n
theorem mostL_out (f : Nat) (time n t p : Int) (h : time < t) : mostL f time n t p = n := by
  cases f
  · rfl
  · rw [mostL, if_neg (by omega)]
theorem mostL_in (f : Nat) (time n t p : Int) (h : t ≤ time) : mostL (f + 1) time n t p = mostL f time (n + 3) (t + pow2 p) (min (p + 1) 6) := by rw [mostL, if_pos h]
def mostV (time : Int) : Int := if time ≤ 20000 then mostL (time + 1).toNat time 0 0 0 else 0
theorem mostV_in {time : Int} (h : time ≤ 20000) : mostV time = mostL (time + 1).toNat time 0 0 0 := if_pos h
theorem mostV_big {time : Int} (h : ¬ time ≤ 20000) : mostV time = 0 := if_neg h
theorem mostV_neg {time : Int} (h : time < 0) : mostV time = 0 := by rw [mostV_in (by omega)]; exact mostL_out _ _ _ _ _ h
end Go.Proofs.YtjpafmkmpnibgabDoor
