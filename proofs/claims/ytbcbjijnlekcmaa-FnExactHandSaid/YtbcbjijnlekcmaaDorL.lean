/- Chapter 4: the copies and comparisons of the laws. -/
import Derived.Test.YtbcbjijnlekcmaaDorP
namespace Go.Proofs.Ytbcbjijnlekcmaa
open Go.RowKit
set_option linter.unusedVariables false
theorem ccall {W W' : World} {q : Addr} {v : Value} (h : W.cell? q = some v) (hb : Below W.heap.size W W') : W'.cell? q = some v := by
  have hlt : q.block < W.heap.size := by
    rcases Nat.lt_or_ge q.block W.heap.size with hlt | hge
    · exact hlt
    · unfold World.cell? at h
      rw [Array.getElem?_eq_none hge] at h
      simp at h
  exact (hb.cell hlt).trans h
set_option maxRecDepth 100000 in
set_option maxHeartbeats 1000000 in
theorem toDoor_any (w : World) (k s : Int) (l o f : Bool) : Calls Try.prog 16 #[.agg #[.int .i64 k, .int .i64 s, .bool l, .bool o, .bool f]] w fun e w' => e = .returned (.agg #[.int .i64 k, .int .i64 s, .bool l, .bool o, .bool f]) ∧ Below w.heap.size w w' := by
  go_enter Try.func16, Try.ntmps16
  go_wp2
  exact bodyPost_ret (v := .agg #[.int .i64 k, .int .i64 s, .bool l, .bool o, .bool f]) (by simp [results, Try.results16, go_sem]) rfl ⟨rfl, (((Below.refl _ _).alloc (Nat.le_refl _) _).alloc (by simp) _).alloc (by simp; omega) _⟩
set_option maxRecDepth 100000 in
set_option maxHeartbeats 1000000 in
theorem toFaults_any (w : World) (a b c d : Int) : Calls Try.prog 32 #[.agg #[.int .i64 a, .int .i64 b, .int .i64 c, .int .i64 d]] w fun e w' => e = .returned (.agg #[.int .i64 a, .int .i64 b, .int .i64 c, .int .i64 d]) ∧ Below w.heap.size w w' := by
  go_enter Try.func32, Try.ntmps32
  go_wp2
  exact bodyPost_ret (v := .agg #[.int .i64 a, .int .i64 b, .int .i64 c, .int .i64 d]) (by simp [results, Try.results32, go_sem]) rfl ⟨rfl, (((Below.refl _ _).alloc (Nat.le_refl _) _).alloc (by simp) _).alloc (by simp; omega) _⟩
set_option maxRecDepth 100000 in
set_option maxHeartbeats 1000000 in
theorem toSigns_any (w : World) (sw hk sc ey : Bool) : Calls Try.prog 39 #[.agg #[.bool sw, .bool hk, .bool sc, .bool ey]] w fun e w' => e = .returned (.agg #[.bool sw, .bool hk, .bool sc, .bool ey]) ∧ Below w.heap.size w w' := by
  go_enter Try.func39, Try.ntmps39
  go_wp2
  exact bodyPost_ret (v := .agg #[.bool sw, .bool hk, .bool sc, .bool ey]) (by simp [results, Try.results39, go_sem]) rfl ⟨rfl, (((Below.refl _ _).alloc (Nat.le_refl _) _).alloc (by simp) _).alloc (by simp; omega) _⟩
set_option maxRecDepth 100000 in
set_option maxHeartbeats 1000000 in
theorem eqDoor_any (w : World) (k s : Int) (l o f : Bool) : Calls Try.prog 22 #[.agg #[.int .i64 k, .int .i64 s, .bool l, .bool o, .bool f], .agg #[.int .i64 k, .int .i64 s, .bool l, .bool o, .bool f]] w fun e w' => e = .returned (.bool true) ∧ Below w.heap.size w w' := by
  have HB := Lib.hid (show Below w.heap.size w ((w.alloc (.cells #[.int .i64 k, .int .i64 s, .bool l, .bool o, .bool f] 25)).alloc (.cells #[.int .i64 k, .int .i64 s, .bool l, .bool o, .bool f] 25)) from ((Below.refl _ _).alloc (Nat.le_refl _) _).alloc (by simp) _)
  have e0 : (k != k) = false := by simp
  have e1 : (s != s) = false := by simp
  have e2 : (l != l) = false := by simp
  have e3 : (o != o) = false := by simp
  have e4 : (f != f) = false := by simp
  go_enter Try.func22, Try.ntmps22
  go_wp2
  go_ret
  exact ⟨rfl, HB.out⟩
end Go.Proofs.Ytbcbjijnlekcmaa
