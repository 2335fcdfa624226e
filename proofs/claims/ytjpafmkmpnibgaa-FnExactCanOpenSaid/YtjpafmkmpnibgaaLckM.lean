/- Chapter 3: the walk of the law FnExactCanOpen. -/
import Derived.Test.YtjpafmkmpnibgaaLckL
import Derived.Test.YtjpafmkmpnibgaaLckC
import Derived.Deep.RegionHeld3
namespace Go.Proofs.Ytjpafmkmpnibgaa
open Go.RowKit
set_option linter.unusedVariables false
theorem keepS {w0 W W' : World} {g h : Nat} {a b c d e f i : Value}
    (k : (W.cell? ⟨g, 0, none⟩ = some a ∧ W.cell? ⟨g, 1, none⟩ = some b ∧ W.cell? ⟨h, 0, none⟩ = some c ∧ W.cell? ⟨h, 1, none⟩ = some d ∧ W.cell? ⟨h, 2, none⟩ = some e ∧ W.cell? ⟨h, 3, none⟩ = some f ∧ W.cell? ⟨h, 4, none⟩ = some i) ∧ Below w0.heap.size w0 W) (hb : Below W.heap.size W W') :
    (W'.cell? ⟨g, 0, none⟩ = some a ∧ W'.cell? ⟨g, 1, none⟩ = some b ∧ W'.cell? ⟨h, 0, none⟩ = some c ∧ W'.cell? ⟨h, 1, none⟩ = some d ∧ W'.cell? ⟨h, 2, none⟩ = some e ∧ W'.cell? ⟨h, 3, none⟩ = some f ∧ W'.cell? ⟨h, 4, none⟩ = some i) ∧ Below w0.heap.size w0 W' :=
  ⟨⟨ccall k.1.1 hb, ccall k.1.2.1 hb, ccall k.1.2.2.1 hb, ccall k.1.2.2.2.1 hb, ccall k.1.2.2.2.2.1 hb, ccall k.1.2.2.2.2.2.1 hb, ccall k.1.2.2.2.2.2.2 hb⟩, bthen k.2 hb⟩
theorem keepD {w0 W : World} {g h : Nat} {a b c d e f i : Value}
    (k : (W.cell? ⟨g, 0, none⟩ = some a ∧ W.cell? ⟨g, 1, none⟩ = some b ∧ W.cell? ⟨h, 0, none⟩ = some c ∧ W.cell? ⟨h, 1, none⟩ = some d ∧ W.cell? ⟨h, 2, none⟩ = some e ∧ W.cell? ⟨h, 3, none⟩ = some f ∧ W.cell? ⟨h, 4, none⟩ = some i) ∧ Below w0.heap.size w0 W) :
    (W.drew.cell? ⟨g, 0, none⟩ = some a ∧ W.drew.cell? ⟨g, 1, none⟩ = some b ∧ W.drew.cell? ⟨h, 0, none⟩ = some c ∧ W.drew.cell? ⟨h, 1, none⟩ = some d ∧ W.drew.cell? ⟨h, 2, none⟩ = some e ∧ W.drew.cell? ⟨h, 3, none⟩ = some f ∧ W.drew.cell? ⟨h, 4, none⟩ = some i) ∧ Below w0.heap.size w0 W.drew :=
  ⟨k.1, k.2.drew⟩

set_option maxRecDepth 100000 in
set_option maxHeartbeats 2000000 in
theorem canLaw_walk (w : World) (ps pc s n t p u : Int) : Calls Try.prog 7 #[.agg #[.int .i64 ps, .int .i64 pc], .agg #[.int .i64 s, .int .i64 n, .int .i64 t, .int .i64 p, .int .i64 u]] w fun e w' => e = .returned (.bool true) ∧ Below w.heap.size w w' := by
  generalize hq : canB ps pc s n t p u = q
  have eq : (q != q) = false := by simp
  go_enter Try.func7, Try.ntmps7
  go_wp2_with fail
  generalize hW0 : ((w.alloc (.cells #[.int .i64 ps, .int .i64 pc] 34)).alloc (.cells #[.int .i64 s, .int .i64 n, .int .i64 t, .int .i64 p, .int .i64 u] 23)) = w0
  have b0 : Below w.heap.size w w0 := by rw [← hW0]; exact bthen (balloc _ _) (balloc _ _)
  have k2 : Has w0 w.heap.size 34 #[.int .i64 ps, .int .i64 pc] := by rw [← hW0]; exact has_alloc (has_new _ _ _) _
  have k3 : Has w0 (w.heap.size + 1) 23 #[.int .i64 s, .int .i64 n, .int .i64 t, .int .i64 p, .int .i64 u] := by rw [← hW0]; have := has_new (w.alloc (.cells #[.int .i64 ps, .int .i64 pc] 34)) 23 #[.int .i64 s, .int .i64 n, .int .i64 t, .int .i64 p, .int .i64 u]; simpa using this
  clear hW0
  have S0 := keepD (w0 := w0) ⟨⟨has_cell k2 0 rfl, has_cell k2 1 rfl, has_cell k3 0 rfl, has_cell k3 1 rfl, has_cell k3 2 rfl, has_cell k3 3 rfl, has_cell k3 4 rfl⟩, Below.refl _ _⟩
  have B0 := Lib.hid b0; have hz0 := has_lt k3; clear b0 k2 k3
  go_region_held3 (fun W : World => (W.cell? ⟨w.heap.size, 0, none⟩ = some (.int .i64 ps) ∧ W.cell? ⟨w.heap.size, 1, none⟩ = some (.int .i64 pc) ∧ W.cell? ⟨w.heap.size + 1, 0, none⟩ = some (.int .i64 s) ∧ W.cell? ⟨w.heap.size + 1, 1, none⟩ = some (.int .i64 n) ∧ W.cell? ⟨w.heap.size + 1, 2, none⟩ = some (.int .i64 t) ∧ W.cell? ⟨w.heap.size + 1, 3, none⟩ = some (.int .i64 p) ∧ W.cell? ⟨w.heap.size + 1, 4, none⟩ = some (.int .i64 u)) ∧ Below w0.heap.size w0 W) (assumption) (first
    | (go_at_call 18; refine (toPad_any _ ps pc).mono ?_; rintro e w6 ⟨rfl, hb6⟩; have S6 := keepS (by assumption) hb6; clear hb6)
    | (go_at_call 10; refine (toLock_any _ s n t p u).mono ?_; rintro e w7 ⟨rfl, hb7⟩; have S7 := keepS (by assumption) hb7; clear hb7)
    | (go_at_call 20; refine (canS_any _ ps pc s n t p u).mono ?_; rintro e w9 ⟨rfl, hb9⟩; rw [hq]; have S9 := keepS (by assumption) hb9; clear hb9))
  all_goals
    go_wp2_with fail
    have T0 := keepD S9
    clear S0 S9
    go_region_held3 (fun W : World => (W.cell? ⟨w.heap.size, 0, none⟩ = some (.int .i64 ps) ∧ W.cell? ⟨w.heap.size, 1, none⟩ = some (.int .i64 pc) ∧ W.cell? ⟨w.heap.size + 1, 0, none⟩ = some (.int .i64 s) ∧ W.cell? ⟨w.heap.size + 1, 1, none⟩ = some (.int .i64 n) ∧ W.cell? ⟨w.heap.size + 1, 2, none⟩ = some (.int .i64 t) ∧ W.cell? ⟨w.heap.size + 1, 3, none⟩ = some (.int .i64 p) ∧ W.cell? ⟨w.heap.size + 1, 4, none⟩ = some (.int .i64 u)) ∧ Below w0.heap.size w0 W) (assumption) (first
      | (go_at_call 18; refine (toPad_any _ ps pc).mono ?_; rintro e x6 ⟨rfl, hb6⟩; have T6 := keepS (by assumption) hb6; clear hb6)
      | (go_at_call 10; refine (toLock_any _ s n t p u).mono ?_; rintro e x7 ⟨rfl, hb7⟩; have T7 := keepS (by assumption) hb7; clear hb7)
      | (go_at_call 21; refine (canI_any _ ps pc s n t p u).mono ?_; rintro e x9 ⟨rfl, hb9⟩; rw [hq]; have T9 := keepS (by assumption) hb9; clear hb9))
    all_goals
      go_wp2_with fail
      go_ret
      exact ⟨rfl, B0.out.trans (T9.2.mono (by have := B0.out.size; omega))⟩
end Go.Proofs.Ytjpafmkmpnibgaa
