/- Chapter 2: contracts of the laws' helpers over columns: the copy and the comparison. -/
import Derived.Test.YtpoiebebnpelhaaBoxM
namespace Go.Proofs.Ytpoiebebnpelhaa
open Go.RowKit
set_option linter.unusedVariables false

theorem OR.setlow {w : World} {base : Nat} {e : TypeId} {A : Option Addr} {xs : List Value} (h : OR w base e A xs) {p : Addr} (hp : p.block < base) (v : Value) : OR (w.setCell p v) base e A xs :=
  h.kept fun g hg _ => Below.heap_setCell w p v g (by omega)

set_option maxHeartbeats 1000000 in
theorem toColumn_any (w : World) (B : Nat) (A A' : Option Addr) (n n' : Nat) (z : Int) (F : List Int) (L : List Bx) (lf : F.length ≤ 1048576) (ll : L.length ≤ 1048576) (hB : B ≤ w.heap.size) (hS : IL w B A F) (hS' : XL w B A' L) :
    Calls Try.prog 30 #[.agg #[.int .i64 z, .slice A F.length n, .slice A' L.length n']] w fun e w' => ∃ A2 A3 n2 n3, e = .returned (.agg #[.int .i64 z, .slice A2 F.length n2, .slice A3 L.length n3]) ∧ OR w' w.heap.size 3 A2 (intV F) ∧ OR w' w.heap.size 72 A3 (boxV L) ∧ Below w.heap.size w w' := by
  have HS := Lib.hid hS; clear hS
  have HS' := Lib.hid hS'; clear hS'
  have hb3 : ∀ o1 o2 o3, Below w.heap.size w (((w.alloc o1).alloc o2).alloc o3) := fun o1 o2 o3 => bthen (bthen (balloc w o1) (balloc _ o2)) (balloc _ o3)
  have H3 := Lib.hid hb3; clear hb3
  go_enter Try.func30, Try.ntmps30
  go_wp2_with fail
  generalize hW0 : (((w.alloc (.cells #[.int .i64 z, .slice A F.length n, .slice A' L.length n'] 48)).alloc (.cells #[.int .i64 0, .slice none 0 0, .slice none 0 0] 53)).alloc (.cells #[.int .i64 z, .slice none 0 0, .slice none 0 0] 53)) = w0
  have b0 : Below w.heap.size w w0 := by rw [← hW0]; exact H3.out _ _ _
  have k0 : Has w0 w.heap.size 48 #[.int .i64 z, .slice A F.length n, .slice A' L.length n'] := by rw [← hW0]; exact has_alloc (has_alloc (has_new _ _ _) _) _
  have k1 : Has w0 (w.heap.size + 1) 53 #[.int .i64 0, .slice none 0 0, .slice none 0 0] := by rw [← hW0]; have := has_alloc (has_new (w.alloc (.cells #[.int .i64 z, .slice A F.length n, .slice A' L.length n'] 48)) 53 #[.int .i64 0, .slice none 0 0, .slice none 0 0]) (.cells #[.int .i64 z, .slice none 0 0, .slice none 0 0] 53); simpa using this
  have k2 : Has w0 (w.heap.size + 1 + 1) 53 #[.int .i64 z, .slice none 0 0, .slice none 0 0] := by rw [← hW0]; have := has_new ((w.alloc (.cells #[.int .i64 z, .slice A F.length n, .slice A' L.length n'] 48)).alloc (.cells #[.int .i64 0, .slice none 0 0, .slice none 0 0] 53)) 53 #[.int .i64 z, .slice none 0 0, .slice none 0 0]; simpa using this
  clear hW0
  have hz0 := has_lt k2
  refine (toIntS_any w0 B A n F lf (by have := b0.size; omega) (HS.out.later hB b0)).mono ?_
  rintro e w1 ⟨A2, n2, rfl, hS1, hb1⟩
  have HS1 := Lib.hid hS1; clear hS1
  have m0 := has_call k0 hb1
  have m1 := has_call k1 hb1
  have m2 := has_call k2 hb1
  have hbx := bthen b0 hb1
  have hsz1 := hb1.size
  have e1 := has_cell m0 2 rfl
  have e2 := has_cell m2 1 rfl
  have f2 := has_free m2 1
  have M0 := Lib.hid m0; have M1 := Lib.hid m1; have M2 := Lib.hid m2; clear m0 m1 m2
  go_wp2_with fail
  clear e1 e2 f2
  generalize hW1 : (w1.setCell ⟨w.heap.size + 1 + 1, 1, none⟩ (.slice A2 F.length n2)) = w1'
  have bw : Below w.heap.size w w1' := by rw [← hW1]; exact hbx.setCell (by simp; omega) _
  have n1 : Has w1' (w.heap.size + 1) 53 #[.int .i64 0, .slice none 0 0, .slice none 0 0] := by rw [← hW1]; exact has_far M1.out (by simp) _
  have n2' : Has w1' (w.heap.size + 1 + 1) 53 #[.int .i64 z, .slice A2 F.length n2, .slice none 0 0] := by rw [← hW1]; have := has_set M2.out 1 (.slice A2 F.length n2); simpa using this
  have s1 : OR w1' w0.heap.size 3 A2 (intV F) := by
    rw [← hW1]
    exact HS1.out.setlow (by show w.heap.size + 1 + 1 < _; omega) _
  have S1 := Lib.hid s1; clear s1
  have hsz1' : w1'.heap.size = w1.heap.size := by rw [← hW1, size_set]
  clear hW1
  refine (toBoxS_any w1' B A' n' L ll (by omega) (HS'.out.later hB bw)).mono ?_
  rintro e w2 ⟨A3, n3, rfl, hS3, hb2⟩
  have HS3 := Lib.hid hS3; clear hS3
  have p1 := has_call n1 hb2
  have p2 := has_call n2' hb2
  have hsz2 := hb2.size
  have e1 := has_cell p2 0 rfl
  have e2 := has_cell p2 1 rfl
  have e5 := has_cell p2 2 rfl
  have e3 := has_cell p1 0 rfl
  have e4 := has_cell p1 1 rfl
  have e6 := has_cell p1 2 rfl
  have f1 := has_free p2 2
  have f3 := has_free p1 0
  have f4 := has_free p1 1
  have f5 := has_free p1 2
  have P1 := Lib.hid p1; have P2 := Lib.hid p2; clear p1 p2
  have HN1 := Lib.hid n1; have HN2 := Lib.hid n2'; clear n1 n2'
  have HB2 := Lib.hid hb2; clear hb2
  have HB1 := Lib.hid hb1; clear hb1
  have K0 := Lib.hid k0; have K1 := Lib.hid k1; have K2 := Lib.hid k2; clear k0 k1 k2
  have SZ := Lib.hid hsz1'; clear hsz1'
  go_wp2_with fail
  clear e1 e2 e3 e4 e5 e6 f1 f3 f4 f5
  have q1 : Has ((((w2.setCell ⟨w.heap.size + 1 + 1, 2, none⟩ (.slice A3 L.length n3)).setCell ⟨w.heap.size + 1, 0, none⟩ (.int .i64 z)).setCell ⟨w.heap.size + 1, 1, none⟩ (.slice A2 F.length n2)).setCell ⟨w.heap.size + 1, 2, none⟩ (.slice A3 L.length n3)) (w.heap.size + 1) 53 #[.int .i64 z, .slice A2 F.length n2, .slice A3 L.length n3] := by
    have := has_set (has_set (has_set (has_far P1.out (p := ⟨w.heap.size + 1 + 1, 2, none⟩) (by simp) (.slice A3 L.length n3)) 0 (.int .i64 z)) 1 (.slice A2 F.length n2)) 2 (.slice A3 L.length n3)
    simpa using this
  have g0 := has_cell q1 0 rfl
  have g1 := has_cell q1 1 rfl
  have g2 := has_cell q1 2 rfl
  refine bodyPost_ret (v := .agg #[.int .i64 z, .slice A2 F.length n2, .slice A3 L.length n3]) (by simp [results, Try.results30, go_sem, g0, g1, g2]) rfl ⟨A2, A3, n2, n3, rfl, ?_, ?_, ?_⟩
  · have sA : OR w2 w0.heap.size 3 A2 (intV F) := S1.out.below HB2.out
    exact ((((sA.setlow (by show w.heap.size + 1 + 1 < _; omega) _).setlow (by show w.heap.size + 1 < _; omega) _).setlow (by show w.heap.size + 1 < _; omega) _).setlow (by show w.heap.size + 1 < _; omega) _).more b0.size
  · have hs := SZ.out
    exact ((((HS3.out.setlow (by show w.heap.size + 1 + 1 < _; omega) _).setlow (by show w.heap.size + 1 < _; omega) _).setlow (by show w.heap.size + 1 < _; omega) _).setlow (by show w.heap.size + 1 < _; omega) _).more (by omega)
  · exact ((((bw.trans (HB2.out.mono bw.size)).setCell (by simp; omega) _).setCell (by simp) _).setCell (by simp) _).setCell (by simp) _

set_option maxHeartbeats 400000 in
theorem eqColumn_any (w : World) (B B' : Nat) (A A' A2 A2' : Option Addr) (n n' n2 n2' : Nat) (z : Int) (F : List Int) (L : List Bx) (lf : F.length ≤ maxLen) (ll : L.length ≤ maxLen) (hB : B ≤ w.heap.size) (hB' : B' ≤ w.heap.size) (hS : IL w B A F) (hS' : XL w B A' L) (hT : IL w B' A2 F) (hT' : XL w B' A2' L) :
    Calls Try.prog 33 #[.agg #[.int .i64 z, .slice A F.length n, .slice A' L.length n'], .agg #[.int .i64 z, .slice A2 F.length n2, .slice A2' L.length n2']] w fun e w' => e = .returned (.bool true) ∧ Below w.heap.size w w' := by
  have hb0 : ∀ o1 o2, Below w.heap.size w ((w.alloc o1).alloc o2) := fun o1 o2 => bthen (balloc w o1) (balloc _ o2)
  have HS := Lib.hid hS; clear hS
  have HS' := Lib.hid hS'; clear hS'
  have HT := Lib.hid hT; clear hT
  have HT' := Lib.hid hT'; clear hT'
  have H0 := Lib.hid hb0; clear hb0
  have e0 : (z != z) = false := by simp
  go_enter Try.func33, Try.ntmps33
  go_wp2_with fail
  clear e0
  refine (eqIntS_any _ B B' A A2 n n2 F lf (by simp; omega) (by simp; omega) (HS.out.later hB (H0.out _ _)) (HT.out.later hB' (H0.out _ _))).mono ?_
  rintro e w1 ⟨rfl, hb1⟩
  have hbx := bthen (H0.out _ _) hb1
  have hold := bold hb1
  go_wp2_with fail
  clear hold
  refine (eqBoxS_any _ B B' A' A2' n' n2' L ll (by have := hbx.size; omega) (by have := hbx.size; omega) (HS'.out.later hB hbx) (HT'.out.later hB' hbx)).mono ?_
  rintro e w2 ⟨rfl, hb2⟩
  go_wp2_with fail
  go_ret
  exact ⟨rfl, bthen hbx hb2⟩
end Go.Proofs.Ytpoiebebnpelhaa
