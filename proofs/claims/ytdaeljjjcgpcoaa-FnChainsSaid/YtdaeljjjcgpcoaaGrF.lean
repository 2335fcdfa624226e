/- Chapter 5: the drawing of grants. -/
import Derived.Test.YtdaeljjjcgpcoaaGrE
import Derived.Test.YtdaeljjjcgpcoaaGraE
import Derived.Deep.DeepMust
namespace Go.Proofs.Ytdaeljjjcgpcoaa
open Go.RowKit
set_option linter.unusedVariables false
/-- a valid grant of persons up to six -/
def sixB (x : Gr) : Prop := grantB x = true ∧ x.frm ≤ 6 ∧ x.to ≤ 6 ∧ x.fin ≤ 42
/-- a row of grants of the call's own -/
def DGrs (w : World) (B g most : Nat) (P : Gr → Prop) (e : Ending) (w' : World) : Prop :=
  ∃ (v : Value) (l : List Gr), e = .returned v ∧ l.length ≤ most ∧ (∀ x ∈ l, P x) ∧ w'.ownsRow w.heap.size 35 7 v l.length (grV l) ∧ Cur w' B g ∧ Only w g w'
theorem gr_more {w : World} {base : Nat} {v : Value} {l : List Gr} {x : Gr} (h : w.ownsRow base 35 7 v (l.length + 1) (grV l ++ grC x)) : w.ownsRow base 35 7 v (l ++ [x]).length (grV (l ++ [x])) := by
  rw [grV_app, List.length_append]; exact h
set_option maxRecDepth 100000 in
set_option maxHeartbeats 4000000 in
theorem grantsD_any (w : World) (B g : Nat) (hC : Cur w B g) : Calls Try.prog 39 #[.pointer (some ⟨g, 0, none⟩)] w (DGrs w B g 8 sixB) := by
  have hlt := hC.lt; obtain ⟨hB, hg⟩ := hlt
  have HC := Lib.hid hC; clear hC
  obtain ⟨i0, hi0, hz0, hz1, hz2⟩ := info_parts grInfo
  have I0 := Lib.hid hi0; have Z0 := Lib.hid hz0; have Z1 := Lib.hid hz1; have Z2 := Lib.hid hz2; clear hi0 hz0 hz1 hz2
  go_enter Try.func39, Try.ntmps39
  go_wp2_with fail
  generalize hW0 : (w.alloc _) = w0
  have C0 := Lib.hid (show Cur w0 B g by rw [← hW0]; exact HC.out.alloc hB _)
  have O0 := Lib.hid (show Only w g w0 by rw [← hW0]; exact only_alloc g _)
  have R0 := Lib.hid (show w0.ownsRow w.heap.size 35 7 (.slice (some ⟨w.heap.size, 0, none⟩) 0 0) ([] : List Gr).length (grV []) by rw [← hW0]; exact owns_at w w.heap.size 35 7 w.heap.size rfl (Nat.le_refl _))
  clear hW0
  refine (below_any w0 B g 9 (by omega) (by omega) C0.out).mono ?_
  rintro e w1 ⟨x, hx0, hx1, rfl, hC1, ho1⟩
  have R1 := Lib.hid (own_o R0.out ho1 hg)
  have C1 := Lib.hid hC1; have O1 := Lib.hid (only_trans O0.out ho1)
  clear hC1 ho1 C0 O0 R0
  obtain ⟨n, rfl⟩ := Int.eq_ofNat_of_zero_le hx0
  go_wp2_with fail
  go_loopw [3, 4] (fun v nv wr => ∃ (k : Nat) (l : List Gr), nv = .int .i64 k ∧ l.length + k ≤ 8 ∧ (∀ x ∈ l, sixB x) ∧ wr.ownsRow w.heap.size 35 7 v l.length (grV l) ∧ Cur wr B g ∧ Only w g wr) (fun _ nv _ => (intOf nv).toNat)
  case atStart => exact ⟨n, [], rfl, by simp; omega, by simp, R1.out, C1.out, O1.out⟩
  case round =>
    obtain ⟨k, l, rfl, hl, hall, hown, hC, hO⟩ := hrel
    have hs := hO.size
    have HC := Lib.hid hC; have HOWN := Lib.hid hown; have HO := Lib.hid hO; have HALL := Lib.hid hall; clear hC hown hO hall
    rcases k with _ | k
    · go_wp2_with fail
      go_ret
      exact ⟨_, l, rfl, by omega, HALL.out, HOWN.out, HC.out, HO.out⟩
    · have hlt : (0 : Int) < ((k + 1 : Nat) : Int) := by omega
      go_wp2_with fail
      refine (grantD_any wr B g HC.out).mono ?_
      rintro e w3 ⟨f, t, p, d, s, u, o, rfl, hok, hf6, ht6, hu42, hC3, ho3⟩
      have OW3 := Lib.hid (own_o HOWN.out ho3 hg); have C3 := Lib.hid hC3; have O3 := Lib.hid (only_trans HO.out ho3)
      have hs3 := O3.out.size
      have HP := Lib.hid (show sixB ⟨f, t, p, d, s, u, o⟩ from ⟨hok, hf6, ht6, hu42⟩)
      clear hC3 ho3 hok hf6 ht6 hu42
      go_wp2_with (at_builtin; go_must (refine list_app rfl _ _ 24 rfl w.heap.size 35 i0 (.agg #[.int .i64 0, .int .i64 0, .int .i64 0, .int .i64 0, .int .i64 0, .int .i64 0, .bool false]) 7 56 Try.underlying24 I0.out Z0.out Z1.out Z2.out rfl (by decide) _ _ _ rfl ((OW3.out.alloc _).alloc _) _ 1 1 (#[.int .i64 f, .int .i64 t, .int .i64 p, .int .i64 d, .int .i64 s, .int .i64 u, .bool o] : Array Value).toList rfl (src_at _ _ (w3.heap.size + 1) (by simp) #[.int .i64 f, .int .i64 t, .int .i64 p, .int .i64 d, .int .i64 s, .int .i64 u, .bool o] 7 rfl (by simp [Value.oneCell'])) (by unfold maxLen; omega) (by omega) (by simp; omega) ?_))
      intro A2 c2 w4 hown1 hgrow _
      have hne1 : ∀ q, u3.ownBlock = some q → w.heap.size ≤ q := fun q e => (HOWN.out.lt _ e).1
      have HA := Lib.hid (only_trans (only_trans O3.out (only_alloc g (w := w3) (.cells #[.int .i64 f, .int .i64 t, .int .i64 p, .int .i64 d, .int .i64 s, .int .i64 u, .bool o] 35))) (only_alloc g (.cells #[.int .i64 f, .int .i64 t, .int .i64 p, .int .i64 d, .int .i64 s, .int .i64 u, .bool o] 35)))
      have CA := Lib.hid ((C3.out.alloc (by omega) (.cells #[.int .i64 f, .int .i64 t, .int .i64 p, .int .i64 d, .int .i64 s, .int .i64 u, .bool o] 35)).alloc (by simp; omega) (.cells #[.int .i64 f, .int .i64 t, .int .i64 p, .int .i64 d, .int .i64 s, .int .i64 u, .bool o] 35))
      have C4 := Lib.hid (show Cur w4 B g from CA.out.only fun q hq hq' => hgrow.block q hq (fun e => by have := hne1 q e.symm; omega))
      have O4 := Lib.hid (show Only w g w4 from ⟨hgrow.os.trans HA.out.os, hgrow.tape.trans HA.out.tape, hgrow.output.trans HA.out.output, Nat.le_trans HA.out.size hgrow.size, fun j hj hne => (hgrow.block j (Nat.lt_of_lt_of_le hj HA.out.size) (fun e => by have := hne1 j e.symm; omega)).trans (HA.out.block j hj hne)⟩)
      have OW4 := Lib.hid (gr_more (x := ⟨f, t, p, d, s, u, o⟩) hown1); clear hown1 hgrow CA HA
      go_wp2_with fail
      go_roundw
      case rel =>
        refine ⟨k, l ++ [⟨f, t, p, d, s, u, o⟩], by go_num, by simp; omega, fun y hy => ?_, OW4.out, C4.out, O4.out⟩
        rcases List.mem_append.1 hy with hy | hy
        · exact HALL.out y hy
        · rw [List.mem_singleton] at hy; subst hy; exact HP.out
      case measure => simp [intOf]
end Go.Proofs.Ytdaeljjjcgpcoaa
