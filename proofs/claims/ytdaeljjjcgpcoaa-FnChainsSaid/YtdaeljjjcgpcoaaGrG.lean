/- Chapter 5: the drawing of grants. -/
import Derived.Test.YtdaeljjjcgpcoaaGrF
namespace Go.Proofs.Ytdaeljjjcgpcoaa
open Go.RowKit
set_option linter.unusedVariables false
def lenG : Value → Nat
  | .slice _ n _ => n
  | _ => 0
set_option maxRecDepth 100000 in
set_option maxHeartbeats 8000000 in
theorem anyGD_any (w : World) (B g : Nat) (hC : Cur w B g) : Calls Try.prog 29 #[.pointer (some ⟨g, 0, none⟩)] w (DGrs w B g 31 (fun _ => True)) := by
  have hlt := hC.lt; obtain ⟨hB, hg⟩ := hlt
  have HC := Lib.hid hC; clear hC
  obtain ⟨i0, hi0, hz0, hz1, hz2⟩ := info_parts grInfo
  have I0 := Lib.hid hi0; have Z0 := Lib.hid hz0; have Z1 := Lib.hid hz1; have Z2 := Lib.hid hz2; clear hi0 hz0 hz1 hz2
  go_enter Try.func29, Try.ntmps29
  go_wp2_with fail
  refine (grantsD_any w B g HC.out).mono ?_
  rintro e w1 ⟨v0, l, rfl, hl, _, hown, hC1, hO1⟩
  have hs1 := hO1.size
  obtain ⟨A0, c0, rfl, _⟩ := or_own hown
  have OW1 := Lib.hid hown; have C1 := Lib.hid hC1; have O1 := Lib.hid hO1; clear hown hC1 hO1 HC
  go_wp2_with fail
  refine (below_any w1 B g 14 (by omega) (by omega) C1.out).mono ?_
  rintro e w2 ⟨x0, hx00, hx01, rfl, hC2, ho2⟩
  have OW2 := Lib.hid (own_o OW1.out ho2 hg); have C2 := Lib.hid hC2; have O2 := Lib.hid (only_trans O1.out ho2); clear hC2 ho2 OW1 C1 O1
  have hs2 := O2.out.size
  have hcs : x0 = 0 ∨ x0 = 1 ∨ 2 ≤ x0 := by omega
  rcases hcs with rfl | rfl | h2
  · go_wp2_with fail
    refine (grantD_any w2 B g C2.out).mono ?_
    rintro e w3 ⟨f0, t0, p0, d0, s0, u0, o0, rfl, _, _, _, _, hC3, ho3⟩
    have OW3 := Lib.hid (own_o OW2.out ho3 hg); have C3 := Lib.hid hC3; have O3 := Lib.hid (only_trans O2.out ho3); clear hC3 ho3 OW2 C2 O2
    have hs3 := O3.out.size
    go_wp2_with fail
    refine (bendD_any w3 B g f0 t0 p0 d0 s0 u0 o0 C3.out).mono ?_
    rintro e w4 ⟨f, t, p, d, s, u, o, rfl, hC4, ho4⟩
    have OWX := Lib.hid (own_o OW3.out ho4 hg); have CX := Lib.hid hC4; have OX := Lib.hid (only_trans O3.out ho4); clear hC4 ho4 OW3 C3 O3
    have hs4 := OX.out.size
    go_wp2_with (at_builtin; go_must (refine list_app rfl _ _ 24 rfl w.heap.size 35 i0 (.agg #[.int .i64 0, .int .i64 0, .int .i64 0, .int .i64 0, .int .i64 0, .int .i64 0, .bool false]) 7 56 Try.underlying24 I0.out Z0.out Z1.out Z2.out rfl (by decide) _ _ _ rfl (OWX.out.alloc _) _ 1 1 (#[.int .i64 f, .int .i64 t, .int .i64 p, .int .i64 d, .int .i64 s, .int .i64 u, .bool o] : Array Value).toList rfl (src_at _ _ (w4.heap.size) (by simp) #[.int .i64 f, .int .i64 t, .int .i64 p, .int .i64 d, .int .i64 s, .int .i64 u, .bool o] 7 rfl (by simp [Value.oneCell'])) (by unfold maxLen; omega) (by omega) (by simp; omega) ?_))
    intro A2 c2 w9 hown1 hgrow _
    have hne1 : ∀ q, (Value.slice A0 l.length c0).ownBlock = some q → w.heap.size ≤ q := fun q e => (OWX.out.lt _ e).1
    have HA := Lib.hid (only_trans OX.out (only_alloc g (w := w4) (.cells #[.int .i64 f, .int .i64 t, .int .i64 p, .int .i64 d, .int .i64 s, .int .i64 u, .bool o] 35)))
    have CA := Lib.hid (CX.out.alloc (by omega) (.cells #[.int .i64 f, .int .i64 t, .int .i64 p, .int .i64 d, .int .i64 s, .int .i64 u, .bool o] 35))
    have C9 := Lib.hid (show Cur w9 B g from CA.out.only fun q hq hq' => hgrow.block q hq (fun e => by have := hne1 q e.symm; omega))
    have O9 := Lib.hid (show Only w g w9 from ⟨hgrow.os.trans HA.out.os, hgrow.tape.trans HA.out.tape, hgrow.output.trans HA.out.output, Nat.le_trans HA.out.size hgrow.size, fun j hj hne => (hgrow.block j (Nat.lt_of_lt_of_le hj HA.out.size) (fun e => by have := hne1 j e.symm; omega)).trans (HA.out.block j hj hne)⟩)
    have OW9 := Lib.hid (gr_more (x := ⟨f, t, p, d, s, u, o⟩) hown1); clear hown1 hgrow CA HA
    go_wp2_with fail
    go_ret
    exact ⟨_, l ++ [⟨f, t, p, d, s, u, o⟩], by simp, by simp; omega, fun _ _ => trivial, OW9.out, C9.out, O9.out⟩
  · go_wp2_with fail
    go_loopw [3] (fun v wr => ∃ (l : List Gr), l.length ≤ 31 ∧ wr.ownsRow w.heap.size 35 7 v l.length (grV l) ∧ Cur wr B g ∧ Only w g wr) (fun v _ => 31 - lenG v)
    case atStart => exact ⟨l, by omega, OW2.out, C2.out, O2.out⟩
    case round =>
      clear OW2 C2 O2 hs2 hs1 hl
      obtain ⟨l, hl, hown, hC, hO⟩ := hrel
      have hs := hO.size
      have HC := Lib.hid hC; have HOWN := Lib.hid hown; have HO := Lib.hid hO; clear hC hown hO
      obtain ⟨A9, c9, rfl, _⟩ := or_own HOWN.out
      go_wp2_with fail
      refine (below_any wr B g 2 (by omega) (by omega) HC.out).mono ?_
      rintro e w3 ⟨x1, hx10, hx11, rfl, hC3, ho3⟩
      have OW3 := Lib.hid (own_o HOWN.out ho3 hg); have C3 := Lib.hid hC3; have O3 := Lib.hid (only_trans HO.out ho3); clear hC3 ho3 HOWN HC HO
      have hs3 := O3.out.size
      by_cases hlt : (l.length : Int) < 30 + x1
      · go_wp2_with fail
        refine (grantD_any w3 B g C3.out).mono ?_
        rintro e w4 ⟨f, t, p, d, s, u, o, rfl, _, _, _, _, hC4, ho4⟩
        have OWX := Lib.hid (own_o OW3.out ho4 hg); have CX := Lib.hid hC4; have OX := Lib.hid (only_trans O3.out ho4); clear hC4 ho4 OW3 C3 O3
        have hs4 := OX.out.size
        go_wp2_with (at_builtin; go_must (refine list_app rfl _ _ 24 rfl w.heap.size 35 i0 (.agg #[.int .i64 0, .int .i64 0, .int .i64 0, .int .i64 0, .int .i64 0, .int .i64 0, .bool false]) 7 56 Try.underlying24 I0.out Z0.out Z1.out Z2.out rfl (by decide) _ _ _ rfl (OWX.out.alloc _) _ 1 1 (#[.int .i64 f, .int .i64 t, .int .i64 p, .int .i64 d, .int .i64 s, .int .i64 u, .bool o] : Array Value).toList rfl (src_at _ _ (w4.heap.size) (by simp) #[.int .i64 f, .int .i64 t, .int .i64 p, .int .i64 d, .int .i64 s, .int .i64 u, .bool o] 7 rfl (by simp [Value.oneCell'])) (by unfold maxLen; omega) (by omega) (by simp; omega) ?_))
        intro A2 c2 w9 hown1 hgrow _
        have hne1 : ∀ q, (Value.slice A9 l.length c9).ownBlock = some q → w.heap.size ≤ q := fun q e => (OWX.out.lt _ e).1
        have HA := Lib.hid (only_trans OX.out (only_alloc g (w := w4) (.cells #[.int .i64 f, .int .i64 t, .int .i64 p, .int .i64 d, .int .i64 s, .int .i64 u, .bool o] 35)))
        have CA := Lib.hid (CX.out.alloc (by omega) (.cells #[.int .i64 f, .int .i64 t, .int .i64 p, .int .i64 d, .int .i64 s, .int .i64 u, .bool o] 35))
        have C9 := Lib.hid (show Cur w9 B g from CA.out.only fun q hq hq' => hgrow.block q hq (fun e => by have := hne1 q e.symm; omega))
        have O9 := Lib.hid (show Only w g w9 from ⟨hgrow.os.trans HA.out.os, hgrow.tape.trans HA.out.tape, hgrow.output.trans HA.out.output, Nat.le_trans HA.out.size hgrow.size, fun j hj hne => (hgrow.block j (Nat.lt_of_lt_of_le hj HA.out.size) (fun e => by have := hne1 j e.symm; omega)).trans (HA.out.block j hj hne)⟩)
        have OW9 := Lib.hid (gr_more (x := ⟨f, t, p, d, s, u, o⟩) hown1); clear hown1 hgrow CA HA
        go_wp2_with fail
        go_roundw
        case rel => exact ⟨l ++ [⟨f, t, p, d, s, u, o⟩], by simp; omega, by simpa using OW9.out, C9.out, O9.out⟩
        case measure => simp [lenG]; omega
      · go_wp2_with fail
        go_ret
        exact ⟨_, l, rfl, hl, fun _ _ => trivial, OW3.out, C3.out, O3.out⟩
  · have e0 : (x0 == 0) = false := by rw [beq_eq_false_iff_ne]; omega
    have e1 : (x0 == 1) = false := by rw [beq_eq_false_iff_ne]; omega
    go_wp2_with fail
    go_ret
    exact ⟨_, l, rfl, by omega, fun _ _ => trivial, OW2.out, C2.out, O2.out⟩
end Go.Proofs.Ytdaeljjjcgpcoaa
