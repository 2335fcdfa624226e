/- Chapter 6: the drawing of stays (gen_dfb.py). -/
import Derived.Test.YtfkhhefphbhppaaBilD
import Derived.Deep.DeepMust
namespace Go.Proofs.Ytfkhhefphbhppaa
open Go.RowKit
set_option linter.unusedVariables false
theorem addr6 (b off i : Nat) : (Addr.mk b off none).add i = ⟨b, off + i, none⟩ := by
  simp [Addr.add]
theorem src6 (w : World) (e : TypeId) (H : Nat) (hH : w.heap.size = H) (cs : Array Value) (size : Nat) (hs : cs.size = size) (h1 : ∀ u ∈ cs.toList, u.oneCell' = true) : Src (w.alloc (.cells cs e)) (some ⟨H, 0, none⟩) 1 size cs.toList where
  len := by simp [hs]
  one := h1
  nil := fun e => by cases e
  at_ := fun ad e j u hu => by
    injection e with e; subst e; subst hH
    rw [addr6, Nat.zero_add]
    exact has_cell (has_new w _ _) j (by simpa using hu)
theorem own_o6 {w w' : World} {base g : Nat} {e : TypeId} {size n : Nat} {v : Value} {xs : List Value} (h : w.ownsRow base e size v n xs) (ho : Only w g w') (hg : g < base) : w'.ownsRow base e size v n xs :=
  own_only h ho fun e => by have := (h.lt _ e).1; omega
def len6 : Value → Nat
  | .slice _ n _ => n
  | _ => 0
/-- a row of stays of the call's own -/
def DSts (w : World) (B g : Nat) (e : Ending) (w' : World) : Prop :=
  ∃ (v : Value) (l : List St), e = .returned v ∧ l.length ≤ 21 ∧ w'.ownsRow w.heap.size 38 4 v l.length (stV l) ∧ Cur w' B g ∧ Only w g w'
theorem st_more {w : World} {base : Nat} {v : Value} {l : List St} {x : St} (h : w.ownsRow base 38 4 v (l.length + 1) (stV l ++ stC x)) : w.ownsRow base 38 4 v (l ++ [x]).length (stV (l ++ [x])) := by
  rw [stV_app, List.length_append]; exact h
set_option maxRecDepth 100000 in
set_option maxHeartbeats 8000000 in
theorem staysD_any (w : World) (B g : Nat) (hC : Cur w B g) : Calls Try.prog 15 #[.pointer (some ⟨g, 0, none⟩)] w (DSts w B g) := by
  have hlt := hC.lt; obtain ⟨hB, hg⟩ := hlt
  have HC := Lib.hid hC; clear hC
  obtain ⟨i0, hi0, hz0, hz1, hz2⟩ := info_parts stInfo
  have I0 := Lib.hid hi0; have Z0 := Lib.hid hz0; have Z1 := Lib.hid hz1; have Z2 := Lib.hid hz2; clear hi0 hz0 hz1 hz2
  go_enter Try.func15, Try.ntmps15
  go_wp2_with fail
  generalize hW0 : (w.alloc _) = w0
  have C0 := Lib.hid (show Cur w0 B g by rw [← hW0]; exact HC.out.alloc hB _)
  have O0 := Lib.hid (show Only w g w0 by rw [← hW0]; exact only_alloc g _)
  have R0 := Lib.hid (show w0.ownsRow w.heap.size 38 4 (.slice (some ⟨w.heap.size, 0, none⟩) 0 0) ([] : List St).length (stV []) by rw [← hW0]; exact owns_at w w.heap.size 38 4 w.heap.size rfl (Nat.le_refl _))
  clear hW0
  refine (below_any w0 B g 5 (by omega) (by omega) C0.out).mono ?_
  rintro e w1 ⟨x, hx0, hx1, rfl, hC1, ho1⟩
  have R1 := Lib.hid (own_o6 R0.out ho1 hg)
  have C1 := Lib.hid hC1; have O1 := Lib.hid (only_trans O0.out ho1)
  clear hC1 ho1 C0 O0 R0
  obtain ⟨n, rfl⟩ := Int.eq_ofNat_of_zero_le hx0
  go_wp2_with fail
  go_loopw [3, 4] (fun v nv wr => ∃ (k : Nat) (l : List St), nv = .int .i64 k ∧ l.length + k ≤ 4 ∧ wr.ownsRow w.heap.size 38 4 v l.length (stV l) ∧ Cur wr B g ∧ Only w g wr) (fun _ nv _ => (intOf nv).toNat)
  case atStart => exact ⟨n, [], rfl, by simp; omega, R1.out, C1.out, O1.out⟩
  case round =>
    clear R1 C1 O1 hx0 hx1
    obtain ⟨k, l, rfl, hl, hown, hC, hO⟩ := hrel
    have hs := hO.size
    have HC := Lib.hid hC; have HOWN := Lib.hid hown; have HO := Lib.hid hO; clear hC hown hO
    obtain ⟨A9, c9, rfl, _⟩ := or_own HOWN.out
    rcases k with _ | k
    · go_wp2_with fail
      refine (once_any wr B g 14 (by omega) (by omega) HC.out).mono ?_
      rintro e w3 ⟨y0, rfl, hC3, ho3⟩
      have OW3 := Lib.hid (own_o6 HOWN.out ho3 hg); have C3 := Lib.hid hC3; have O3 := Lib.hid (only_trans HO.out ho3); clear hC3 ho3
      have hs3 := O3.out.size
      cases y0
      · go_wp2_with fail
        go_ret
        exact ⟨_, l, rfl, by omega, OW3.out, C3.out, O3.out⟩
      · go_wp2_with fail
        go_loopw [3] (fun v wr => ∃ (l : List St), l.length ≤ 21 ∧ wr.ownsRow w.heap.size 38 4 v l.length (stV l) ∧ Cur wr B g ∧ Only w g wr) (fun v _ => 21 - len6 v)
        case atStart => exact ⟨l, by omega, OW3.out, C3.out, O3.out⟩
        case round =>
          clear OW3 C3 O3 hs3 hl HOWN HC HO
          obtain ⟨l, hl, hown, hC, hO⟩ := hrel
          have hs := hO.size
          have CX := Lib.hid hC; have OWX := Lib.hid hown; have OX := Lib.hid hO; clear hC hown hO
          obtain ⟨A9, c9, rfl, _⟩ := or_own OWX.out
          by_cases hlt : (l.length : Int) < 21
          · go_wp2_with (at_builtin; go_must (refine list_app rfl _ _ 28 rfl w.heap.size 38 i0 (.agg #[.int .i64 0, .int .i64 0, .int .i64 0, .int .i64 0]) 4 32 Try.underlying28 I0.out Z0.out Z1.out Z2.out rfl (by decide) _ _ _ rfl (OWX.out.alloc _) _ 1 1 (#[.int .i64 1, .int .i64 0, .int .i64 0, .int .i64 0] : Array Value).toList rfl (src6 _ _ (wr.heap.size) (by first | rfl | simp) #[.int .i64 1, .int .i64 0, .int .i64 0, .int .i64 0] 4 rfl (by simp [Value.oneCell'])) (by unfold maxLen; omega) (by omega) (by simp; omega) ?_))
            intro A2 c2 w9 hown1 hgrow _
            have hne1 : ∀ q, (Value.slice A9 l.length c9).ownBlock = some q → w.heap.size ≤ q := fun q e => (OWX.out.lt _ e).1
            have HA := Lib.hid (only_trans OX.out (only_alloc g (w := wr) (.cells #[.int .i64 1, .int .i64 0, .int .i64 0, .int .i64 0] 38)))
            have CA := Lib.hid (CX.out.alloc (by omega) (.cells #[.int .i64 1, .int .i64 0, .int .i64 0, .int .i64 0] 38))
            have C9 := Lib.hid (show Cur w9 B g from CA.out.only fun q hq hq' => hgrow.block q hq (fun e => by have := hne1 q e.symm; omega))
            have O9 := Lib.hid (show Only w g w9 from ⟨hgrow.os.trans HA.out.os, hgrow.tape.trans HA.out.tape, hgrow.output.trans HA.out.output, Nat.le_trans HA.out.size hgrow.size, fun j hj hne => (hgrow.block j (Nat.lt_of_lt_of_le hj HA.out.size) (fun e => by have := hne1 j e.symm; omega)).trans (HA.out.block j hj hne)⟩)
            have OW9 := Lib.hid (st_more (x := ⟨1, 0, 0, 0⟩) hown1); clear hown1 hgrow CA HA
            go_wp2_with fail
            go_roundw
            case rel => exact ⟨l ++ [⟨1, 0, 0, 0⟩], by simp; omega, by simpa using OW9.out, C9.out, O9.out⟩
            case measure => simp [len6]; omega
          · go_wp2_with fail
            go_ret
            exact ⟨_, l, rfl, hl, OWX.out, CX.out, OX.out⟩
    · have hlt : (0 : Int) < ((k + 1 : Nat) : Int) := by omega
      go_wp2_with fail
      refine (below_any wr B g 200 (by omega) (by omega) HC.out).mono ?_
      rintro e w3 ⟨x0, h00, h01, rfl, hC3, ho3⟩
      have OW3 := Lib.hid (own_o6 HOWN.out ho3 hg); have C3 := Lib.hid hC3; have O3 := Lib.hid (only_trans HO.out ho3); clear hC3 ho3 HOWN HC HO
      have hs3 := O3.out.size
      go_wp2_with fail
      refine (sizeD_any w3 B g C3.out).mono ?_
      rintro e w4 ⟨x1, h10, h11, rfl, hC4, ho4⟩
      have OW4 := Lib.hid (own_o6 OW3.out ho4 hg); have C4 := Lib.hid hC4; have O4 := Lib.hid (only_trans O3.out ho4); clear hC4 ho4 OW3 C3 O3
      have hs4 := O4.out.size
      go_wp2_with fail
      refine (below_any w4 B g 100 (by omega) (by omega) C4.out).mono ?_
      rintro e w5 ⟨x2, h20, h21, rfl, hC5, ho5⟩
      have OW5 := Lib.hid (own_o6 OW4.out ho5 hg); have C5 := Lib.hid hC5; have O5 := Lib.hid (only_trans O4.out ho5); clear hC5 ho5 OW4 C4 O4
      have hs5 := O5.out.size
      go_wp2_with fail
      generalize hX : (w5.alloc (.cells #[.int .i64 0, .int .i64 0, .int .i64 0, .int .i64 0, .int .i64 1, .int .i64 2] 3)) = w6
      have hb : Below w5.heap.size w5 w6 := by rw [← hX]; exact balloc _ _
      have zl := show Has w6 w5.heap.size 3 #[.int .i64 0, .int .i64 0, .int .i64 0, .int .i64 0, .int .i64 1, .int .i64 2] by rw [← hX]; exact has_new _ _ _
      clear hX
      have C6 := Lib.hid (C5.out.bel hb); have O6 := Lib.hid (only_trans O5.out (only_bel (g := g) hb)); have OW6 := Lib.hid (own_o6 OW5.out (only_bel (g := g) hb) hg); clear hb C5 O5 OW5
      have hs6 := O6.out.size
      refine (pickInt_any w6 B g w5.heap.size 6 _ 0 2 C6.out zl rfl (by omega) (by omega) (by omega) (by intro j hj; rcases j with _ | _ | _ | _ | _ | _ | j; all_goals first | exact ⟨_, by decide, by decide, rfl⟩ | omega)).mono ?_
      rintro e w7 ⟨x3, h30, h31, rfl, hC7, ho7⟩
      clear zl
      have OWX := Lib.hid (own_o6 OW6.out ho7 hg); have CX := Lib.hid hC7; have OX := Lib.hid (only_trans O6.out ho7); clear hC7 ho7 OW6 C6 O6
      have hs7 := OX.out.size
      go_wp2_with (at_builtin; go_must (refine list_app rfl _ _ 28 rfl w.heap.size 38 i0 (.agg #[.int .i64 0, .int .i64 0, .int .i64 0, .int .i64 0]) 4 32 Try.underlying28 I0.out Z0.out Z1.out Z2.out rfl (by decide) _ _ _ rfl ((OWX.out.alloc _).alloc _) _ 1 1 (#[.int .i64 x1, .int .i64 x0, .int .i64 (x0 + x2), .int .i64 x3] : Array Value).toList rfl (src6 _ _ (w7.heap.size + 1) (by first | rfl | simp) #[.int .i64 x1, .int .i64 x0, .int .i64 (x0 + x2), .int .i64 x3] 4 rfl (by simp [Value.oneCell'])) (by unfold maxLen; omega) (by omega) (by simp; omega) ?_))
      intro A2 c2 w9 hown1 hgrow _
      have hne1 : ∀ q, (Value.slice A9 l.length c9).ownBlock = some q → w.heap.size ≤ q := fun q e => (OWX.out.lt _ e).1
      have HA := Lib.hid (only_trans (only_trans OX.out (only_alloc g (w := w7) (.cells #[.int .i64 x1, .int .i64 x0, .int .i64 (x0 + x2), .int .i64 x3] 38))) (only_alloc g (.cells #[.int .i64 x1, .int .i64 x0, .int .i64 (x0 + x2), .int .i64 x3] 38)))
      have CA := Lib.hid ((CX.out.alloc (by omega) (.cells #[.int .i64 x1, .int .i64 x0, .int .i64 (x0 + x2), .int .i64 x3] 38)).alloc (by simp; omega) (.cells #[.int .i64 x1, .int .i64 x0, .int .i64 (x0 + x2), .int .i64 x3] 38))
      have C9 := Lib.hid (show Cur w9 B g from CA.out.only fun q hq hq' => hgrow.block q hq (fun e => by have := hne1 q e.symm; omega))
      have O9 := Lib.hid (show Only w g w9 from ⟨hgrow.os.trans HA.out.os, hgrow.tape.trans HA.out.tape, hgrow.output.trans HA.out.output, Nat.le_trans HA.out.size hgrow.size, fun j hj hne => (hgrow.block j (Nat.lt_of_lt_of_le hj HA.out.size) (fun e => by have := hne1 j e.symm; omega)).trans (HA.out.block j hj hne)⟩)
      have OW9 := Lib.hid (st_more (x := ⟨x1, x0, x0 + x2, x3⟩) hown1); clear hown1 hgrow CA HA
      go_wp2_with fail
      go_roundw
      case rel => exact ⟨k, l ++ [⟨x1, x0, x0 + x2, x3⟩], by go_num, by simp; omega, OW9.out, C9.out, O9.out⟩
      case measure => simp [intOf]
end Go.Proofs.Ytfkhhefphbhppaa
