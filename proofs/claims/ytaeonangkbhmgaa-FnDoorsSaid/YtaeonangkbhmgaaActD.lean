/- Chapter 4: the drawing of acts. -/
import Derived.Test.YtaeonangkbhmgaaPlb
namespace Go.Proofs.Ytaeonangkbhmgaa
open Go.RowKit
set_option linter.unusedVariables false

theorem Cur.bel {w w' : World} {B g : Nat} (h : Cur w B g) (hb : Below w.heap.size w w') : Cur w' B g := h.only fun k hk _ => hb.block k hk
theorem only_bel {w w' : World} {g : Nat} (h : Below w.heap.size w w') : Only w g w' := ⟨h.os, h.tape, h.output, h.size, fun k hk _ => h.block k hk⟩
theorem only_setn {a w : World} {g k : Nat} (h : Only a g w) (hk : a.heap.size ≤ k) (i : Nat) (u : Value) : Only a g (w.setCell ⟨k, i, none⟩ u) :=
  ⟨h.os, h.tape, h.output, by rw [size_set]; exact h.size, fun j hj hne => (Below.heap_setCell w ⟨k, i, none⟩ u j (by show j ≠ k; omega)).trans (h.block j hj hne)⟩
theorem Cur.setn {w : World} {B g k : Nat} (h : Cur w B g) (hk : B ≤ k) (hne : k ≠ g) (i : Nat) (u : Value) : Cur (w.setCell ⟨k, i, none⟩ u) B g := h.only fun j hj hjg => Below.heap_setCell w ⟨k, i, none⟩ u j (by show j ≠ k; omega)
theorem own_o {w w' : World} {base g : Nat} {e : TypeId} {size n : Nat} {v : Value} {xs : List Value} (h : w.ownsRow base e size v n xs) (ho : Only w g w') (hg : g < base) : w'.ownsRow base e size v n xs :=
  own_only h ho fun e => by have := (h.lt _ e).1; omega
/-- a row of acts that are in range -/
def DActs (w : World) (B g : Nat) (most : Int) (e : Ending) (w' : World) : Prop :=
  ∃ (v : Value) (l : List Int), e = .returned v ∧ (l.length : Int) ≤ most - 1 ∧ w'.ownsRow w.heap.size 3 1 v l.length (ints l) ∧ Cur w' B g ∧ Only w g w'
set_option maxRecDepth 100000 in
set_option maxHeartbeats 2000000 in
theorem actsD_any (w : World) (B g : Nat) (most : Int) (hm : 1 ≤ most) (hm2 : most ≤ 200) (hC : Cur w B g) :
    Calls Try.prog 39 #[.pointer (some ⟨g, 0, none⟩), .int .i64 most] w (DActs w B g most) := by
  have hlt := hC.lt
  obtain ⟨hB, hg⟩ := hlt
  have HC := Lib.hid hC; clear hC
  obtain ⟨i0, hi0, hz0, hz1, hz2⟩ := info_parts intInfo
  go_enter Try.func39, Try.ntmps39
  go_wp2_with fail
  generalize hW0 : (w.alloc _) = w0
  have C0 := Lib.hid (show Cur w0 B g by rw [← hW0]; exact HC.out.alloc hB _)
  have O0 := Lib.hid (show Only w g w0 by rw [← hW0]; exact only_alloc g _)
  have R0 := Lib.hid (show w0.ownsRow w.heap.size 3 1 (.slice (some ⟨w.heap.size, 0, none⟩) 0 0) 0 (ints []) by rw [← hW0]; simpa [ints] using World.ownsRow_lit (base := w.heap.size) (e := 3) (size := 1) w #[] 0 (Nat.le_refl _) (Nat.zero_le _) rfl)
  clear hW0
  refine (below_any w0 B g most hm (by omega) C0.out).mono ?_
  rintro e w1 ⟨x, hx0, hx1, rfl, hC1, ho1⟩
  have R1 := Lib.hid (own_o R0.out ho1 hg)
  have C1 := Lib.hid hC1; have O1 := Lib.hid (only_trans O0.out ho1)
  clear hC1 ho1 C0 O0 R0
  obtain ⟨n, rfl⟩ := Int.eq_ofNat_of_zero_le hx0
  go_wp2_with fail
  go_loopw [5, 6] (fun v nv wr => ∃ (k : Nat) (l : List Int), nv = .int .i64 k ∧ ((l.length : Int) + (k : Int)) ≤ most - 1 ∧ wr.ownsRow w.heap.size 3 1 v l.length (ints l) ∧ Cur wr B g ∧ Only w g wr) (fun _ nv _ => (intOf nv).toNat)
  case atStart => exact ⟨n, [], rfl, by simpa using hx1, R1.out, C1.out, O1.out⟩
  case round =>
    obtain ⟨k, l, rfl, hl, hown, hC, hO⟩ := hrel
    have hs := hO.size
    have HC := Lib.hid hC; have HOWN := Lib.hid hown; have HO := Lib.hid hO; clear hC hown hO
    rcases k with _ | k
    · go_wp2_with fail
      go_ret
      exact ⟨_, l, rfl, by omega, HOWN.out, HC.out, HO.out⟩
    · have hlt : (0 : Int) < ((k + 1 : Nat) : Int) := by omega
      go_wp2_with fail
      generalize hW1 : (wr.alloc _) = w2
      have b2 : Below wr.heap.size wr w2 := by rw [← hW1]; exact balloc _ _
      have L2 := Lib.hid (show Has w2 wr.heap.size 3 #[.int .i64 1, .int .i64 1, .int .i64 1, .int .i64 1, .int .i64 1, .int .i64 8, .int .i64 9, .int .i64 8, .int .i64 9, .int .i64 2, .int .i64 3, .int .i64 4, .int .i64 5, .int .i64 6, .int .i64 7] by rw [← hW1]; exact has_new _ _ _)
      clear hW1
      have C2 := Lib.hid (HC.out.bel b2); have OW2 := Lib.hid (own_o (g := g) HOWN.out (only_bel b2) hg); have O2 := Lib.hid (only_trans HO.out (only_bel b2))
      clear b2
      refine (pickInt_any w2 B g wr.heap.size 15 _ 1 9 C2.out L2.out rfl (by omega) (by omega) (by omega) ?_).mono ?_
      · intro j hj
        rcases j with _ | _ | _ | _ | _ | _ | _ | _ | _ | _ | _ | _ | _ | _ | _ | j
        all_goals first | exact ⟨_, by decide, by decide, rfl⟩ | omega
      rintro e w3 ⟨x, hy0, hy1, rfl, hC3, ho3⟩
      have OW3 := Lib.hid (own_o OW2.out ho3 hg); have C3 := Lib.hid hC3; have O3 := Lib.hid (only_trans O2.out ho3)
      have hs3 := O3.out.size
      clear hC3 ho3 OW2 C2 O2 L2
      go_wp2_with (at_builtin; go_must (refine wpList_append_own _ rfl _ _ 24 rfl w.heap.size 3 i0 (.int .i64 0) 1 8 Try.underlying24 hi0 hz0 hz1 hz2 rfl (by decide) _ _ _ rfl (OW3.out.alloc _) ⟨w3.heap.size, 0, none⟩ 1 1 [.int .i64 x] rfl rfl (World.news_of_block (cs := #[.int .i64 x]) (heap_alloc_new w3 _)) (by simp [Value.oneCell']) (by unfold maxLen; omega) (by omega) (by simp; omega) ?_))
      intro v' w4 hown1 hgrow _
      go_wp2
      have hne1 : ∀ q, u5.ownBlock = some q → w.heap.size ≤ q := fun q e => (HOWN.out.lt _ e).1
      have hC4 : Cur w4 B g := (C3.out.alloc (by omega) _).only fun q hq hq' => hgrow.block q hq (fun e => by have := hne1 q e.symm; omega)
      have hO4 : Only w g w4 := by
        have ha := only_trans O3.out (only_alloc g (w := w3) (.cells #[.int .i64 x] 3))
        exact ⟨hgrow.os.trans ha.os, hgrow.tape.trans ha.tape, hgrow.output.trans ha.output, Nat.le_trans ha.size hgrow.size, fun j hj hne => (hgrow.block j (Nat.lt_of_lt_of_le hj ha.size) (fun e => by have := hne1 j e.symm; omega)).trans (ha.block j hj hne)⟩
      go_roundw
      case rel => exact ⟨k, l ++ [x], by go_num, by simp; omega, by simpa [ints] using hown1, hC4, hO4⟩
      case measure => simp [intOf]
end Go.Proofs.Ytaeonangkbhmgaa
