/- Chapter 2: slices.Backward at a list of boxes: the iterator's contract. -/
import Derived.Test.YthmoonjceokijaaColE
import Derived.RangeFuncNested
import Derived.RangeFuncBound
import Derived.RangeFuncCalls
import Derived.RangeFuncLeaves
import Derived.Shelf.Abstract
import Derived.Shelf.RegionOpen
import Derived.OwnWalkIn
import Derived.TacticsInMore
import Derived.LoopNIn
import Derived.LoopIn
namespace Go.Proofs.Ythmoonjceokijaa
open Go.RowKit Go.Shelf
set_option linter.unusedVariables false
attribute [local go_sem] Oper.semAt_some

def boxD : Bx := ⟨0, 0, 0, false⟩
def bwF (L : List Bx) (j : Nat) : Nat × Bx := (L.length - 1 - j, (L[L.length - 1 - j]?).getD boxD)
/-- what has come when k rounds are over -/
def bwd (L : List Bx) (k : Nat) : List (Nat × Bx) := (List.range k).map (bwF L)
theorem bwd_succ (L : List Bx) (k : Nat) : bwd L (k + 1) = bwd L k ++ [bwF L k] := by simp [bwd, List.range_succ]
theorem bwd_len (L : List Bx) (k : Nat) : (bwd L k).length = k := by simp [bwd]
def boxA (x : Bx) : Value := .agg #[.int .i64 x.low, .int .i64 x.size, .int .i64 x.par, .bool x.jam]
/-- a round keeps what lay below n₀, and the iterator's own box -/
def KpS (Bs n₀ : Nat) (W W' : World) : Prop := Below n₀ W W' ∧ W'.cell? ⟨Bs, 0, none⟩ = W.cell? ⟨Bs, 0, none⟩
theorem kpS_t {Bs n₀ : Nat} {A B C : World} (h : KpS Bs n₀ A B) (k : KpS Bs n₀ B C) : KpS Bs n₀ A C := ⟨h.1.trans k.1, k.2.trans h.2⟩

set_option maxRecDepth 100000 in
set_option maxHeartbeats 2000000 in
theorem backward1_in (F : Fence) (n : Nat) (h7 : F.fn 64) (hro : F.round = none) (hn : 1 ≤ n) (l Bs n₀ : Nat) (A : Option Addr) (c : Nat) (L : List Bx) (hl : L.length ≤ maxLen) (J Jx : List (Nat × Bx) → World → Prop)
    (hY : ∀ pre x W, J pre W → pre.length < L.length → YieldAt F (n - 1) Try.prog l #[.int .i64 (x.1 : Int), boxA x.2] W fun e W' =>
      (e = .returned (.bool true) ∧ J (pre ++ [x]) W' ∧ KpS Bs n₀ W W') ∨ (e = .returned (.bool false) ∧ Jx (pre ++ [x]) W'))
    (W : World) (hBs : W.cell? ⟨Bs, 0, none⟩ = some (.slice A L.length c)) (hS : XL W n₀ A L) (h0 : J [] W) :
    CallsIn F n Try.prog 64 #[.func (.yield l) #[] #[], .pointer (some ⟨Bs, 0, none⟩)] W fun e W' => (∃ v, e = .returned v) ∧
      ((∃ ys, ys = bwd L L.length ∧ J ys W') ∨ (∃ pre, (∃ k, k ≤ L.length ∧ pre = bwd L k) ∧ Jx pre W')) := by
  unfold maxLen at hl
  have HS := Lib.hid hS; clear hS
  refine callsIn_of_wp Try.func64 rfl h7 ?_ hro
  simp only [Try.ntmps64, List.size_toArray, List.length_cons, List.length_nil, Nat.reduceAdd, Nat.reduceSub, Array.replicate_succ, Array.replicate_zero, List.push_toArray, List.append_toArray, List.nil_append, List.cons_append]
  gi_wp2
  gi_loopw [3] (fun i wr => ∃ k : Nat, k ≤ L.length ∧ i = .int .i64 ((L.length : Int) - 1 - k) ∧ J (bwd L k) wr ∧ KpS Bs n₀ W wr)
    (fun i _ => ((intOf i) + 1).toNat)
  case atStart => exact ⟨0, Nat.zero_le _, by simp, h0, Below.refl _ _, rfl⟩
  case round =>
    obtain ⟨k, hk, rfl, hJs, hkp⟩ := hrel
    have hsl := hkp.2.trans hBs
    have HKP := Lib.hid hkp; clear hkp
    by_cases hlt : k < L.length
    · obtain ⟨m, hm⟩ : ∃ m, m = L.length - 1 - k := ⟨_, rfl⟩
      have hix : (L.length : Int) - 1 - k = (m : Int) := by omega
      have hml : m < L.length := by omega
      have hnx : (m : Int) - 1 = (L.length : Int) - 1 - ((k + 1 : Nat) : Int) := by omega
      rw [hix]
      obtain ⟨b, off, x, hA, hbB, hx, hc0, hc1, hc2, hc3⟩ := (HS.out.below HKP.out.1).at_ hml
      subst hA
      have hf : bwF L k = (m, x) := by unfold bwF; rw [← hm, hx]; rfl
      have hsn := bwd_succ L k
      rw [hf] at hsn
      obtain ⟨fn, tmps, assign, body, hy, hR⟩ := hY _ (m, x) wr hJs (by rw [bwd_len]; exact hlt)
      have HSN := Lib.hid hsn; have HNX := Lib.hid hnx; have HM := Lib.hid hm; have HJS := Lib.hid hJs; have HX := Lib.hid hx; clear hsn hnx hm hJs hf hix hx
      obtain ⟨x0, x1, x2, x3⟩ := x
      dsimp only [boxA] at hc0 hc1 hc2 hc3 hy
      gi_wp2
      refine hR.mono ?_
      rintro e W3 (⟨rfl, hJ3, hk3⟩ | ⟨rfl, hJx3⟩)
      · gi_wp2
        go_roundw
        case rel => exact ⟨k + 1, by omega, by rw [← HNX.out], by rw [HSN.out]; exact hJ3, kpS_t HKP.out hk3⟩
        case measure => simp [intOf]
      · gi_wp2
        refine bodyPost_ret (results_none rfl _ _ _) rfl ?_
        exact ⟨⟨_, rfl⟩, .inr ⟨_, ⟨k + 1, by omega, HSN.out.symm⟩, hJx3⟩⟩
    · obtain rfl : k = L.length := by omega
      gi_wp2
      go_end0
      exact ⟨⟨_, rfl⟩, .inl ⟨_, rfl, hJs⟩⟩

theorem back_stops (F : Fence) (n : Nat) (h7 : F.fn 64) (hro : F.round = none) (hn : 1 ≤ n) (Bs n₀ : Nat) (A : Option Addr) (c : Nat) (L : List Bx) (hl : L.length ≤ maxLen) (w : World) (hBs : Bs < w.heap.size) (hn₀ : n₀ ≤ w.heap.size)
    (hc : w.cell? ⟨Bs, 0, none⟩ = some (.slice A L.length c)) (hS : XL w n₀ A L) :
    SeqStopsK F n Try.prog 64 #[.pointer (some ⟨Bs, 0, none⟩)] (fun x : Nat × Bx => #[.int .i64 (x.1 : Int), boxA x.2]) (KpS Bs n₀) (fun ys => ys = bwd L L.length) (fun pre => ∃ k, k ≤ L.length ∧ pre = bwd L k) L.length w := fun l J Jx W hW _ _ hY h0 => by
  have hc' := (hW.cell (p := ⟨Bs, 0, none⟩) hBs).trans hc
  refine (backward1_in F n h7 hro hn l Bs n₀ A c L hl J Jx hY W hc' (hS.below (hW.mono hn₀)) h0).mono ?_
  rintro e W' ⟨he, ⟨ys, hy, hj⟩ | ⟨pre, hp, hj⟩⟩
  · exact ⟨he, .inl ⟨_, hy, hj⟩⟩
  · exact ⟨he, .inr ⟨_, hp, hj⟩⟩
theorem kpS_b {Bs n₀ : Nat} {w : World} (hn : n₀ ≤ w.heap.size) (hs : Bs < w.heap.size) (W : World) (l : Nat) (o o' : Obj) (hl : w.heap.size ≤ l) (h : W.heap[l]? = some o) (hc : o.isCells = false) (hw : o.isWalk = false) : KpS Bs n₀ W (W.putObj l o') :=
  ⟨belowK_b hn W l o o' hl h hc hw, World.cell?_of_block ((grownBy_putObj' W l o').block Bs (by have := (Array.getElem?_eq_some_iff.1 h).1; omega) (fun e => by injection e; omega))⟩
end Go.Proofs.Ythmoonjceokijaa
