/- The drawing of twelve numbers and of a week. -/
import Derived.Test.YtpooffekjealhaaDraw
import Derived.Test.YtpooffekjealhaaWeekA
import Derived.OwnWalk
import Derived.Deep.AppendLies
import Derived.Deep.DeepMust
namespace Go.Proofs.Ytpooffekjealhaa
open Go.RowKit
set_option linter.unusedVariables false

theorem intInfoP : (Try.prog.info? 3).map (fun i => (i.zero, i.size, i.bytes)) = some (some (.int .i64 0), 1, 8) := by kernel_rfl
def ints (l : List Int) : List Value := l.map (Value.int .i64)
theorem Cur.only {w w' : World} {B g : Nat} (h : Cur w B g) (hk : ∀ k, k < w.heap.size → (k < B ∨ k = g) → w'.heap[k]? = w.heap[k]?) : Cur w' B g := by
  have hlt := h.lt
  obtain ⟨A, n, c, i, hh, hH, hS, hn, h0, h1, hg⟩ := h
  refine ⟨A, n, c, i, hh, (hk g hlt.2 (.inr rfl)).trans hH, ?_, hn, h0, h1, hg⟩
  exact hS.kept fun p hp => World.cell?_of_block (hk p.block (by omega) (.inl hp))

/-- what a row of the call's own is behind a step that changes the cursor alone -/
theorem own_only {w w' : World} {base g : Nat} {e : TypeId} {size n : Nat} {v : Value} {xs : List Value} (h : w.ownsRow base e size v n xs) (ho : Only w g w') (hne : v.ownBlock ≠ some g) : w'.ownsRow base e size v n xs :=
  h.kept (row := some g) ho (.inr hne)

def Twelve (w : World) (e : Ending) (w' : World) : Prop := ∃ (b c : Nat) (l : List Int), e = .returned (.slice (some ⟨b, 0, none⟩) 12 c) ∧ l.length = 12 ∧ (∀ x ∈ l, 0 ≤ x ∧ x ≤ 9999) ∧ (∀ k x, l[k]? = some x → w'.cell? ⟨b, k, none⟩ = some (.int .i64 x)) ∧ b < w'.heap.size ∧ w.heap.size ≤ b ∧ Below w.heap.size w w'

set_option maxHeartbeats 1000000 in
theorem places_any (w : World) (A : Option Addr) (n c : Nat) (hn : n ≤ maxLen) (hS : BS w w.heap.size A n) :
    Calls Try.prog 9 #[.slice A n c] w (Twelve w) := by
  have HS := Lib.hid hS; clear hS
  obtain ⟨i0, hi0, hz0, hz1, hz2⟩ := info_parts intInfoP
  go_enter Try.func9, Try.ntmps9
  go_wp2_with fail
  refine (new_any w w.heap.size A n c hn (Nat.le_refl _) HS.out).mono ?_
  rintro e w1 ⟨rfl, hC1, hb1⟩
  have HC1 := Lib.hid hC1; clear hC1
  have hlt1 := HC1.out.lt
  go_wp2_with fail
  go_loopw [4, 5] (fun v i wr => ∃ (k : Nat) (l : List Int), k ≤ 12 ∧ i = .int .i64 k ∧ l.length = k ∧ (∀ x ∈ l, 0 ≤ x ∧ x ≤ 9999) ∧ wr.ownsRow (w.heap.size + 1) 3 1 v k (ints l) ∧ Cur wr w.heap.size w.heap.size ∧ Below w.heap.size w wr) (fun _ i _ => 12 - (intOf i).toNat)
  case atStart => exact ⟨0, [], by omega, rfl, rfl, fun x hx => by simp at hx, by simpa [ints] using World.ownsRow_lit (base := w.heap.size + 1) (e := 3) (size := 1) w1 #[] 0 (by omega) (Nat.zero_le _) rfl, HC1.out.alloc hlt1.1 _, hb1.alloc hlt1.1 _⟩
  case round =>
    obtain ⟨k, l, hk, rfl, hl, hall, hown, hC, hb⟩ := hrel
    have hltC := hC.lt
    have HC := Lib.hid hC; clear hC
    have HOWN := Lib.hid hown; clear hown
    have HALL := Lib.hid hall; clear hall
    have HL := Lib.hid hl; clear hl
    by_cases hlt : k < 12
    · go_wp2_with fail
      refine (below_any wr w.heap.size w.heap.size 10000 (by omega) (by omega) HC.out).mono ?_
      rintro e w2 ⟨x, hx0, hx1, rfl, hC2, ho2⟩
      have hne : u4.ownBlock ≠ some w.heap.size := fun e => by have := (HOWN.out.lt _ e).1; omega
      have HO := Lib.hid (own_only HOWN.out ho2 hne)
      have hz2' := ho2.size
      have HC2 := Lib.hid hC2; clear hC2
      have hb2 := hb.trans (only_below ho2 hltC.1 (Nat.le_refl _))
      go_wp2_with (at_builtin; go_must (refine wpList_append_own _ rfl _ _ 31 rfl (w.heap.size + 1) 3 i0 (.int .i64 0) 1 8 Try.underlying31 hi0 hz0 hz1 hz2 rfl (by decide) _ _ _ rfl (HO.out.alloc _) ⟨w2.heap.size, 0, none⟩ 1 1 [.int .i64 x] rfl rfl (World.news_of_block (cs := #[.int .i64 x]) (heap_alloc_new w2 _)) (by simp [Value.oneCell']) (by unfold maxLen; omega) (by omega) (by simp; omega) ?_))
      intro v' w3 hown1 hgrow _
      go_wp2
      have hne1 : ∀ q, u4.ownBlock = some q → w.heap.size + 1 ≤ q := fun q e => (HOWN.out.lt _ e).1
      have hC3 : Cur w3 w.heap.size w.heap.size := (HC2.out.alloc (by omega) _).only fun q hq hq' => hgrow.block q hq (fun e => by have := hne1 q e.symm; omega)
      go_roundw
      case rel =>
        refine ⟨k + 1, l ++ [x], by omega, by go_num, by simp [HL.out], fun y hy => ?_, by simpa [ints] using hown1, hC3, (hb2.alloc (by omega) _).grown hgrow (by simp; omega) (fun q e => by have := hne1 q e; omega)⟩
        rcases List.mem_append.1 hy with hy | hy
        · exact HALL.out y hy
        · simp at hy; subst hy; omega
      case measure => simp [intOf]; omega
    · go_wp2_with fail
      go_ret
      have hk12 : k = 12 := by omega
      subst hk12
      obtain ⟨q, cap, hv, hq0, hq1⟩ := HOWN.out.form (by omega)
      subst hv
      exact ⟨q, cap, l, rfl, HL.out, HALL.out, fun j y hj => by
        have hjl : j < l.length := (List.getElem?_eq_some_iff.1 hj).1
        rw [HOWN.out.cellAt j (by have := HL.out; omega)]
        simp [ints, hj], hq1, by omega, hb⟩
end Go.Proofs.Ytpooffekjealhaa
