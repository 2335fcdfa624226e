/- Copies of rows of Event: slices.Clone (gen_cln.py). -/
import Derived.Test.YtdcejkompdbliaaDoorEvR
import Derived.Deep.DeepMust
import Derived.Deep.RegionHeld3
import Derived.Deep.AppendLies
import Derived.WalkSpells
import Derived.OwnWalk
import Derived.Lib.SliceRun
namespace Go.Proofs.YtdcejkompdbliaaDoor
open Go.RowKit
set_option linter.unusedVariables false

theorem addr_ev (b off i : Nat) : (Addr.mk b off none).add i = ⟨b, off + i, none⟩ := by
  unfold Addr.add
  split
  · rename_i h; subst h; rfl
  · rfl
theorem ev_news {w : World} {B : Nat} {a : Addr} {l : List Ev} (h : evL w B (some a) l) : ∀ (j : Nat) (u : Value), (evV l)[j]? = some u → w.cell? (a.add j) = some u := by
  intro j u hu
  have hj : j < 7 * l.length := by have := (List.getElem?_eq_some_iff.1 hu).1; rwa [evV_len] at this
  obtain ⟨q, r, rfl, hr⟩ : ∃ q r, j = q * 7 + r ∧ r < 7 := ⟨j / 7, j % 7, by omega, by omega⟩
  have hq : q < l.length := by omega
  have hx := List.getElem?_eq_getElem hq
  have h1 := evV_at hx
  rcases h with h | ⟨b, off, e, _, hc⟩
  · rw [h] at hq; simp at hq
  · injection e with e; subst e
    have h2 := hc q _ hx
    rw [addr_ev]
    rcases r with _ | _ | _ | _ | _ | _ | _ | r
    · rw [Nat.add_zero] at hu ⊢; rw [h1.1] at hu; rw [← hu]; exact h2.1
    · rw [h1.2.1] at hu; rw [← hu, ← Nat.add_assoc]; exact h2.2.1
    · rw [h1.2.2.1] at hu; rw [← hu, ← Nat.add_assoc]; exact h2.2.2.1
    · rw [h1.2.2.2.1] at hu; rw [← hu, ← Nat.add_assoc]; exact h2.2.2.2.1
    · rw [h1.2.2.2.2.1] at hu; rw [← hu, ← Nat.add_assoc]; exact h2.2.2.2.2.1
    · rw [h1.2.2.2.2.2.1] at hu; rw [← hu, ← Nat.add_assoc]; exact h2.2.2.2.2.2.1
    · rw [h1.2.2.2.2.2.2] at hu; rw [← hu, ← Nat.add_assoc]; exact h2.2.2.2.2.2.2
    · omega
theorem ev_none {w : World} {B : Nat} {l : List Ev} (h : evL w B none l) : l = [] := by
  rcases h with h | ⟨b, off, e, _⟩
  · exact h
  · cases e
theorem ev_one {l : List Ev} : ∀ u ∈ evV l, u.oneCell' = true := by
  intro u hu
  obtain ⟨x, _, hx⟩ := List.mem_flatMap.1 hu
  simp [evC] at hx
  rcases hx with rfl | rfl | rfl | rfl | rfl | rfl | rfl <;> rfl

set_option maxRecDepth 100000 in
set_option maxHeartbeats 400000 in
theorem cloneEvent_any (w : World) (B : Nat) (A : Option Addr) (c : Nat) (l : List Ev) (hl : l.length ≤ 1048576) (hB : B ≤ w.heap.size) (hS : evL w B A l) :
    Calls Tryd.prog 30 #[.slice A l.length c] w fun e w' => ∃ A' c', e = .returned (.slice A' l.length c') ∧ w'.ownsRow w.heap.size 40 7 (.slice A' l.length c') l.length (evV l) ∧ Below w.heap.size w w' := by
  obtain ⟨i0, hi0, hz0, hz1, hz2⟩ := info_parts evInfo
  rcases A with _ | a
  · obtain rfl := ev_none hS
    have hn := fun (w : World) (n c n' c' : Nat) => Lib.run_eql_slice_nil (P := Tryd.prog) w 24 40 none n c n' c' Tryd.underlying24
    go_enter Tryd.func30, Tryd.ntmps30
    go_wp2
    go_ret
    exact ⟨none, 0, rfl, ⟨rfl, .inl ⟨rfl, rfl⟩⟩, Below.refl _ _⟩
  · have HS := Lib.hid hS; clear hS
    have hn := fun (w : World) (n c n' c' : Nat) => Lib.run_eql_slice_nil (P := Tryd.prog) w 24 40 (some a) n c n' c' Tryd.underlying24
    go_enter Tryd.func30, Tryd.ntmps30
    go_wp2_with (at_builtin; go_must (refine wpList_append_own _ rfl _ _ 24 rfl w.heap.size 40 i0 (.agg #[.int .i64 0, .int .i64 0, .int .i64 0, .int .i64 0, .int .i64 0, .int .i64 0, .int .i64 0]) 7 56 Tryd.underlying24 hi0 hz0 hz1 hz2 rfl (by decide) _ _ _ rfl (World.ownsRow_lit (base := w.heap.size) (e := 40) (size := 7) w #[] 0 (Nat.le_refl _) (Nat.zero_le _) rfl) a l.length c (evV l) rfl (by rw [evV_len]; omega) (ev_news (HS.out.later hB (balloc _ _))) ev_one (by unfold maxLen; omega) (by omega) (by simp) ?_))
    intro v' w3 hown hgrow _
    obtain ⟨A', c', rfl, hor⟩ := or_own hown
    have HO := Lib.hid hown; clear hown hor
    go_wp2
    go_ret
    refine ⟨A', c', by simp, HO.out, ?_⟩
    exact (balloc w (.cells #[] 40)).grown hgrow (by simp) (fun k hk => by simp [Value.ownBlock] at hk; omega)
end Go.Proofs.YtdcejkompdbliaaDoor
