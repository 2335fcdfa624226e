/- Chapter 8: the parcels of a list of events: plain facts. -/
import Derived.Test.YtnimdbmcpbpoiaaEvQ
import Derived.Test.YtnimdbmcpbpoiaaSrt
import Derived.Lib.SlicesCompact
namespace Go.Proofs.Ytnimdbmcpbpoiaa
open Go.RowKit
set_option linter.unusedVariables false
def hasP (l : List Ev) (p : Int) : Bool := l.any fun e => e.par == p
/-- the numbers 1 .. n that are of some event -/
def parcN (l : List Ev) (n : Nat) : List Int := ((List.range n).map fun i => ((i : Nat) : Int) + 1).filter (hasP l)
def parcE (l : List Ev) : List Int := if jrnB l then parcN l 999 else []
theorem parcE_bad {l : List Ev} (h : jrnB l = false) : parcE l = [] := by unfold parcE; rw [h]; rfl
theorem parcE_good {l : List Ev} (h : jrnB l = true) : parcE l = parcN l 999 := by unfold parcE; rw [h]; rfl
theorem parcN_succ (l : List Ev) (n : Nat) : parcN l (n + 1) = parcN l n ++ (if hasP l ((n : Int) + 1) then [(n : Int) + 1] else []) := by
  unfold parcN; rw [List.range_succ, List.map_append, List.filter_append]
  cases h : hasP l ((n : Int) + 1) <;> simp [h]
theorem parcN_len (l : List Ev) (n : Nat) : (parcN l n).length ≤ n := by
  unfold parcN; exact Nat.le_trans (List.length_filter_le _ _) (by simp)
theorem parcE_len (l : List Ev) : (parcE l).length ≤ 999 := by
  unfold parcE; split
  · exact parcN_len l 999
  · exact Nat.zero_le _
theorem hasP_iff {l : List Ev} {p : Int} : hasP l p = true ↔ ∃ e ∈ l, e.par = p := by simp [hasP]
theorem parcN_mem {l : List Ev} {n : Nat} {p : Int} : p ∈ parcN l n ↔ (1 ≤ p ∧ p ≤ n) ∧ ∃ e ∈ l, e.par = p := by
  unfold parcN
  rw [List.mem_filter, hasP_iff]
  constructor
  · rintro ⟨h1, h2⟩
    obtain ⟨i, hi, rfl⟩ := List.mem_map.1 h1
    have := List.mem_range.1 hi
    exact ⟨by omega, h2⟩
  · rintro ⟨h1, h2⟩
    exact ⟨List.mem_map.2 ⟨(p - 1).toNat, List.mem_range.2 (by omega), by omega⟩, h2⟩
theorem parcN_asc (l : List Ev) : ∀ n, (parcN l n).Pairwise (fun a b => a < b)
  | 0 => .nil
  | n + 1 => by
    rw [parcN_succ]
    refine List.pairwise_append.2 ⟨parcN_asc l n, by split <;> simp, fun a ha b hb => ?_⟩
    have h1 := (parcN_mem.1 ha).1
    split at hb
    · simp at hb; omega
    · simp at hb
theorem asc_nodup8 {L : List Int} (h : L.Pairwise (fun a b => a < b)) : L.Nodup := h.imp (fun hab e => by omega)
theorem asc_unique {L M : List Int} (hL : L.Pairwise (fun a b => a < b)) (hM : M.Pairwise (fun a b => a < b)) (h : ∀ x, x ∈ L ↔ x ∈ M) : L = M :=
  List.Perm.eq_of_pairwise (le := fun a b : Int => a < b) (fun a b _ _ h1 h2 => by omega) hL hM ((List.perm_ext_iff_of_nodup (asc_nodup8 hL) (asc_nodup8 hM)).2 h)
/-- of an ascending list what slices.Compact keeps -/
theorem comp_inv {zs : List Int} (hs : zs.Pairwise (fun a b => a ≤ b)) : ∀ m, m ≤ zs.length → (Lib.compactUpTo zs.toArray m).Pairwise (fun a b => a < b) ∧ ∀ x, x ∈ Lib.compactUpTo zs.toArray m ↔ ∃ j, j < m ∧ zs.toArray[j]! = x
  | 0, _ => ⟨by simp [Lib.compactUpTo], fun x => by simp [Lib.compactUpTo]⟩
  | m + 1, hm => by
    obtain ⟨h1, h2⟩ := comp_inv hs m (by omega)
    have hget : ∀ j, j < zs.length → zs.toArray[j]! = zs[j]! := fun j hj => by
      rw [getElem!_pos _ j (by simpa using hj), getElem!_pos _ j hj]; simp
    have hle : ∀ i j, i ≤ j → j < zs.length → zs.toArray[i]! ≤ zs.toArray[j]! := fun i j hij hj => by
      rw [hget i (by omega), hget j hj, getElem!_pos _ i (by omega), getElem!_pos _ j hj]
      rcases Nat.eq_or_lt_of_le hij with rfl | hlt
      · exact Int.le_refl _
      · exact (List.pairwise_iff_getElem.1 hs) i j (by omega) hj hlt
    rw [Lib.compactUpTo_succ]
    cases hk : Lib.keeps zs.toArray m
    · have hm0 : m ≠ 0 := by rintro rfl; simp [Lib.keeps] at hk
      have he : zs.toArray[m]! = zs.toArray[m - 1]! := by
        unfold Lib.keeps at hk; rw [decide_eq_false_iff_not] at hk
        exact Classical.byContradiction fun hne => hk (.inr hne)
      simp only [Bool.false_eq_true, if_false, List.append_nil]
      refine ⟨h1, fun x => (h2 x).trans ⟨fun ⟨j, hj, e⟩ => ⟨j, by omega, e⟩, fun ⟨j, hj, e⟩ => ?_⟩⟩
      rcases Nat.lt_or_ge j m with hjm | hjm
      · exact ⟨j, hjm, e⟩
      · have : j = m := by omega
        subst this
        exact ⟨j - 1, by omega, by rw [← he]; exact e⟩
    · simp only [if_true]
      refine ⟨List.pairwise_append.2 ⟨h1, by simp, fun a ha b hb => ?_⟩, fun x => ?_⟩
      · simp only [List.mem_singleton] at hb; subst hb
        obtain ⟨j, hj, rfl⟩ := (h2 a).1 ha
        have hne : zs.toArray[m]! ≠ zs.toArray[m - 1]! := by
          unfold Lib.keeps at hk; rw [decide_eq_true_iff] at hk
          rcases hk with h | h
          · omega
          · exact h
        have := hle j (m - 1) (by omega) (by omega)
        have := hle (m - 1) m (by omega) (by omega)
        omega
      · rw [List.mem_append, h2]
        simp only [List.mem_singleton]
        constructor
        · rintro (⟨j, hj, e⟩ | rfl)
          · exact ⟨j, by omega, e⟩
          · exact ⟨m, by omega, rfl⟩
        · rintro ⟨j, hj, e⟩
          rcases Nat.lt_or_ge j m with hjm | hjm
          · exact .inl ⟨j, hjm, e⟩
          · have : j = m := by omega
            subst this; exact .inr e.symm
theorem comp_sorted (L : List Int) : (Lib.compact (sortL L)).Pairwise (fun a b => a < b) ∧ ∀ x, x ∈ Lib.compact (sortL L) ↔ x ∈ L := by
  obtain ⟨h1, h2⟩ := comp_inv (sortL_asc L) (sortL L).length (Nat.le_refl _)
  refine ⟨h1, fun x => (h2 x).trans ?_⟩
  rw [← (sortL_perm L).mem_iff, List.mem_iff_getElem]
  constructor
  · rintro ⟨j, hj, e⟩; exact ⟨j, hj, by rw [← e, getElem!_pos _ j (by simpa using hj)]; simp⟩
  · rintro ⟨j, hj, e⟩; exact ⟨j, hj, by rw [← e, getElem!_pos _ j (by simpa using hj)]; simp⟩
theorem parc_compact {l : List Ev} (h : jrnB l = true) : Lib.compact (sortL (l.map Ev.par)) = parcN l 999 := by
  obtain ⟨h1, h2⟩ := comp_sorted (l.map Ev.par)
  refine asc_unique h1 (parcN_asc l 999) fun x => ?_
  rw [h2, parcN_mem, List.mem_map]
  constructor
  · rintro ⟨e, he, rfl⟩
    have := (evB_facts (jrn_ev h he)).2.2.2.2.1
    exact ⟨by omega, e, he, rfl⟩
  · rintro ⟨_, e, he, rfl⟩; exact ⟨e, he, rfl⟩
end Go.Proofs.Ytnimdbmcpbpoiaa
