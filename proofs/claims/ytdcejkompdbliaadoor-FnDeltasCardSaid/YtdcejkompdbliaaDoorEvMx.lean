/- Chapter 8: what the law FnMerges says of the journals that it draws: plain facts. -/
import Derived.Test.YtdcejkompdbliaaDoorEvMz
import Derived.Test.YtdcejkompdbliaaDoorEvDr
namespace Go.Proofs.YtdcejkompdbliaaDoor
open Go.RowKit
set_option linter.unusedVariables false
def pC (x : Int) : Bool := decide (0 ≤ x) && decide (x ≤ 5)
theorem pA_pC (x : Int) (h : pA x = true) : pC x = true := by simp only [pA, pC, Bool.and_eq_true, decide_eq_true_eq] at *; omega
theorem jrn_order {R : List Ev} (h : jrnB R = true) {x y : Ev} (hx : x ∈ R) (hy : y ∈ R) (hn : x.nod = y.nod) (hs : x.seq < y.seq) : x.stm < y.stm := by
  obtain ⟨i, hi⟩ := List.getElem?_of_mem hx
  obtain ⟨j, hj⟩ := List.getElem?_of_mem hy
  rcases Nat.lt_trichotomy i j with h1 | h1 | h1
  · have := jrn_two h h1 hi hj; omega
  · subst h1; rw [hi] at hj; injection hj with hj; subst hj; omega
  · have := jrn_two h h1 hj hi; omega
theorem merge_three {la lb RR : List Ev} (D1 : DrE la 10 pA) (D2 : DrE lb 10 pB) (h : mergeE la lb = (RR, true)) :
    ∃ QQ, mergeE lb (insEv la 4 3 1 2 3) = (QQ, true) ∧ mergeE RR (insEv la 4 3 1 2 3) = mergeE la QQ := by
  obtain ⟨ja, jb, mab, jr⟩ := mergeE_iff.1 h
  have hadd := (D1.more (Nat.le_refl 10) pA_pC).add (by omega) (nd := 4) (kd := 3) (pa := 1) (a := 2) (b := 3) (by omega) (by rfl) (by omega) (by omega) (by omega) (by omega)
  have jc := hadd.2.jrn
  have hmem : ∀ z, z ∈ insEv la 4 3 1 2 3 ↔ z ∈ la ∨ z = newEv la 4 3 1 2 3 := fun z => ins_mem
  have hnn : (newEv la 4 3 1 2 3).nod = 4 := rfl
  have hlen := insEv_len la 4 3 1 2 3
  generalize insEv la 4 3 1 2 3 = CC at *
  generalize newEv la 4 3 1 2 3 = nw at *
  have gab := some_agr (jrn_srt ja) (jrn_srt jb) mab
  have na : ∀ z ∈ la, z.nod ≠ 4 := fun z hz => by have := D1.nod z hz; simp only [pA, Bool.and_eq_true, decide_eq_true_eq] at this; omega
  have nb : ∀ z ∈ lb, z.nod ≠ 4 := fun z hz => by have := D2.nod z hz; simp only [pB, Bool.and_eq_true, decide_eq_true_eq] at this; omega
  have gbc : Agr lb CC := fun x hx y hy h1 h2 => by
    rcases (hmem y).1 hy with hy | hy
    · exact gab.symm x hx y hy h1 h2
    · subst hy; exact absurd (h1.trans hnn) (nb x hx)
  obtain ⟨QQ, hQ⟩ := agr_some gbc
  have hsr := mrgL_srt (jrn_srt jb) (jrn_srt jc) hQ
  have hin : ∀ z ∈ QQ, z ∈ RR ∨ z = nw := fun z hz => by
    rcases (mrgL_mem hQ z).1 hz with h1 | h1
    · exact .inl ((mrgL_mem mab z).2 (.inr h1))
    · rcases (hmem z).1 h1 with h2 | h2
      · exact .inl ((mrgL_mem mab z).2 (.inl h2))
      · exact .inr h2
  have hr4 : ∀ z ∈ RR, z.nod ≠ 4 := fun z hz => by
    rcases (mrgL_mem mab z).1 hz with h1 | h1
    · exact na z h1
    · exact nb z h1
  have jq : jrnB QQ = true := by
    rw [jrn_iff]
    refine ⟨by have := mrgL_len hQ; have := D2.len; have := D1.len; omega, fun x hx => ?_, ?_⟩
    · rcases (mrgL_mem hQ x).1 hx with h1 | h1
      · exact jrn_ev jb h1
      · exact jrn_ev jc h1
    · refine hsr.imp_of_mem (fun {x y} hx hy hb => ?_)
      rw [befE_iff] at hb
      rw [folB_iff]
      rcases hb with hb | ⟨hb1, hb2⟩
      · exact .inl hb
      · refine .inr ⟨hb1, hb2, ?_⟩
        rcases hin x hx with h1 | h1
        · rcases hin y hy with h2 | h2
          · exact jrn_order jr h1 h2 hb1 hb2
          · subst h2; exact absurd (hb1.trans hnn) (hr4 x h1)
        · rcases hin y hy with h2 | h2
          · subst h1; exact absurd (hb1.symm.trans hnn) (hr4 y h2)
          · subst h1; subst h2; omega
  have hqq : mergeE lb CC = (QQ, true) := mergeE_yes jb jc hQ jq
  exact ⟨QQ, hqq, mergeE_assoc h hqq (agr_sub (agr_self (jrn_srt jc)) (fun z hz => (hmem z).2 (.inl hz)) (fun _ h => h))⟩
end Go.Proofs.YtdcejkompdbliaaDoor
