/- Chapter 5: the grants that a right needs: plain facts. -/
import Derived.Test.YtockjdaijhfgaaaGraY
import Derived.Test.YtockjdaijhfgaaaGraD
import Derived.Test.YtockjdaijhfgaaaSrt
namespace Go.Proofs.Ytockjdaijhfgaaa
open Go.RowKit
set_option linter.unusedVariables false
/-- the steps, as they are: the least numbers -/
theorem steps_canon (l : List Gr) (p t who : Int) : Steps l p t 0 who fun x => (shortB l p t 0 who x).map fun k : Nat => (k : Int) where
  snd := fun x v hx => by
    cases hs : shortB l p t 0 who x with
    | none => rw [hs] at hx; cases hx
    | some k => rw [hs] at hx; injection hx with hx; exact ⟨k, hx.symm, ((find_range _ 7 k).1 hs).2.1⟩
  cmp := fun h x hr => by
    have h6 := rh_le (Int.le_refl 0) hr
    cases hs : shortB l p t 0 who x with
    | none => unfold shortB at hs; rw [List.find?_eq_none] at hs; exact absurd hr (hs h (by simp; omega))
    | some k =>
      refine ⟨k, rfl, ?_⟩
      have hk := (find_range _ 7 k).1 hs
      rcases Nat.lt_or_ge h k with hlt | hge
      · rw [hk.2.2 h hlt] at hr; cases hr
      · omega
section
variable {l : List Gr} {p t who : Int} {S : PM}
/-- each grant of the chain applies, and its place tells how far it is -/
theorem chain_mem (hS : Steps l p t 0 who S) : ∀ (h : Nat) (x : Int), S x = some (h : Int) → ∀ v ∈ chainL l p t who h x, ∃ (i : Nat) (g : Gr) (j : Nat), v = (i : Int) ∧ l[i]? = some g ∧ appB p t g = true ∧ j < h ∧ S g.frm = some ((j : Int) + 1)
  | 0, x, _, v, hv => by cases hv
  | h + 1, x, hx, v, hv => by
    have hx' : S x = some ((h : Int) + 1) := by rw [hx]; simp
    obtain ⟨i, g, hi, hg, ha, ht, hc⟩ := ch_next hS hx'
    rw [hc] at hv
    rcases List.mem_cons.1 hv with rfl | hv
    · obtain ⟨hlt, hp, _⟩ := List.findIdx?_eq_some_iff_getElem.1 hi
      have hgl : l[i] = g := by rw [List.getElem?_eq_getElem hlt] at hg; injection hg
      rw [hgl] at hp
      simp only [chP, Bool.and_eq_true, beq_iff_eq] at hp
      exact ⟨i, g, h, rfl, hg, ha, by omega, by rw [hp.1.1.1]; exact hx'⟩
    · obtain ⟨i', g', j, h1, h2, h3, h4, h5⟩ := chain_mem hS h g.to ht v hv
      exact ⟨i', g', j, h1, h2, h3, by omega, h5⟩
theorem chain_nodup (hS : Steps l p t 0 who S) : ∀ (h : Nat) (x : Int), S x = some (h : Int) → (chainL l p t who h x).Nodup
  | 0, x, _ => List.nodup_nil
  | h + 1, x, hx => by
    have hx' : S x = some ((h : Int) + 1) := by rw [hx]; simp
    obtain ⟨i, g, hi, hg, ha, ht, hc⟩ := ch_next hS hx'
    rw [hc, List.nodup_cons]
    refine ⟨fun hm => ?_, chain_nodup hS h g.to ht⟩
    obtain ⟨i', g', j, h1, h2, h3, h4, h5⟩ := chain_mem hS h g.to ht _ hm
    have e : i' = i := by omega
    rw [e, hg] at h2; injection h2 with h2; subst h2
    obtain ⟨hlt, hp, _⟩ := List.findIdx?_eq_some_iff_getElem.1 hi
    have hgl : l[i] = g := by rw [List.getElem?_eq_getElem hlt] at hg; injection hg
    rw [hgl] at hp
    simp only [chP, Bool.and_eq_true, beq_iff_eq] at hp
    rw [hp.1.1.1, hx'] at h5
    injection h5 with h5; omega
/-- without a grant that is not in the chain, the chain is still there -/
theorem chain_without (hS : Steps l p t 0 who S) {l' : List Gr} {n : Nat} (hl' : ∀ (i : Nat) (g : Gr), i ≠ n → l[i]? = some g → l'[i]? = some g) : ∀ (h : Nat) (x : Int), S x = some (h : Int) → (n : Int) ∉ chainL l p t who h x → rhB l' p t 0 who h x = true
  | 0, x, hx, _ => by
    obtain ⟨k, hk, hr⟩ := hS.snd _ _ hx
    obtain rfl : k = 0 := by omega
    rw [rh_zero] at hr ⊢; exact hr
  | h + 1, x, hx, hn => by
    have hx' : S x = some ((h : Int) + 1) := by rw [hx]; simp
    obtain ⟨i, g, hi, hg, ha, ht, hc⟩ := ch_next hS hx'
    rw [hc] at hn
    have hne : i ≠ n := fun e => hn (by rw [e]; exact List.mem_cons_self)
    have hn2 : (n : Int) ∉ chainL l p t who h g.to := fun hm => hn (List.mem_cons_of_mem _ hm)
    have ih := chain_without hS hl' h g.to ht hn2
    obtain ⟨hlt, hp, _⟩ := List.findIdx?_eq_some_iff_getElem.1 hi
    have hgl : l[i] = g := by rw [List.getElem?_eq_getElem hlt] at hg; injection hg
    rw [hgl] at hp
    simp only [chP, Bool.and_eq_true, beq_iff_eq, decide_eq_true_eq] at hp
    exact rh_succ.2 ⟨g, List.mem_of_getElem? (hl' i g hne hg), ha, by omega, hp.1.1.1, ih⟩
end
theorem grantB_off (g : Gr) : grantB (offG g) = grantB g := rfl
theorem grantsB_set {l : List Gr} {k : Nat} {g : Gr} (hg : l[k]? = some g) : grantsB (l.set k (offG g)) = grantsB l := by
  have hk : k < l.length := (List.getElem?_eq_some_iff.1 hg).1
  have hall : (l.set k (offG g)).all grantB = l.all grantB := by
    rw [Bool.eq_iff_iff, List.all_eq_true, List.all_eq_true]
    constructor
    · intro h x hx
      obtain ⟨j, hj, rfl⟩ := List.getElem_of_mem hx
      by_cases e : j = k
      · subst e
        have := h (offG g) (List.mem_of_getElem? (i := j) (by rw [List.getElem?_set_self hk]))
        rw [List.getElem?_eq_getElem hj] at hg; injection hg with hg
        rw [hg]; exact this
      · exact h _ (List.mem_of_getElem? (i := j) (by rw [List.getElem?_set_ne (fun e' => e e'.symm)]; exact List.getElem?_eq_getElem hj))
    · intro h x hx
      obtain ⟨j, hj, rfl⟩ := List.getElem_of_mem hx
      have hj' : j < l.length := by simpa using hj
      by_cases e : j = k
      · subst e
        rw [List.getElem_set_self]
        rw [List.getElem?_eq_getElem hj'] at hg; injection hg with hg
        rw [grantB_off, ← hg]; exact h _ (List.getElem_mem hj')
      · rw [List.getElem_set_ne (fun e' => e e'.symm)]; exact h _ (List.getElem_mem hj')
  unfold grantsB; rw [hall, List.length_set]
/-- is grant i needed? -/
def isNeed (l : List Gr) (owner who p t : Int) (i : Int) : Bool := (revG l i).2 && !mayB (revG l i).1 owner who p t
def needN (l : List Gr) (owner who p t : Int) (k : Nat) : List Int := ((List.range k).map fun i : Nat => (i : Int)).filter (isNeed l owner who p t)
def needL (l : List Gr) (owner who p t : Int) : List Int := if mayB l owner who p t then needN l owner who p t l.length else []
theorem needN_yes {l : List Gr} {owner who p t : Int} {k : Nat} (h : isNeed l owner who p t (k : Int) = true) : needN l owner who p t (k + 1) = needN l owner who p t k ++ [(k : Int)] := by simp [needN, List.range_succ, h]
theorem needN_no {l : List Gr} {owner who p t : Int} {k : Nat} (h : isNeed l owner who p t (k : Int) = false) : needN l owner who p t (k + 1) = needN l owner who p t k := by simp [needN, List.range_succ, h]
theorem needN_len (l : List Gr) (owner who p t : Int) (k : Nat) : (needN l owner who p t k).length ≤ k := by unfold needN; exact Nat.le_trans (List.length_filter_le _ _) (by simp)
theorem needN_asc (l : List Gr) (owner who p t : Int) (k : Nat) : (needN l owner who p t k).Pairwise (fun x y => x < y) := by
  unfold needN
  refine List.Pairwise.filter _ ?_
  rw [List.pairwise_map]
  exact List.pairwise_lt_range.imp (by intro a b h; omega)
theorem mem_needN {l : List Gr} {owner who p t x : Int} {k : Nat} : x ∈ needN l owner who p t k ↔ (∃ i : Nat, i < k ∧ x = (i : Int)) ∧ isNeed l owner who p t x = true := by
  unfold needN; simp only [List.mem_filter, List.mem_map, List.mem_range]
  constructor
  · rintro ⟨⟨i, h1, rfl⟩, h2⟩; exact ⟨⟨i, h1, rfl⟩, h2⟩
  · rintro ⟨⟨i, h1, rfl⟩, h2⟩; exact ⟨⟨i, h1, rfl⟩, h2⟩
/-- two ascending lists of the same numbers are one -/
theorem asc_ext : ∀ {a b : List Int}, a.Pairwise (fun x y => x < y) → b.Pairwise (fun x y => x < y) → (∀ x, x ∈ a ↔ x ∈ b) → a = b
  | [], [], _, _, _ => rfl
  | [], y :: b, _, _, h => by have := (h y).2 List.mem_cons_self; cases this
  | x :: a, [], _, _, h => by have := (h x).1 List.mem_cons_self; cases this
  | x :: a, y :: b, ha, hb, h => by
    have ha' := List.pairwise_cons.1 ha
    have hb' := List.pairwise_cons.1 hb
    have e : x = y := by
      have h1 := (h x).1 List.mem_cons_self
      have h2 := (h y).2 List.mem_cons_self
      rcases List.mem_cons.1 h1 with e | e
      · exact e
      · rcases List.mem_cons.1 h2 with e2 | e2
        · exact e2.symm
        · have := hb'.1 x e; have := ha'.1 y e2; omega
    subst e
    congr 1
    refine asc_ext ha'.2 hb'.2 fun z => ?_
    have hz := h z
    constructor
    · intro hm
      have := ha'.1 z hm
      rcases List.mem_cons.1 (hz.1 (List.mem_cons_of_mem _ hm)) with e | e
      · omega
      · exact e
    · intro hm
      have := hb'.1 z hm
      rcases List.mem_cons.1 (hz.2 (List.mem_cons_of_mem _ hm)) with e | e
      · omega
      · exact e
theorem asc_of_sorted {a : List Int} (h : a.Pairwise (fun x y => x ≤ y)) (hn : a.Nodup) : a.Pairwise (fun x y => x < y) := by
  rw [List.nodup_iff_pairwise_ne] at hn
  exact (h.and hn).imp (by intro x y h; omega)
/-- the program looks at the chain alone -/
theorem need_chain {l : List Gr} {owner who p t : Int} : sortL (((chainA l owner who p t).getD []).filter fun i => !mayB (revG l i).1 owner who p t) = needL l owner who p t := by
  cases hm : mayB l owner who p t
  · have h1 : chainA l owner who p t = none := by rw [may_chain] at hm; simpa using hm
    rw [h1]; unfold needL; rw [hm]; simp [sortL]
  · have hg : goodB l owner who p t = true := by unfold mayB at hm; simp only [Bool.and_eq_true] at hm; exact hm.1
    have hs : (shortB l p t 0 who owner).isSome = true := by unfold mayB at hm; simp only [Bool.and_eq_true] at hm; exact hm.2
    obtain ⟨h, hh⟩ := Option.isSome_iff_exists.1 hs
    have hc : (chainA l owner who p t).getD [] = chainL l p t who h owner := by unfold chainA; rw [hg, if_pos rfl, hh]; rfl
    have hS := steps_canon l p t who
    have hx : (fun x => (shortB l p t 0 who x).map fun k : Nat => (k : Int)) owner = some (h : Int) := by simp [hh]
    have hgr : grantsB l = true := by simp only [goodB, Bool.and_eq_true] at hg; exact hg.1.1.1.1
    rw [hc]
    unfold needL; rw [hm, if_pos rfl]
    have hnd := chain_nodup hS h owner hx
    refine asc_ext (asc_of_sorted (sortL_asc _) ((sortL_perm _).nodup_iff.2 (hnd.filter _))) (needN_asc _ _ _ _ _ _) fun x => ?_
    rw [(sortL_perm _).mem_iff, List.mem_filter, mem_needN]
    constructor
    · rintro ⟨h1, h2⟩
      obtain ⟨i, g, j, rfl, hgi, ha, _, _⟩ := chain_mem hS h owner hx x h1
      have hoff : g.off = false := by simp only [appB, Bool.and_eq_true] at ha; simpa using ha.1.1.1.2
      refine ⟨⟨i, (List.getElem?_eq_some_iff.1 hgi).1, rfl⟩, ?_⟩
      unfold isNeed
      rw [h2, revG_yes hgi hgr hoff]; rfl
    · rintro ⟨⟨i, hi, rfl⟩, h2⟩
      unfold isNeed at h2
      simp only [Bool.and_eq_true] at h2
      refine ⟨?_, h2.2⟩
      by_cases hmem : (i : Int) ∈ chainL l p t who h owner
      · exact hmem
      · exfalso
        obtain ⟨g, hgi⟩ : ∃ g, l[i]? = some g := ⟨_, List.getElem?_eq_getElem hi⟩
        have hoff : g.off = false := by
          cases ho : g.off
          · rfl
          · have := revG_off hgi ho; rw [this] at h2; exact absurd h2.1 (by simp)
        rw [revG_yes hgi hgr hoff] at h2
        have hr := chain_without hS (l' := l.set i (offG g)) (n := i) (fun j q hne hq => by rw [List.getElem?_set_ne (fun e => hne e.symm)]; exact hq) h owner hx hmem
        have hgood : goodB (l.set i (offG g)) owner who p t = true := by unfold goodB at hg ⊢; rw [grantsB_set hgi]; exact hg
        have hsome : (shortB (l.set i (offG g)) p t 0 who owner).isSome = true := by
          have h6 := rh_le (Int.le_refl 0) hr
          cases hq : shortB (l.set i (offG g)) p t 0 who owner with
          | some _ => rfl
          | none => unfold shortB at hq; rw [List.find?_eq_none] at hq; exact absurd hr (hq h (by simp; omega))
        have hmay : mayB (l.set i (offG g)) owner who p t = true := by unfold mayB; rw [hgood, hsome]; rfl
        rw [hmay] at h2; exact absurd h2.2 (by simp)
end Go.Proofs.Ytockjdaijhfgaaa
