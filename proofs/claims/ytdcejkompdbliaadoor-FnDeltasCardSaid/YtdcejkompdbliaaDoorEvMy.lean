/- Chapter 8: a valid event that is written into a valid list leaves it valid: plain facts, for the draws. -/
import Derived.Test.YtdcejkompdbliaaDoorEvGs
namespace Go.Proofs.YtdcejkompdbliaaDoor
open Go.RowKit
set_option linter.unusedVariables false
theorem at_find (l : List Ev) (nd : Int) : ∀ n, n ≤ l.length → ∃ k, k ≤ n ∧ (∀ i x, i < k → l[i]? = some x → x.nod ≤ nd) ∧ (k = n ∨ ∃ x, l[k]? = some x ∧ nd < x.nod)
  | 0, _ => ⟨0, Nat.le_refl _, fun i x h => by omega, .inl rfl⟩
  | n + 1, h => by
    obtain ⟨k, hk, h1, h2⟩ := at_find l nd n (by omega)
    rcases h2 with h2 | ⟨x, hx, hn⟩
    · subst h2
      have hx := List.getElem?_eq_getElem (show k < l.length by omega)
      by_cases hn : (l[k]'(by omega)).nod ≤ nd
      · exact ⟨k + 1, Nat.le_refl _, fun i y hi hy => by
          rcases Nat.lt_or_ge i k with h3 | h3
          · exact h1 i y h3 hy
          · have : i = k := by omega
            subst this; rw [hx] at hy; injection hy with hy; subst hy; exact hn, .inl rfl⟩
      · exact ⟨k, by omega, h1, .inr ⟨_, hx, by omega⟩⟩
    · exact ⟨k, by omega, h1, .inr ⟨x, hx, hn⟩⟩
/-- what lies ahead of the place, and what behind it -/
theorem at_sides {l : List Ev} (hj : jrnB l = true) (nd : Int) : (∀ x ∈ l.take (atK l nd l.length), x.nod ≤ nd) ∧ ∀ x ∈ l.drop (atK l nd l.length), nd < x.nod := by
  obtain ⟨k, hk, h1, h2⟩ := at_find l nd l.length (Nat.le_refl _)
  have e : atK l nd l.length = k := by
    rcases h2 with h2 | ⟨x, hx, hn⟩
    · subst h2; exact atK_full (Nat.le_refl _) h1
    · exact atK_at hj hx h1 hn
  rw [e]
  refine ⟨fun x hx => ?_, fun x hx => ?_⟩
  · obtain ⟨i, hi⟩ := List.getElem?_of_mem hx
    rw [List.getElem?_take] at hi
    split at hi
    · exact h1 i x (by assumption) hi
    · cases hi
  · obtain ⟨i, hi⟩ := List.getElem?_of_mem hx
    rw [List.getElem?_drop] at hi
    rcases h2 with h2 | ⟨y, hy, hn⟩
    · have := (List.getElem?_eq_some_iff.1 hi).1; omega
    · rcases Nat.eq_zero_or_pos i with h0 | h0
      · subst h0; rw [Nat.add_zero, hy] at hi; injection hi with hi; subst hi; exact hn
      · have := jrn_two hj (show k < k + i by omega) hy hi; omega
theorem stmK_ge (l : List Ev) : ∀ k i x, i < k → l[i]? = some x → x.stm ≤ stmK l k
  | 0, i, x, h, _ => by omega
  | k + 1, i, x, h, hx => by
    cases hy : l[k]? with
    | none =>
      have := (List.getElem?_eq_some_iff.1 hx).1
      have := List.getElem?_eq_none_iff.1 hy
      rcases Nat.lt_or_ge i k with h1 | h1
      · have e : stmK l (k + 1) = stmK l k := by unfold stmK; rw [List.take_add_one, hy]; simp
        rw [e]; exact stmK_ge l k i x h1 hx
      · omega
    | some y =>
      rw [stmK_succ hy]
      rcases Nat.lt_or_ge i k with h1 | h1
      · have := stmK_ge l k i x h1 hx; omega
      · have : i = k := by omega
        subst this; rw [hx] at hy; injection hy with hy; subst hy; omega
theorem seqK_ge {l : List Ev} (hj : jrnB l = true) (nd : Int) : ∀ k i x, i < k → l[i]? = some x → x.nod = nd → x.seq ≤ seqK l nd k
  | 0, i, x, h, _, _ => by omega
  | k + 1, i, x, h, hx, hn => by
    cases hy : l[k]? with
    | none =>
      have := (List.getElem?_eq_some_iff.1 hx).1
      have := List.getElem?_eq_none_iff.1 hy
      rcases Nat.lt_or_ge i k with h1 | h1
      · have e : seqK l nd (k + 1) = seqK l nd k := by unfold seqK; rw [List.take_add_one, hy]; simp
        rw [e]; exact seqK_ge hj nd k i x h1 hx hn
      · omega
    | some y =>
      rw [seqK_succ hy]
      rcases Nat.lt_or_ge i k with h1 | h1
      · have ih := seqK_ge hj nd k i x h1 hx hn
        split
        · rename_i hyn; have := seqK_lt hj hy hyn; omega
        · exact ih
      · have : i = k := by omega
        subst this; rw [hx] at hy; injection hy with hy; subst hy
        rw [if_pos hn]; omega
/-- a valid event behind all that its node knew: the list stays valid -/
theorem ins_ok {l : List Ev} (hj : jrnB l = true) (hl : l.length ≤ 59) {nd kd pa a b : Int} (he : evB (newEv l nd kd pa a b) = true) : jrnB (insEv l nd kd pa a b) = true := by
  obtain ⟨h1, h2⟩ := at_sides hj nd
  have hp := jrn_pair hj
  rw [jrn_iff]
  refine ⟨by rw [insEv_len]; omega, fun x hx => ?_, ?_⟩
  · unfold insEv at hx
    rcases List.mem_append.1 hx with hx | hx
    · exact jrn_ev hj (List.mem_of_mem_take hx)
    · rcases List.mem_cons.1 hx with rfl | hx
      · exact he
      · exact jrn_ev hj (List.mem_of_mem_drop hx)
  · unfold insEv
    have hsplit : (l.take (atK l nd l.length) ++ l.drop (atK l nd l.length)).Pairwise (fun x y => folB x y = true) := by rw [List.take_append_drop]; exact hp
    rw [List.pairwise_append] at hsplit ⊢
    obtain ⟨p1, p2, p3⟩ := hsplit
    refine ⟨p1, List.pairwise_cons.2 ⟨fun y hy => ?_, p2⟩, fun x hx y hy => ?_⟩
    · rw [folB_iff]; exact .inl (h2 y hy)
    · rcases List.mem_cons.1 hy with rfl | hy
      · have hxl := List.mem_of_mem_take hx
        obtain ⟨i, hi⟩ := List.getElem?_of_mem hxl
        have hil := (List.getElem?_eq_some_iff.1 hi).1
        have hn := h1 x hx
        rw [folB_iff]
        show x.nod < nd ∨ x.nod = nd ∧ x.seq < seqK l nd l.length + 1 ∧ x.stm < stmK l l.length + 1
        rcases Int.lt_or_eq_of_le hn with h3 | h3
        · exact .inl h3
        · have := seqK_ge hj nd l.length i x hil hi h3
          have := stmK_ge l l.length i x hil hi
          exact .inr ⟨h3, by omega, by omega⟩
      · exact p3 x hx y hy
theorem ins_mem {l : List Ev} {nd kd pa a b : Int} {z : Ev} : z ∈ insEv l nd kd pa a b ↔ z ∈ l ∨ z = newEv l nd kd pa a b := by
  unfold insEv
  rw [List.mem_append, List.mem_cons]
  constructor
  · rintro (h | h | h)
    · exact .inl (List.mem_of_mem_take h)
    · exact .inr h
    · exact .inl (List.mem_of_mem_drop h)
  · rintro (h | h)
    · rw [← List.take_append_drop (atK l nd l.length) l, List.mem_append] at h
      rcases h with h | h
      · exact .inl h
      · exact .inr (.inr h)
    · exact .inr (.inl h)
/-- every node's numbers are without a gap -/
def FullE (l : List Ev) : Prop := ∀ e ∈ l, ∀ s : Int, 1 ≤ s → s ≤ e.seq → ∃ x ∈ l, x.nod = e.nod ∧ x.seq = s
theorem full_nil : FullE [] := fun e h => by cases h
theorem full_ins {l : List Ev} (h : FullE l) (nd kd pa a b : Int) : FullE (insEv l nd kd pa a b) := by
  intro e he s h1 h2
  rcases ins_mem.1 he with he | he
  · obtain ⟨x, hx, h3⟩ := h e he s h1 h2
    exact ⟨x, ins_mem.2 (.inl hx), h3⟩
  · subst he
    have h3 : s ≤ seqK l nd l.length + 1 := h2
    by_cases h4 : s = seqK l nd l.length + 1
    · exact ⟨_, ins_mem.2 (.inr rfl), rfl, h4.symm⟩
    · rcases seqK_mem l nd l.length with h5 | ⟨i, x, _, hx, hn, hs⟩
      · omega
      · obtain ⟨y, hy, h6, h7⟩ := h x (List.mem_of_getElem? hx) s h1 (by omega)
        exact ⟨y, ins_mem.2 (.inl hy), h6.trans hn, h7⟩
/-- what the draws make: a valid list of at most n events, of these nodes, its stamps and numbers at most as many as its events -/
structure DrE (l : List Ev) (n : Nat) (P : Int → Bool) : Prop where
  jrn : jrnB l = true
  len : l.length ≤ n
  stm : ∀ e ∈ l, e.stm ≤ l.length
  seq : ∀ e ∈ l, e.seq ≤ l.length
  nod : ∀ e ∈ l, P e.nod = true
  full : FullE l
theorem drE_nil (n : Nat) (P : Int → Bool) : DrE [] n P := ⟨rfl, Nat.zero_le _, fun e h => (by cases h), fun e h => (by cases h), fun e h => (by cases h), full_nil⟩
theorem DrE.more {l : List Ev} {n m : Nat} {P Q : Int → Bool} (h : DrE l n P) (hm : n ≤ m) (hP : ∀ x, P x = true → Q x = true) : DrE l m Q := ⟨h.jrn, Nat.le_trans h.len hm, h.stm, h.seq, fun e he => hP _ (h.nod e he), h.full⟩
theorem stmK_le {l : List Ev} {m : Int} (h0 : 0 ≤ m) (h : ∀ e ∈ l, e.stm ≤ m) : ∀ k, stmK l k ≤ m
  | 0 => by simpa [stmK] using h0
  | k + 1 => by
    have ih := stmK_le h0 h k
    cases hy : l[k]? with
    | none =>
      have e : stmK l (k + 1) = stmK l k := by unfold stmK; rw [List.take_add_one, hy]; simp
      rw [e]; exact ih
    | some y => rw [stmK_succ hy]; have := h y (List.mem_of_getElem? hy); omega
theorem seqK_le {l : List Ev} {nd m : Int} (h0 : 0 ≤ m) (h : ∀ e ∈ l, e.seq ≤ m) (k : Nat) : seqK l nd k ≤ m := by
  rcases seqK_mem l nd k with h1 | ⟨i, x, _, hx, _, hs⟩
  · rw [h1]; exact h0
  · rw [← hs]; exact h x (List.mem_of_getElem? hx)
/-- one event more -/
theorem DrE.add {l : List Ev} {n : Nat} {P : Int → Bool} (h : DrE l n P) (hn : n ≤ 58) {nd kd pa a b : Int} (hd : 0 ≤ nd ∧ nd ≤ 5) (hP : P nd = true) (hk : 1 ≤ kd ∧ kd ≤ 4) (hpa : 1 ≤ pa ∧ pa ≤ 999) (ha : 0 ≤ a ∧ a ≤ 20000) (hb : 0 ≤ b ∧ b ≤ 20000) :
    addE l nd kd pa a b = (insEv l nd kd pa a b, true) ∧ DrE (insEv l nd kd pa a b) (n + 1) P := by
  have hl := h.len
  have s1 := (seqK_in h.jrn nd l.length).1; have s2 := seqK_le (nd := nd) (show (0 : Int) ≤ l.length by omega) h.seq l.length
  have t1 := (stmK_in h.jrn l.length).1; have t2 := stmK_le (show (0 : Int) ≤ l.length by omega) h.stm l.length
  have he : evB (newEv l nd kd pa a b) = true := by
    simp only [evB, newEv, Bool.and_eq_true, inR_iff]; omega
  have hi := ins_ok h.jrn (by omega) he
  have hlen := insEv_len l nd kd pa a b
  refine ⟨addE_yes h.jrn hi, hi, by omega, fun e hx => ?_, fun e hx => ?_, fun e hx => ?_, full_ins h.full nd kd pa a b⟩
  · rcases ins_mem.1 hx with hx | rfl
    · have := h.stm e hx; omega
    · show stmK l l.length + 1 ≤ _; omega
  · rcases ins_mem.1 hx with hx | rfl
    · have := h.seq e hx; omega
    · show seqK l nd l.length + 1 ≤ _; omega
  · rcases ins_mem.1 hx with hx | rfl
    · exact h.nod e hx
    · exact hP
end Go.Proofs.YtdcejkompdbliaaDoor
