/- Chapter 8: what unite makes, and that it is what merging makes: plain facts. -/
import Derived.Test.YtdcejkompdbliaaDoorEvI
import Derived.Test.YtdcejkompdbliaaDoorEvY
import Derived.Test.YtdcejkompdbliaaDoorEvS
namespace Go.Proofs.YtdcejkompdbliaaDoor
open Go.RowKit
set_option linter.unusedVariables false
abbrev SrtE (l : List Ev) : Prop := l.Pairwise (fun x y => befE x y = true)
theorem befE_no {x y : Ev} : befE x y = false ↔ ¬ (x.nod < y.nod ∨ (x.nod = y.nod ∧ x.seq < y.seq)) := by
  rw [← befE_iff]; simp
theorem jrn_srt {l : List Ev} (h : jrnB l = true) : SrtE l := (jrn_pair h).imp (fun {x y} h => by rw [folB_iff] at h; rw [befE_iff]; omega)
theorem mrgL_memN : ∀ (n : Nat) {a b l : List Ev}, a.length + b.length ≤ n → mrgL a b = some l → ∀ z, z ∈ l ↔ z ∈ a ∨ z ∈ b := by
  intro n
  induction n with
  | zero =>
    intro a b l hn h z
    have ha : a = [] := List.eq_nil_of_length_eq_zero (by omega)
    have hb : b = [] := List.eq_nil_of_length_eq_zero (by omega)
    subst ha; subst hb
    rw [mrgL_nil1] at h; injection h with h; subst h; simp
  | succ n ih =>
    intro a b l hn h z
    cases a with
    | nil => rw [mrgL_nil1] at h; injection h with h; subst h; simp
    | cons x a =>
      cases b with
      | nil => rw [mrgL_nil2] at h; injection h with h; subst h; simp
      | cons y b =>
        simp only [List.length_cons] at hn
        rw [mrgL] at h
        split at h
        · obtain ⟨l', h', rfl⟩ := Option.map_eq_some_iff.1 h
          have := ih (by simp only [List.length_cons]; omega) h' z
          simp only [List.mem_cons] at this ⊢
          rw [this]; grind
        · split at h
          · obtain ⟨l', h', rfl⟩ := Option.map_eq_some_iff.1 h
            have := ih (by simp only [List.length_cons]; omega) h' z
            simp only [List.mem_cons] at this ⊢
            rw [this]; grind
          · split at h
            · rename_i e; subst e
              obtain ⟨l', h', rfl⟩ := Option.map_eq_some_iff.1 h
              have := ih (by omega) h' z
              simp only [List.mem_cons] at this ⊢
              rw [this]; grind
            · cases h
theorem mrgL_mem {a b l : List Ev} (h : mrgL a b = some l) (z : Ev) : z ∈ l ↔ z ∈ a ∨ z ∈ b := mrgL_memN _ (Nat.le_refl _) h z
theorem befE_trans {x y z : Ev} (h1 : befE x y = true) (h2 : befE y z = true) : befE x z = true := by rw [befE_iff] at *; omega
theorem mrgL_srtN : ∀ (n : Nat) {a b l : List Ev}, a.length + b.length ≤ n → SrtE a → SrtE b → mrgL a b = some l → SrtE l := by
  intro n
  induction n with
  | zero =>
    intro a b l hn ha hb h
    have hz : a = [] := List.eq_nil_of_length_eq_zero (by omega)
    subst hz
    rw [mrgL_nil1] at h; injection h with h; subst h; exact hb
  | succ n ih =>
    intro a b l hn ha hb h
    cases a with
    | nil => rw [mrgL_nil1] at h; injection h with h; subst h; exact hb
    | cons x a =>
      cases b with
      | nil => rw [mrgL_nil2] at h; injection h with h; subst h; exact ha
      | cons y b =>
        simp only [List.length_cons] at hn
        have ha2 := List.pairwise_cons.1 ha
        have hb2 := List.pairwise_cons.1 hb
        rw [mrgL] at h
        split at h
        · rename_i hc
          obtain ⟨l', h', rfl⟩ := Option.map_eq_some_iff.1 h
          refine List.pairwise_cons.2 ⟨fun z hz => ?_, ih (by simp only [List.length_cons]; omega) ha2.2 hb h'⟩
          rcases (mrgL_mem h' z).1 hz with hz | hz
          · exact ha2.1 z hz
          · rcases List.mem_cons.1 hz with rfl | hz
            · exact hc
            · exact befE_trans hc (hb2.1 z hz)
        · split at h
          · rename_i hc
            obtain ⟨l', h', rfl⟩ := Option.map_eq_some_iff.1 h
            refine List.pairwise_cons.2 ⟨fun z hz => ?_, ih (by simp only [List.length_cons]; omega) ha hb2.2 h'⟩
            rcases (mrgL_mem h' z).1 hz with hz | hz
            · rcases List.mem_cons.1 hz with rfl | hz
              · exact hc
              · exact befE_trans hc (ha2.1 z hz)
            · exact hb2.1 z hz
          · split at h
            · rename_i e; subst e
              obtain ⟨l', h', rfl⟩ := Option.map_eq_some_iff.1 h
              refine List.pairwise_cons.2 ⟨fun z hz => ?_, ih (by omega) ha2.2 hb2.2 h'⟩
              rcases (mrgL_mem h' z).1 hz with hz | hz
              · exact ha2.1 z hz
              · exact hb2.1 z hz
            · cases h
theorem mrgL_srt {a b l : List Ev} (ha : SrtE a) (hb : SrtE b) (h : mrgL a b = some l) : SrtE l := mrgL_srtN _ (Nat.le_refl _) ha hb h
theorem mrgL_noneN : ∀ (n : Nat) {a b : List Ev}, a.length + b.length ≤ n → mrgL a b = none → ∃ x ∈ a, ∃ y ∈ b, x.nod = y.nod ∧ x.seq = y.seq ∧ x ≠ y := by
  intro n
  induction n with
  | zero =>
    intro a b hn h
    have hz : a = [] := List.eq_nil_of_length_eq_zero (by omega)
    subst hz
    rw [mrgL_nil1] at h; cases h
  | succ n ih =>
    intro a b hn h
    cases a with
    | nil => rw [mrgL_nil1] at h; cases h
    | cons x a =>
      cases b with
      | nil => rw [mrgL_nil2] at h; cases h
      | cons y b =>
        simp only [List.length_cons] at hn
        rw [mrgL] at h
        split at h
        · rw [Option.map_eq_none_iff] at h
          obtain ⟨u, hu, v, hv, hh⟩ := ih (by simp only [List.length_cons]; omega) h
          exact ⟨u, List.mem_cons_of_mem _ hu, v, hv, hh⟩
        · rename_i h1
          split at h
          · rw [Option.map_eq_none_iff] at h
            obtain ⟨u, hu, v, hv, hh⟩ := ih (by simp only [List.length_cons]; omega) h
            exact ⟨u, hu, v, List.mem_cons_of_mem _ hv, hh⟩
          · rename_i h2
            split at h
            · rw [Option.map_eq_none_iff] at h
              obtain ⟨u, hu, v, hv, hh⟩ := ih (by omega) h
              exact ⟨u, List.mem_cons_of_mem _ hu, v, List.mem_cons_of_mem _ hv, hh⟩
            · rename_i h3
              rw [befE_iff] at h1 h2
              exact ⟨x, by simp, y, by simp, by omega, by omega, h3⟩
theorem mrgL_none {a b : List Ev} (h : mrgL a b = none) : ∃ x ∈ a, ∃ y ∈ b, x.nod = y.nod ∧ x.seq = y.seq ∧ x ≠ y := mrgL_noneN _ (Nat.le_refl _) h
theorem srt_uniq : ∀ {l : List Ev}, SrtE l → ∀ {x y : Ev}, x ∈ l → y ∈ l → x.nod = y.nod → x.seq = y.seq → x = y
  | [], _, _, _, h, _, _, _ => by cases h
  | a :: l, h, x, y, hx, hy, h1, h2 => by
    have hp := List.pairwise_cons.1 h
    rcases List.mem_cons.1 hx with e | hx
    · rcases List.mem_cons.1 hy with e2 | hy
      · rw [e, e2]
      · have := hp.1 y hy; rw [befE_iff] at this; subst e; omega
    · rcases List.mem_cons.1 hy with e | hy
      · have := hp.1 x hx; rw [befE_iff] at this; subst e; omega
      · exact srt_uniq hp.2 hx hy h1 h2
theorem srt_ext : ∀ {l m : List Ev}, SrtE l → SrtE m → (∀ z, z ∈ l ↔ z ∈ m) → l = m
  | [], [], _, _, _ => rfl
  | [], y :: m, _, _, h => by have := (h y).2 (by simp); cases this
  | x :: l, [], _, _, h => by have := (h x).1 (by simp); cases this
  | x :: l, y :: m, hl, hm, h => by
    have hl2 := List.pairwise_cons.1 hl
    have hm2 := List.pairwise_cons.1 hm
    have e : x = y := by
      rcases List.mem_cons.1 ((h x).1 (by simp)) with h1 | h1
      · exact h1
      · rcases List.mem_cons.1 ((h y).2 (by simp)) with h2 | h2
        · exact h2.symm
        · have p := hm2.1 x h1; have q := hl2.1 y h2
          rw [befE_iff] at p q; omega
    subst e
    rw [srt_ext hl2.2 hm2.2 fun z => ?_]
    constructor
    · intro hz
      rcases List.mem_cons.1 ((h z).1 (List.mem_cons_of_mem _ hz)) with rfl | h1
      · have := hl2.1 z hz; rw [befE_iff] at this; omega
      · exact h1
    · intro hz
      rcases List.mem_cons.1 ((h z).2 (List.mem_cons_of_mem _ hz)) with rfl | h1
      · have := hm2.1 z hz; rw [befE_iff] at this; omega
      · exact h1
/-- what the union gains of b -/
def freshE (a : List Ev) (x : Ev) : Bool := !(mapE a x.nod x.seq).isSome
def restE (a b : List Ev) (k : Nat) : List Ev := (b.take k).filter (freshE a)
def SameE (a b : List Ev) (k : Nat) : Prop := ∀ i x y, i < k → b[i]? = some x → mapE a x.nod x.seq = some y → y = x
theorem restE_yes {a b : List Ev} {k : Nat} {x : Ev} (hx : b[k]? = some x) (h : mapE a x.nod x.seq = none) : restE a b (k + 1) = restE a b k ++ [x] := by
  unfold restE; rw [List.take_add_one, hx]; simp [freshE, h]
theorem restE_no {a b : List Ev} {k : Nat} {x y : Ev} (hx : b[k]? = some x) (h : mapE a x.nod x.seq = some y) : restE a b (k + 1) = restE a b k := by
  unfold restE; rw [List.take_add_one, hx]; simp [freshE, h]
theorem restE_len (a b : List Ev) (k : Nat) : (restE a b k).length ≤ k := by
  unfold restE; exact Nat.le_trans (List.length_filter_le _ _) (List.length_take_le _ _)
theorem restE_all (a b : List Ev) : restE a b b.length = b.filter (freshE a) := by unfold restE; rw [List.take_length]
theorem sameE_zero (a b : List Ev) : SameE a b 0 := fun i x y h => by omega
theorem sameE_none {a b : List Ev} {k : Nat} {x : Ev} (h : SameE a b k) (hx : b[k]? = some x) (hn : mapE a x.nod x.seq = none) : SameE a b (k + 1) := fun i u y hi hu hy => by
  rcases Nat.lt_or_ge i k with h1 | h1
  · exact h i u y h1 hu hy
  · have : i = k := by omega
    subst this; rw [hx] at hu; injection hu with hu; subst hu; rw [hn] at hy; cases hy
theorem sameE_some {a b : List Ev} {k : Nat} {x : Ev} (h : SameE a b k) (hx : b[k]? = some x) (hn : mapE a x.nod x.seq = some x) : SameE a b (k + 1) := fun i u y hi hu hy => by
  rcases Nat.lt_or_ge i k with h1 | h1
  · exact h i u y h1 hu hy
  · have : i = k := by omega
    subst this; rw [hx] at hu; injection hu with hu; subst hu; rw [hn] at hy; injection hy with hy; exact hy.symm
theorem clash_none {a b : List Ev} (ha : SrtE a) (hb : SrtE b) {k : Nat} {x y : Ev} (hx : b[k]? = some x) (hy : mapE a x.nod x.seq = some y) (hne : y ≠ x) : mrgL a b = none := by
  cases h : mrgL a b with
  | none => rfl
  | some l =>
    obtain ⟨m1, m2, m3⟩ := mapE_some hy
    exact absurd (srt_uniq (mrgL_srt ha hb h) ((mrgL_mem h y).2 (.inl m1)) ((mrgL_mem h x).2 (.inr (List.mem_of_getElem? hx))) m2 m3) hne
theorem unite_eq {a b s : List Ev} (ha : SrtE a) (hb : SrtE b) (hn : SameE a b b.length) (hp : s.Perm (a ++ b.filter (freshE a))) (hs : s.Pairwise (fun x y => ¬ cmpN y x < 0)) : mrgL a b = some s := by
  have hn2 : ∀ x y, x ∈ b → mapE a x.nod x.seq = some y → y = x := fun x y hx hy => by
    obtain ⟨i, hi⟩ := List.getElem?_of_mem hx
    exact hn i x y (List.getElem?_eq_some_iff.1 hi).1 hi hy
  cases h : mrgL a b with
  | none =>
    obtain ⟨x, hx, y, hy, h1, h2, h3⟩ := mrgL_none h
    have hsome : (mapE a y.nod y.seq).isSome = true := mapE_isSome.2 ⟨x, hx, h1, h2⟩
    obtain ⟨z, hz⟩ := Option.isSome_iff_exists.1 hsome
    obtain ⟨m1, m2, m3⟩ := mapE_some hz
    have e1 : z = x := srt_uniq ha m1 hx (by omega) (by omega)
    have e2 := hn2 y z hy hz
    exact absurd (e1.symm.trans e2) h3
  | some l =>
    have hd : (a ++ b.filter (freshE a)).Pairwise (fun x y => ¬ (x.nod = y.nod ∧ x.seq = y.seq)) := by
      rw [List.pairwise_append]
      refine ⟨ha.imp (fun {x y} h => by rw [befE_iff] at h; omega), (hb.filter _).imp (fun {x y} h => by rw [befE_iff] at h; omega), fun x hx y hy e => ?_⟩
      have hf := (List.mem_filter.1 hy).2
      have : (mapE a y.nod y.seq).isSome = true := mapE_isSome.2 ⟨x, hx, e.1, e.2⟩
      simp [freshE, this] at hf
    have hd2 : s.Pairwise (fun x y => ¬ (x.nod = y.nod ∧ x.seq = y.seq)) := (hp.pairwise_iff (fun {x y} h e => h ⟨e.1.symm, e.2.symm⟩)).2 hd
    have hss : SrtE s := (hs.and hd2).imp (fun {x y} h => by rw [cmpN_neg] at h; rw [befE_iff]; omega)
    refine congrArg some (srt_ext (mrgL_srt ha hb h) hss fun z => ?_)
    rw [mrgL_mem h z, hp.mem_iff, List.mem_append, List.mem_filter]
    constructor
    · rintro (hz | hz)
      · exact .inl hz
      · cases hm : mapE a z.nod z.seq with
        | none => exact .inr ⟨hz, by simp [freshE, hm]⟩
        | some y =>
          have := hn2 z y hz hm; subst this
          exact .inl (mapE_some hm).1
    · rintro (hz | hz)
      · exact .inl hz
      · exact .inr hz.1
end Go.Proofs.YtdcejkompdbliaaDoor
