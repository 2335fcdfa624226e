/- Chapter 8: merging as an operation: commutative, idempotent, associative where nothing clashes: plain facts. -/
import Derived.Test.YtdcejkompdbliaaDoorEvUm
namespace Go.Proofs.YtdcejkompdbliaaDoor
open Go.RowKit
set_option linter.unusedVariables false
/-- what they both name they agree on -/
def Agr (a b : List Ev) : Prop := ∀ x ∈ a, ∀ y ∈ b, x.nod = y.nod → x.seq = y.seq → x = y
theorem Agr.symm {a b : List Ev} (h : Agr a b) : Agr b a := fun x hx y hy h1 h2 => (h y hy x hx h1.symm h2.symm).symm
theorem agr_self {a : List Ev} (h : SrtE a) : Agr a a := fun x hx y hy h1 h2 => srt_uniq h hx hy h1 h2
theorem agr_sub {a a' b b' : List Ev} (h : Agr a b) (h1 : ∀ z, z ∈ a' → z ∈ a) (h2 : ∀ z, z ∈ b' → z ∈ b) : Agr a' b' := fun x hx y hy => h x (h1 x hx) y (h2 y hy)
theorem agr_or {a b c : List Ev} {l : List Ev} (hm : ∀ z, z ∈ l → z ∈ a ∨ z ∈ b) (h1 : Agr a c) (h2 : Agr b c) : Agr l c := fun x hx y hy e1 e2 => by
  rcases hm x hx with h | h
  · exact h1 x h y hy e1 e2
  · exact h2 x h y hy e1 e2
theorem agr_some {a b : List Ev} (h : Agr a b) : ∃ l, mrgL a b = some l := by
  cases hm : mrgL a b with
  | some l => exact ⟨l, rfl⟩
  | none =>
    obtain ⟨x, hx, y, hy, h1, h2, h3⟩ := mrgL_none hm
    exact absurd (h x hx y hy h1 h2) h3
theorem some_agr {a b l : List Ev} (ha : SrtE a) (hb : SrtE b) (h : mrgL a b = some l) : Agr a b := fun x hx y hy h1 h2 =>
  srt_uniq (mrgL_srt ha hb h) ((mrgL_mem h x).2 (.inl hx)) ((mrgL_mem h y).2 (.inr hy)) h1 h2
/-- a sorted list with just their members is what merging gives -/
theorem mrgL_told {a b l : List Ev} (ha : SrtE a) (hb : SrtE b) (hg : Agr a b) (hl : SrtE l) (hm : ∀ z, z ∈ l ↔ z ∈ a ∨ z ∈ b) : mrgL a b = some l := by
  obtain ⟨m, h⟩ := agr_some hg
  rw [h, srt_ext (mrgL_srt ha hb h) hl fun z => (mrgL_mem h z).trans (hm z).symm]
theorem mrgL_comm {a b : List Ev} (ha : SrtE a) (hb : SrtE b) : mrgL a b = mrgL b a := by
  cases h : mrgL a b with
  | some l => exact (mrgL_told hb ha (some_agr ha hb h).symm (mrgL_srt ha hb h) fun z => (mrgL_mem h z).trans or_comm).symm
  | none =>
    cases h2 : mrgL b a with
    | none => rfl
    | some l =>
      have := mrgL_told ha hb (some_agr hb ha h2).symm (mrgL_srt hb ha h2) fun z => (mrgL_mem h2 z).trans or_comm
      rw [this] at h; cases h
theorem mrgL_self {a : List Ev} (ha : SrtE a) : mrgL a a = some a := mrgL_told ha ha (agr_self ha) ha fun z => by simp
theorem mrgL_assoc {a b c y q : List Ev} (ha : SrtE a) (hb : SrtE b) (hc : SrtE c) (hab : mrgL a b = some y) (hbc : mrgL b c = some q) (hac : Agr a c) : mrgL y c = mrgL a q := by
  have gab := some_agr ha hb hab; have gbc := some_agr hb hc hbc
  have hy := mrgL_srt ha hb hab; have hq := mrgL_srt hb hc hbc
  have gyc : Agr y c := agr_or (fun z hz => (mrgL_mem hab z).1 hz) hac gbc
  have gaq : Agr a q := (agr_or (fun z hz => (mrgL_mem hbc z).1 hz) gab.symm hac.symm).symm
  obtain ⟨l, hl⟩ := agr_some gyc
  rw [hl, mrgL_told ha hq gaq (mrgL_srt hy hc hl) fun z => by rw [mrgL_mem hl z, mrgL_mem hab z, mrgL_mem hbc z, or_assoc]]
theorem mrgL_lenN : ∀ (n : Nat) {a b l : List Ev}, a.length + b.length ≤ n → mrgL a b = some l → l.length ≤ a.length + b.length := by
  intro n
  induction n with
  | zero =>
    intro a b l hn h
    have hz : a = [] := List.eq_nil_of_length_eq_zero (by omega)
    subst hz
    rw [mrgL_nil1] at h; injection h with h; subst h; simp
  | succ n ih =>
    intro a b l hn h
    cases a with
    | nil => rw [mrgL_nil1] at h; injection h with h; subst h; simp
    | cons x a =>
      cases b with
      | nil => rw [mrgL_nil2] at h; injection h with h; subst h; simp
      | cons y b =>
        simp only [List.length_cons] at hn
        rw [mrgL] at h
        split at h
        · obtain ⟨l', h', rfl⟩ := Option.map_eq_some_iff.1 h
          have := ih (by simp only [List.length_cons]; omega) h'
          simp only [List.length_cons] at this ⊢; omega
        · split at h
          · obtain ⟨l', h', rfl⟩ := Option.map_eq_some_iff.1 h
            have := ih (by simp only [List.length_cons]; omega) h'
            simp only [List.length_cons] at this ⊢; omega
          · split at h
            · obtain ⟨l', h', rfl⟩ := Option.map_eq_some_iff.1 h
              have := ih (by omega) h'
              simp only [List.length_cons]; omega
            · cases h
theorem mrgL_len {a b l : List Ev} (h : mrgL a b = some l) : l.length ≤ a.length + b.length := mrgL_lenN _ (Nat.le_refl _) h
theorem mergeE_iff {a b l : List Ev} : mergeE a b = (l, true) ↔ jrnB a = true ∧ jrnB b = true ∧ mrgL a b = some l ∧ jrnB l = true := by
  constructor
  · intro h
    cases h1 : jrnB a
    · rw [mergeE_bad (.inl h1)] at h; cases h
    cases h2 : jrnB b
    · rw [mergeE_bad (.inr h2)] at h; cases h
    cases h3 : mrgL a b with
    | none => rw [mergeE_none h3] at h; cases h
    | some m =>
      cases h4 : jrnB m
      · rw [mergeE_no h3 h4] at h; cases h
      · rw [mergeE_yes h1 h2 h3 h4] at h; injection h with h; subst h; exact ⟨rfl, rfl, rfl, h4⟩
  · rintro ⟨h1, h2, h3, h4⟩; exact mergeE_yes h1 h2 h3 h4
theorem mergeE_off {a b : List Ev} (h : (mergeE a b).2 = false) : mergeE a b = ([], false) := by
  cases h1 : jrnB a
  · exact mergeE_bad (.inl h1)
  cases h2 : jrnB b
  · exact mergeE_bad (.inr h2)
  cases h3 : mrgL a b with
  | none => exact mergeE_none h3
  | some m =>
    cases h4 : jrnB m
    · exact mergeE_no h3 h4
    · rw [mergeE_yes h1 h2 h3 h4] at h; cases h
theorem mergeE_comm (a b : List Ev) : mergeE a b = mergeE b a := by
  cases h1 : jrnB a
  · rw [mergeE_bad (.inl h1), mergeE_bad (.inr h1)]
  cases h2 : jrnB b
  · rw [mergeE_bad (.inr h2), mergeE_bad (.inl h2)]
  unfold mergeE
  rw [h1, h2, mrgL_comm (jrn_srt h1) (jrn_srt h2)]
theorem mergeE_self {y : List Ev} (h : jrnB y = true) : mergeE y y = (y, true) := mergeE_yes h h (mrgL_self (jrn_srt h)) h
theorem mergeE_sum (a b : List Ev) : (mergeE a b).1.length ≤ a.length + b.length := by
  cases h : (mergeE a b).2
  · rw [mergeE_off h]; simp
  · have h2 : mergeE a b = ((mergeE a b).1, true) := by rw [← h]
    exact mrgL_len (mergeE_iff.1 h2).2.2.1
/-- two ways to all three, the second's merge being fine -/
theorem mergeE_assoc {a b c y q : List Ev} (hab : mergeE a b = (y, true)) (hbc : mergeE b c = (q, true)) (hac : Agr a c) : mergeE y c = mergeE a q := by
  obtain ⟨ja, jb, mab, jy⟩ := mergeE_iff.1 hab
  obtain ⟨_, jc, mbc, jq⟩ := mergeE_iff.1 hbc
  have e := mrgL_assoc (jrn_srt ja) (jrn_srt jb) (jrn_srt jc) mab mbc hac
  unfold mergeE
  rw [jy, jc, ja, jq, e]
end Go.Proofs.YtdcejkompdbliaaDoor
