/- Chapter 1: fields joined by blanks split into the same fields: plain facts. -/
import Derived.Test.YtlajniepjnhfcaaDoorSplP
namespace Go.Proofs.YtlajniepjnhfcaaDoor
open Go.RowKit
set_option linter.unusedVariables false

/-- a field that stands at i in s, with a blank behind it -/
structure FldAt (s : ByteArray) (i : Nat) (x : ByteArray) : Prop where
  pos : 1 ≤ x.size
  fits : i + x.size < s.size
  same : s.extract i (i + x.size) = x
  solid : ∀ j, j < x.size → byt s (i + j) ≠ 32
  blank : byt s (i + x.size) = 32
theorem fldF_run {s : ByteArray} {i : Nat} {x : ByteArray} (h : FldAt s i x) (m : Nat) : ∀ (d j : Nat), j + d = x.size → fldF s (m + d + 1) i (i + j) = x :: fldF s m (i + x.size + 1) (i + x.size + 1)
  | 0, j, hj => by
    obtain rfl : j = x.size := by omega
    rw [Nat.add_zero, fldF_space h.blank, if_pos (by have := h.pos; omega), h.same]; rfl
  | d + 1, j, hj => by
    rw [show m + (d + 1) + 1 = (m + d + 1) + 1 by omega, fldF_more (h.solid j (by omega)), show i + j + 1 = i + (j + 1) by omega]
    exact fldF_run h m d (j + 1) (by omega)
theorem fldF_one {s : ByteArray} {i : Nat} {x : ByteArray} (h : FldAt s i x) (m : Nat) : fldF s (m + x.size + 1) i i = x :: fldF s m (i + x.size + 1) (i + x.size + 1) := fldF_run h m x.size 0 (by omega)
/-- the fields stand in s one behind the other, from i to the end -/
def FldsAt (s : ByteArray) : Nat → List ByteArray → Prop
  | i, [] => i = s.size
  | i, x :: r => FldAt s i x ∧ FldsAt s (i + x.size + 1) r
theorem fldsAt_le {s : ByteArray} : ∀ {i : Nat} {p : List ByteArray}, FldsAt s i p → i ≤ s.size
  | i, [], h => Nat.le_of_eq h
  | i, x :: r, h => by have := h.1.fits; omega
theorem fldF_all {s : ByteArray} : ∀ (p : List ByteArray) (i : Nat), FldsAt s i p → fldF s (s.size + 1 - i) i i = p
  | [], i, h => by
    have h : i = s.size := h
    subst h
    rw [show s.size + 1 - s.size = 0 + 1 by omega, fldF_space (byt_end (by omega)), if_neg (by omega)]; rfl
  | x :: r, i, h => by
    obtain ⟨h1, h2⟩ := h
    have hl := fldsAt_le h2
    rw [show s.size + 1 - i = (s.size + 1 - (i + x.size + 1)) + x.size + 1 by omega, fldF_one h1, fldF_all r _ h2]
theorem fldT_all {s : ByteArray} {p : List ByteArray} (h : FldsAt s 0 p) : fldT s = p := by
  have := fldF_all p 0 h
  simpa [fldT] using this
/-- what the fields of a line are: not empty, no blank in them -/
def Solid (x : ByteArray) : Prop := 1 ≤ x.size ∧ ∀ j, j < x.size → byt x j ≠ 32 ∧ 32 ≤ byt x j ∧ byt x j ≤ 126
theorem byt_extract {s : ByteArray} {a b j : Nat} (hb : b ≤ s.size) (hj : a + j < b) : byt (s.extract a b) j = byt s (a + j) := by
  have h1 : j < (s.extract a b).size := by rw [ByteArray.size_extract]; omega
  rw [byt_at h1, byt_at (show a + j < s.size by omega)]
  congr 2
  exact ByteArray.getElem_extract h1
theorem byt_left {a b : ByteArray} {k : Nat} (h : k < a.size) : byt (a ++ b) k = byt a k := by
  rw [byt_at h, byt_at (show k < (a ++ b).size by rw [ByteArray.size_append]; omega)]
  congr 2
  exact ByteArray.getElem_append_left h
theorem byt_right {a b : ByteArray} {k : Nat} (h : k < b.size) : byt (a ++ b) (a.size + k) = byt b k := by
  rw [byt_at h, byt_at (show a.size + k < (a ++ b).size by rw [ByteArray.size_append]; omega)]
  congr 2
  rw [ByteArray.getElem_append_right (by omega)]
  congr 1; omega
def joinL : List ByteArray → ByteArray
  | [] => ⟨#[]⟩
  | x :: r => x ++ (⟨#[32]⟩ ++ joinL r)
theorem fldsAt_join : ∀ (p : List ByteArray) (pre : ByteArray), (∀ x ∈ p, Solid x) → FldsAt (pre ++ joinL p) pre.size p
  | [], pre, _ => by show pre.size = (pre ++ (⟨#[]⟩ : ByteArray)).size; rw [ByteArray.size_append]; rfl
  | x :: r, pre, h => by
    obtain ⟨h1, h2⟩ := h x List.mem_cons_self
    have e : pre ++ joinL (x :: r) = ((pre ++ x) ++ (⟨#[32]⟩ : ByteArray)) ++ joinL r := by simp only [joinL, ByteArray.append_assoc]
    have ih := fldsAt_join r ((pre ++ x) ++ (⟨#[32]⟩ : ByteArray)) fun y hy => h y (List.mem_cons_of_mem _ hy)
    have hz : ((pre ++ x) ++ (⟨#[32]⟩ : ByteArray)).size = pre.size + x.size + 1 := by rw [ByteArray.size_append, ByteArray.size_append]; rfl
    rw [hz, ← e] at ih
    refine ⟨⟨h1, ?_, ?_, fun j hj => ?_, ?_⟩, ih⟩
    · rw [e, ByteArray.size_append, hz]; omega
    · rw [e, ByteArray.append_assoc, ByteArray.append_assoc]
      apply ByteArray.ext
      simp
    · rw [e, byt_left (by rw [hz]; omega), byt_left (by rw [ByteArray.size_append]; omega), byt_right hj]
      exact (h2 j hj).1
    · rw [e, byt_left (by rw [hz]; omega)]
      have := byt_right (a := pre ++ x) (b := ⟨#[32]⟩) (k := 0) (by decide)
      rw [ByteArray.size_append, Nat.add_zero] at this
      rw [this]; rfl
theorem fldT_join {p : List ByteArray} (h : ∀ x ∈ p, Solid x) : fldT (joinL p) = p := by
  have := fldsAt_join p ⟨#[]⟩ h
  rw [show (⟨#[]⟩ : ByteArray) ++ joinL p = joinL p by apply ByteArray.ext; simp] at this
  exact fldT_all this
theorem solid_fldF {s : ByteArray} (hb : ¬ BadT s) : ∀ (m bg i : Nat), bg ≤ i → (∀ j, bg ≤ j → j < i → byt s j ≠ 32) → i + m ≤ s.size + 1 → ∀ x ∈ fldF s m bg i, Solid x
  | 0, _, _, _, _, _, x, hx => by cases hx
  | m + 1, bg, i, h1, h2, h3, x, hx => by
    by_cases h : byt s i = 32
    · rw [fldF_space h, List.mem_append] at hx
      rcases hx with hx | hx
      · by_cases h4 : bg < i
        · rw [if_pos h4, List.mem_singleton] at hx
          subst hx
          have hz : (s.extract bg i).size = i - bg := by rw [ByteArray.size_extract]; omega
          refine ⟨by omega, fun j hj => ?_⟩
          rw [hz] at hj
          rw [byt_extract (by omega) (by omega)]
          have h5 : ¬ (byt s (bg + j) < 32 ∨ 126 < byt s (bg + j)) := fun h6 => hb ⟨bg + j, by omega, h6⟩
          exact ⟨h2 _ (by omega) (by omega), by omega, by omega⟩
        · rw [if_neg h4] at hx; cases hx
      · exact solid_fldF hb m (i + 1) (i + 1) (Nat.le_refl _) (fun j h5 h6 => absurd h6 (by omega)) (by omega) x hx
    · rw [fldF_more h] at hx
      exact solid_fldF hb m bg (i + 1) (by omega) (fun j h5 h6 => by
        by_cases e : j = i
        · subst e; exact h
        · exact h2 j h5 (by omega)) (by omega) x hx
theorem solid_fldT {s : ByteArray} (hb : ¬ BadT s) : ∀ x ∈ fldT s, Solid x := solid_fldF hb (s.size + 1) 0 0 (Nat.le_refl _) (fun j _ h => absurd h (by omega)) (by omega)
theorem join_good : ∀ {p : List ByteArray}, (∀ x ∈ p, Solid x) → ¬ BadT (joinL p)
  | [], _, ⟨k, hk, _⟩ => by have : (joinL []).size = 0 := rfl; omega
  | x :: r, h, ⟨k, hk, hbad⟩ => by
    have hs := h x List.mem_cons_self
    have hz : (joinL (x :: r)).size = x.size + (1 + (joinL r).size) := by show (x ++ ((⟨#[32]⟩ : ByteArray) ++ joinL r)).size = _; rw [ByteArray.size_append, ByteArray.size_append]; rfl
    by_cases h1 : k < x.size
    · have : byt (joinL (x :: r)) k = byt x k := byt_left h1
      have := hs.2 k h1
      omega
    · obtain ⟨d, rfl⟩ : ∃ d, k = x.size + d := ⟨k - x.size, by omega⟩
      have h2 : byt (joinL (x :: r)) (x.size + d) = byt ((⟨#[32]⟩ : ByteArray) ++ joinL r) d := byt_right (by rw [ByteArray.size_append]; show d < 1 + _; omega)
      rw [h2] at hbad
      rcases Nat.eq_zero_or_pos d with rfl | hd
      · have h3 : byt ((⟨#[32]⟩ : ByteArray) ++ joinL r) 0 = 32 := (byt_left (by decide)).trans rfl
        omega
      · obtain ⟨f, rfl⟩ : ∃ f, d = 1 + f := ⟨d - 1, by omega⟩
        have h3 : byt ((⟨#[32]⟩ : ByteArray) ++ joinL r) (1 + f) = byt (joinL r) f := byt_right (a := (⟨#[32]⟩ : ByteArray)) (by omega)
        rw [h3] at hbad
        exact join_good (fun y hy => h y (List.mem_cons_of_mem _ hy)) ⟨f, by omega, hbad⟩
/-- the fields of a line, joined, split into the same fields -/
theorem spl_again {s : ByteArray} (h : (splV s).2 = true) (hj : (joinL (splV s).1).size ≤ 600) : splV (joinL (splV s).1) = splV s := by
  by_cases hs : 600 < s.size ∨ BadT s ∨ 24 < (fldT s).length
  · rw [splV_no hs] at h; cases h
  · have hv := splV_yes hs
    rw [hv] at hj ⊢
    have hb : ¬ BadT s := fun hb => hs (.inr (.inl hb))
    have hf := fldT_join (solid_fldT hb)
    have hy : ¬ (600 < (joinL (fldT s)).size ∨ BadT (joinL (fldT s)) ∨ 24 < (fldT (joinL (fldT s))).length) := by
      rintro (h1 | h1 | h1)
      · exact absurd hj (by show ¬ (joinL (fldT s)).size ≤ 600; omega)
      · exact join_good (solid_fldT hb) h1
      · rw [hf] at h1; exact hs (.inr (.inr h1))
    show splV (joinL (fldT s)) = _
    rw [splV_yes hy, hf]
end Go.Proofs.YtlajniepjnhfcaaDoor
