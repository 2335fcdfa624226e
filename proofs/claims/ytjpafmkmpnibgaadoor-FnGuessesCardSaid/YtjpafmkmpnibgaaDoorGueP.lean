/- Chapter 3: wrong codes: plain facts: how many are tried. -/
import Derived.Test.YtjpafmkmpnibgaaDoorTryA
namespace Go.Proofs.YtjpafmkmpnibgaaDoor
open Go.RowKit
set_option linter.unusedVariables false

/-- when the pause number q is over, if each try is made as soon as it is possible -/
def sP : Nat → Int
  | 0 => 0
  | q + 1 => sP q + pow2 (min (q : Int) 6)
theorem sP_step (q : Nat) : sP q + 1 ≤ sP (q + 1) ∧ sP (q + 1) ≤ sP q + 64 := by
  have := pow2_bd (p := min (q : Int) 6) (by omega)
  rw [sP]; omega
theorem sP_ge : ∀ q : Nat, (q : Int) ≤ sP q
  | 0 => by simp [sP]
  | q + 1 => by have := sP_ge q; have := sP_step q; omega
theorem sP_le : ∀ {i j : Nat}, i ≤ j → sP i ≤ sP j
  | i, 0, h => by have : i = 0 := by omega
                  subst this; exact Int.le_refl _
  | i, j + 1, h => by
    rcases Nat.lt_or_ge i (j + 1) with hl | hl
    · have := sP_le (i := i) (j := j) (by omega)
      have := sP_step j
      omega
    · have : i = j + 1 := by omega
      subst this; exact Int.le_refl _
theorem mostL_sP (T : Int) (J : Nat) (h0 : ∀ i, i < J → sP i ≤ T) (h1 : T < sP J) : ∀ (d j f : Nat), j + d = J → d ≤ f → mostL f T (3 * (j : Int)) (sP j) (min (j : Int) 6) = 3 * (J : Int)
  | 0, j, f, hj, _ => by
    have : j = J := by omega
    subst this
    exact mostL_out _ _ _ _ _ h1
  | d + 1, j, f, hj, hf => by
    obtain ⟨f', rfl⟩ : ∃ f', f = f' + 1 := ⟨f - 1, by omega⟩
    rw [mostL_in f' T _ _ _ (h0 j (by omega))]
    have ih := mostL_sP T J h0 h1 d (j + 1) f' (by omega) (by omega)
    rw [sP] at ih
    have e1 : 3 * (j : Int) + 3 = 3 * ((j + 1 : Nat) : Int) := by omega
    have e2 : min (min (j : Int) 6 + 1) 6 = min ((j + 1 : Nat) : Int) 6 := by omega
    rw [e1, e2]; exact ih
theorem most_at (T : Int) (hT0 : 0 ≤ T) (hT1 : T ≤ 20000) (J : Nat) (h0 : ∀ i, i < J → sP i ≤ T) (h1 : T < sP J) : mostV T = 3 * (J : Int) := by
  rw [mostV_in hT1]
  have hJ : J ≤ (T + 1).toNat := by
    rcases J with _ | J
    · omega
    · have := sP_ge J; have := h0 J (by omega); omega
  have := mostL_sP T J h0 h1 J 0 (T + 1).toNat (by omega) hJ
  have e : min (((0 : Nat) : Int)) 6 = 0 := by decide
  rw [e] at this
  simpa [sP] using this
theorem most_ex (T : Int) (hT0 : 0 ≤ T) : ∃ J : Nat, (∀ i, i < J → sP i ≤ T) ∧ T < sP J := by
  have key : ∀ m : Nat, (∃ J : Nat, (∀ i, i < J → sP i ≤ T) ∧ T < sP J) ∨ (∀ i, i < m → sP i ≤ T) := by
    intro m
    induction m with
    | zero => exact .inr fun i hi => by omega
    | succ m ih =>
      rcases ih with h | h
      · exact .inl h
      · by_cases hm : sP m ≤ T
        · refine .inr fun i hi => ?_
          rcases Nat.lt_or_ge i m with hl | hl
          · exact h i hl
          · have : i = m := by omega
            subst this; exact hm
        · exact .inl ⟨m, h, by omega⟩
  rcases key (T.toNat + 2) with h | h
  · exact h
  · have h1 := h (T.toNat + 1) (by omega)
    have h2 := sP_ge (T.toNat + 1)
    omega
theorem gue_le {q : Nat} {t now : Int} (h0 : 0 ≤ now) (hn : now ≤ 20000) (ht : t ≤ 2) (h1 : 0 < t → sP q ≤ now) (h2 : 0 < q → sP (q - 1) ≤ now) : 3 * (q : Int) + t ≤ mostV now := by
  obtain ⟨J, hJ0, hJ1⟩ := most_ex now h0
  rw [most_at now h0 hn J hJ0 hJ1]
  by_cases htp : 0 < t
  · have h3 : q < J := by
      rcases Nat.lt_or_ge q J with h | h
      · exact h
      · have := sP_le h; have := h1 htp; omega
    omega
  · by_cases hq : 0 < q
    · have h3 : q - 1 < J := by
        rcases Nat.lt_or_ge (q - 1) J with h | h
        · exact h
        · have := sP_le h; have := h2 hq; omega
      omega
    · omega

def wrongS : ByteArray := ⟨#[119, 114, 111, 110, 103]⟩
theorem not_wrong (s m : Int) : shownL s m [wrongS] = false := by
  rw [shown1]
  rw [decide_eq_false_iff_not]
  intro h
  have h5 : (codeT s m).size = 5 := by rw [h]; rfl
  unfold codeT at h5
  split at h5
  · rw [strOfNums_size, lowD_len] at h5; omega
  · exact absurd h5 (by decide)
theorem findN_none (P : Int → Bool) (h : ∀ m, P m = false) : ∀ (n : Nat) (k : Int), findN P k n = -1
  | 0, _ => rfl
  | n + 1, k => by rw [findN_no P k n (h k)]; exact findN_none P h n (k + 1)
theorem wrong_wait {s n t p u now : Int} (hl : lockB s n t p u = true) (h0 : 0 ≤ now) (h1 : now ≤ 20000) (hw : now < u) : enterK s n t p u (findN (fun m => shownL s m [wrongS]) n (fcnt n 5 1)) 1 now = (n, t, p, u, 1) :=
  enterK_wait hl (inR_iff.2 ⟨h0, h1⟩) hw
theorem wrong_try {s n t p u now : Int} (hl : lockB s n t p u = true) (h0 : 0 ≤ now) (h1 : now ≤ 20000) (hw : ¬ now < u) : enterK s n t p u (findN (fun m => shownL s m [wrongS]) n (fcnt n 5 1)) 1 now = refK n t p u now := by
  rw [findN_none _ (fun m => not_wrong s m)]
  exact enterK_wrong hl (inR_iff.2 ⟨h0, h1⟩) hw (by omega)

/-- a lock that was tried c times with wrong codes, not later than now -/
def GInv (q : Nat) (t p u now c : Int) : Prop := c = 3 * (q : Int) + t ∧ p = min (q : Int) 6 ∧ sP q ≤ u ∧ u ≤ 400 ∧ (0 ≤ t ∧ t ≤ 2) ∧ (0 < t → sP q ≤ now) ∧ (0 < q → sP (q - 1) ≤ now)
theorem GInv.lock {q : Nat} {t p u now c s : Int} (h : GInv q t p u now c) (h1 : 1 ≤ s) (h2 : s ≤ 100000) : lockB s 0 t p u = true := by
  obtain ⟨_, hp, hu, hu2, ht, _, _⟩ := h
  have := sP_ge q
  rw [lockB_iff]; omega
theorem GInv.later {q : Nat} {t p u now now' c : Int} (h : GInv q t p u now c) (hn : now ≤ now') : GInv q t p u now' c := by
  obtain ⟨h1, h2, h3, h4, h5, h6, h7⟩ := h
  exact ⟨h1, h2, h3, h4, h5, fun h => by have := h6 h; omega, fun h => by have := h7 h; omega⟩
theorem GInv.step {q : Nat} {t p u now c : Int} (h : GInv q t p u now c) (hw : ¬ now < u) (hn : now ≤ 300) :
    ∃ (q' : Nat) (t' p' u' r : Int), refK 0 t p u now = (0, t', p', u', r) ∧ (r != 1) = true ∧ (0 ≤ r ∧ r ≤ 3) ∧ GInv q' t' p' u' now (c + 1) := by
  obtain ⟨h1, h2, h3, h4, h5, h6, h7⟩ := h
  by_cases ht : t < 2
  · refine ⟨q, t + 1, p, u, 2, refK_lt ht, by decide, by omega, by omega, h2, h3, h4, by omega, fun _ => by omega, h7⟩
  · have hs := sP_step q
    have hp := pow2_bd (p := p) (by omega)
    have he : sP (q + 1) = sP q + pow2 p := by rw [sP, h2]
    refine ⟨q + 1, 0, min (p + 1) 6, now + pow2 p, 3, refK_ge ht, by decide, by omega, by omega, by omega, by omega, by omega, by omega, fun h => by omega, fun _ => by show sP q ≤ now; omega⟩
theorem GInv.le {q : Nat} {t p u now c : Int} (h : GInv q t p u now c) (h0 : 0 ≤ now) (hn : now ≤ 20000) : c ≤ mostV now := by
  obtain ⟨h1, h2, h3, h4, h5, h6, h7⟩ := h
  rw [h1]; exact gue_le h0 hn h5.2 h6 h7

/-- a lock that is tried as soon as it is possible; T: the time -/
def AInv (q : Nat) (t p u T c : Int) : Prop := c = 3 * (q : Int) + t ∧ p = min (q : Int) 6 ∧ u = sP q ∧ T ≤ sP q ∧ sP q ≤ T + 64 ∧ (0 ≤ t ∧ t ≤ 2) ∧ (0 < t → sP q = T) ∧ (0 < q → sP (q - 1) ≤ T)
theorem AInv.lock {q : Nat} {t p u T c s : Int} (h : AInv q t p u T c) (hT : T ≤ 300) (h1 : 1 ≤ s) (h2 : s ≤ 100000) : lockB s 0 t p u = true := by
  obtain ⟨_, hp, hu, hu2, hu3, ht, _, _⟩ := h
  have := sP_ge q
  rw [lockB_iff]; omega
theorem AInv.step {q : Nat} {t p u T c : Int} (h : AInv q t p u T c) (hw : ¬ T < u) :
    ∃ (q' : Nat) (t' p' u' r : Int), refK 0 t p u T = (0, t', p', u', r) ∧ (r == 1) = false ∧ AInv q' t' p' u' T (c + 1) ∧ ((q' = q) ∨ (q' = q + 1 ∧ t' = 0 ∧ T < u')) := by
  obtain ⟨h1, h2, h3, h4, h5, h6, h7, h8⟩ := h
  by_cases ht : t < 2
  · exact ⟨q, t + 1, p, u, 2, refK_lt ht, by decide, ⟨by omega, h2, h3, h4, h5, by omega, fun _ => by omega, h8⟩, .inl rfl⟩
  · have hs := sP_step q
    have hp := pow2_bd (p := p) (by omega)
    have he : sP (q + 1) = sP q + pow2 p := by rw [sP, h2]
    exact ⟨q + 1, 0, min (p + 1) 6, T + pow2 p, 3, refK_ge ht, by decide, ⟨by omega, by omega, by omega, by omega, by omega, by omega, fun h => by omega, fun _ => by show sP q ≤ T; omega⟩, .inr ⟨rfl, rfl, by omega⟩⟩
theorem AInv.next {q : Nat} {t p u T c : Int} (h : AInv q t p u T c) (hw : T < u) : AInv q t p u (T + 1) c ∧ t = 0 := by
  obtain ⟨h1, h2, h3, h4, h5, h6, h7, h8⟩ := h
  have ht : t = 0 := by
    by_cases h : 0 < t
    · have := h7 h; omega
    · omega
  exact ⟨⟨h1, h2, h3, by omega, by omega, h6, fun h => by omega, fun h => by have := h8 h; omega⟩, ht⟩
theorem AInv.all {q : Nat} {t p u T c : Int} (h : AInv q t p u (T + 1) c) (ht : t = 0) (hlast : 0 < q → sP (q - 1) ≤ T) (h0 : 0 ≤ T) (h1 : T ≤ 20000) : mostV T = c := by
  obtain ⟨g1, g2, g3, g4, g5, g6, g7, g8⟩ := h
  rw [most_at T h0 h1 q (fun i hi => ?_) (by omega)]
  · omega
  · have := sP_le (show i ≤ q - 1 by omega)
    have := hlast (by omega)
    omega
end Go.Proofs.YtjpafmkmpnibgaaDoor
