/- Chapter 7: plain facts: who begins earlier is not later; the latest begin. -/
import Derived.Test.YtmaclochdmndkaaTouP
namespace Go.Proofs.Ytmaclochdmndkaa
set_option linter.unusedVariables false

/-- the same, not later -/
structure DvLe (d d' : Dv) : Prop where
  place : d.place = d'.place
  load : d.load = d'.load
  peak : d.peak = d'.peak
  fin : d.fin ≤ d'.fin
theorem step_mono {G : List (List Int)} {S : List Sp} {d d' e' : Dv} {i : Int} (h : DvLe d d') (hs : stepT G S d' i = some e') : ∃ e, stepT G S d i = some e ∧ DvLe e e' := by
  obtain ⟨hp, hl, hk, hf⟩ := h
  unfold stepT at hs ⊢
  rw [hp, hl, hk]
  split at hs
  · cases hs
  · rename_i hn
    injection hs with hs
    subst hs
    rw [if_neg (by omega)]
    refine ⟨_, rfl, rfl, rfl, rfl, ?_⟩
    dsimp only
    omega
theorem run_mono {G : List (List Int)} {S : List Sp} : ∀ {o : List Int} {d d' e' : Dv}, DvLe d d' → runT G S o d' = some e' → ∃ e, runT G S o d = some e ∧ DvLe e e'
  | [], d, d', e', h, hr => by
    simp only [runT] at hr ⊢
    injection hr with hr
    subst hr
    exact ⟨d, rfl, h⟩
  | i :: o, d, d', e', h, hr => by
    simp only [runT] at hr ⊢
    cases hs : stepT G S d' i with
    | none => rw [hs] at hr; cases hr
    | some x' =>
      rw [hs] at hr
      obtain ⟨x, hx, hxx⟩ := step_mono h hs
      rw [hx]
      exact run_mono hxx hr
theorem drive_mono {t t' r : Int} {G : List (List Int)} {S : List Sp} {O : List Int} {d' : Dv} (ht : t ≤ t') (h : driveT t' r G S O = some d') : ∃ d, driveT t r G S O = some d ∧ d.fin ≤ d'.fin ∧ d.peak = d'.peak := by
  unfold driveT at h ⊢
  cases hr : runT G S O ⟨[], t', loadT S O, loadT S O, 0, 0⟩ with
  | none => rw [hr] at h; cases h
  | some e' =>
    rw [hr] at h
    obtain ⟨e, he, hl⟩ := run_mono (d := ⟨[], t, loadT S O, loadT S O, 0, 0⟩) (d' := ⟨[], t', loadT S O, loadT S O, 0, 0⟩) ⟨rfl, rfl, rfl, ht⟩ hr
    rw [he]
    dsimp only at h ⊢
    rw [hl.peak]
    split at h
    · cases h
    · rename_i hn
      injection h with h
      subst h
      rw [if_neg hn]
      refine ⟨_, rfl, ?_, rfl⟩
      dsimp only
      unfold homeT
      have := hl.fin
      rw [hl.place]
      split <;> omega
/-- the first begin that is too late -/
structure LateR (r : Int) (G : List (List Int)) (S : List Sp) (O : List Int) (z : Int) : Prop where
  z0 : 0 ≤ z
  z1 : z ≤ 20001
  yes : ∀ t, 0 ≤ t → t < z → (driveT t r G S O).isSome = true
  no : ∀ t, z ≤ t → t ≤ 20000 → driveT t r G S O = none
theorem LateR.unique {r : Int} {G : List (List Int)} {S : List Sp} {O : List Int} {z z' : Int} (h : LateR r G S O z) (h' : LateR r G S O z') : z = z' := by
  rcases Int.lt_or_le z z' with hlt | hge
  · have h1 := h'.yes z h.z0 hlt
    rw [h.no z (Int.le_refl _) (by have := h'.z1; omega)] at h1; cases h1
  · rcases Int.lt_or_le z' z with hlt | hge2
    · have h1 := h.yes z' h'.z0 hlt
      rw [h'.no z' (Int.le_refl _) (by have := h.z1; omega)] at h1; cases h1
    · omega
theorem late_yes {r : Int} {G : List (List Int)} {S : List Sp} {O : List Int} {t : Int} (h : (driveT t r G S O).isSome = true) {u : Int} (hu : u ≤ t) : (driveT u r G S O).isSome = true := by
  cases hd : driveT t r G S O with
  | none => rw [hd] at h; cases h
  | some d' => obtain ⟨d, h1, _⟩ := drive_mono hu hd; rw [h1]; rfl
theorem late_no {r : Int} {G : List (List Int)} {S : List Sp} {O : List Int} {t : Int} (h : driveT t r G S O = none) {u : Int} (hu : t ≤ u) : driveT u r G S O = none := by
  cases hd : driveT u r G S O with
  | none => rfl
  | some d' => obtain ⟨d, h1, _⟩ := drive_mono hu hd; rw [h] at h1; cases h1
theorem RoundT.begin {b r : Int} {G : List (List Int)} {S : List Sp} (h : RoundT b r G S) {t : Int} (h0 : 0 ≤ t) (h1 : t ≤ 20000) : RoundT t r G S := ⟨h0, h1, h.r0, h.r1, h.six, h.stops, h.len, h.row, h.leg⟩
theorem orderB_begin {b r : Int} {G : List (List Int)} {S : List Sp} {O : List Int} (h : orderB b r G S O = true) {t : Int} (h0 : 0 ≤ t) (h1 : t ≤ 20000) : orderB t r G S O = true := by
  rw [orderB_iff] at h ⊢
  exact ⟨h.1.begin h0 h1, h.2⟩
end Go.Proofs.Ytmaclochdmndkaa
