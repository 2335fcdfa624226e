/- Chapter 5: when a right ends: plain facts. -/
import Derived.Test.YtockjdaijhfgaaaGraY
import Derived.Test.YtockjdaijhfgaaaSrt
namespace Go.Proofs.Ytockjdaijhfgaaa
open Go.RowKit
set_option linter.unusedVariables false
theorem app_same {p a b : Int} {g : Gr} (hab : a ≤ b) (h1 : ¬ (a < g.sta ∧ g.sta ≤ b)) (h2 : ¬ (a < g.fin ∧ g.fin ≤ b)) : appB p b g = appB p a g := by
  have e1 : decide (g.sta ≤ b) = decide (g.sta ≤ a) := by rw [decide_eq_decide]; omega
  have e2 : decide (b < g.fin) = decide (a < g.fin) := by rw [decide_eq_decide]; omega
  unfold appB; rw [e1, e2]
theorem app_later {p a b : Int} {g : Gr} (hab : a ≤ b) (h : appB p a g = true) (h2 : b < g.fin) : appB p b g = true := by
  simp only [appB, Bool.and_eq_true, decide_eq_true_eq] at h ⊢
  exact ⟨⟨h.1.1, by omega⟩, h2⟩
theorem rh_app {l : List Gr} {p a b sp who : Int} (hl : ∀ g ∈ l, appB p a g = true → appB p b g = true) : ∀ (h : Nat) (x : Int), rhB l p a sp who h x = true → rhB l p b sp who h x = true
  | 0, x, hr => hr
  | h + 1, x, hr => by
    obtain ⟨g, h1, h2, h3, h4, h5⟩ := rh_succ.1 hr
    exact rh_succ.2 ⟨g, h1, hl g h1 h2, h3, h4, rh_app hl h _ h5⟩
theorem short_app {l : List Gr} {p a b sp who owner : Int} (hl : ∀ g ∈ l, appB p a g = true → appB p b g = true) (h : (shortB l p a sp who owner).isSome = true) : (shortB l p b sp who owner).isSome = true := by
  obtain ⟨k, hk⟩ := Option.isSome_iff_exists.1 h
  have h1 := (find_range _ 7 k).1 hk
  cases hs : shortB l p b sp who owner with
  | some _ => rfl
  | none =>
    unfold shortB at hs; rw [List.find?_eq_none] at hs
    exact absurd (rh_app hl k owner h1.2.1) (hs k (by simpa using h1.1))
theorem good_time {l : List Gr} {owner who p t : Int} (h : goodB l owner who p t = true) : 0 ≤ t ∧ t ≤ 20000 := by
  simp only [goodB, Bool.and_eq_true] at h; exact inR_iff.1 h.2
theorem good_other {l : List Gr} {owner who p t u : Int} (h : goodB l owner who p t = true) (hu : 0 ≤ u ∧ u ≤ 20000) : goodB l owner who p u = true := by
  simp only [goodB, Bool.and_eq_true] at h ⊢; exact ⟨h.1, inR_iff.2 hu⟩
theorem may_good {l : List Gr} {owner who p t : Int} (h : mayB l owner who p t = true) : goodB l owner who p t = true := by
  unfold mayB at h; simp only [Bool.and_eq_true] at h; exact h.1
theorem may_app {l : List Gr} {owner who p a b : Int} (h : mayB l owner who p a = true) (hb : 0 ≤ b ∧ b ≤ 20000) (hl : ∀ g ∈ l, appB p a g = true → appB p b g = true) : mayB l owner who p b = true := by
  have hg := may_good h
  unfold mayB at h ⊢
  simp only [Bool.and_eq_true] at h ⊢
  exact ⟨good_other hg hb, short_app hl h.2⟩
theorem may_late (l : List Gr) (owner who p : Int) {t : Int} (h : 20000 < t) : mayB l owner who p t = false := by
  cases hm : mayB l owner who p t
  · rfl
  · have := good_time (may_good hm); omega
/-- the right ends at v -/
def IsEnd (l : List Gr) (owner who p now v : Int) : Prop := now < v ∧ mayB l owner who p v = false ∧ ∀ t, now < t → t < v → mayB l owner who p t = true
def endV (l : List Gr) (owner who p now : Int) : Int :=
  if mayB l owner who p now then match (List.range 20002).find? (fun i : Nat => !mayB l owner who p (now + 1 + (i : Int))) with | some i => now + 1 + (i : Int) | none => -2 else -1
theorem endV_no {l : List Gr} {owner who p now : Int} (h : mayB l owner who p now = false) : endV l owner who p now = -1 := by unfold endV; rw [h]; rfl
theorem endV_is {l : List Gr} {owner who p now v : Int} (h : mayB l owner who p now = true) (hv : IsEnd l owner who p now v) : endV l owner who p now = v := by
  have hn := good_time (may_good h)
  obtain ⟨h1, h2, h3⟩ := hv
  have hv2 : v ≤ 20001 := by
    rcases Int.lt_or_le 20001 v with h4 | h4
    · have := h3 20001 (by omega) h4
      rw [may_late l owner who p (by omega)] at this; cases this
    · exact h4
  obtain ⟨i, hi⟩ := Int.eq_ofNat_of_zero_le (show 0 ≤ v - now - 1 by omega)
  have hf : (List.range 20002).find? (fun i : Nat => !mayB l owner who p (now + 1 + (i : Int))) = some i := by
    rw [find_range]
    refine ⟨by omega, ?_, fun j hj => ?_⟩
    · rw [show now + 1 + (i : Int) = v by omega, h2]; rfl
    · rw [h3 _ (by omega) (by omega)]; rfl
  unfold endV; rw [h, if_pos rfl, hf]
  simp only; omega
/-- if a right that was there is gone, a grant has ended when it was gone -/
theorem fail_end {l : List Gr} {owner who p a : Int} (ha : mayB l owner who p a = true) : ∀ (n : Nat) (b : Int), b = a + 1 + (n : Int) → b ≤ 20000 → mayB l owner who p b = false → ∃ g ∈ l, a < g.fin ∧ g.fin ≤ b ∧ mayB l owner who p g.fin = false
  | n, b, hbn, hb, hf => by
    have hat := good_time (may_good ha)
    by_cases hprev : mayB l owner who p (b - 1) = true
    · by_cases hex : ∃ g ∈ l, g.fin = b
      · obtain ⟨g, hg, he⟩ := hex
        exact ⟨g, hg, by omega, by omega, by rw [he]; exact hf⟩
      · exfalso
        have : mayB l owner who p b = true := may_app hprev (by omega) fun g hg h1 => by
          refine app_later (by omega) h1 ?_
          have h2 : b - 1 < g.fin := by
            simp only [appB, Bool.and_eq_true, decide_eq_true_eq] at h1; exact h1.2
          have h3 : g.fin ≠ b := fun e => hex ⟨g, hg, e⟩
          omega
        rw [hf] at this; cases this
    · rcases n with _ | n
      · rw [show b - 1 = a by omega] at hprev; exact absurd ha hprev
      · obtain ⟨g, hg, h1, h2, h3⟩ := fail_end ha n (b - 1) (by omega) (by omega) (by simpa using hprev)
        exact ⟨g, hg, h1, by omega, h3⟩
def endsL (l : List Gr) (now : Int) : List Int := (l.filter fun g => decide (now < g.fin)).map Gr.fin
theorem mem_ends {l : List Gr} {now x : Int} : x ∈ endsL l now ↔ ∃ g ∈ l, now < g.fin ∧ g.fin = x := by
  simp [endsL]; constructor
  · rintro ⟨g, ⟨h1, h2⟩, h3⟩; exact ⟨g, h1, h2, h3⟩
  · rintro ⟨g, h1, h2, h3⟩; exact ⟨g, ⟨h1, h2⟩, h3⟩
theorem mem_sorted_ends {l : List Gr} {now x : Int} : x ∈ sortL (endsL l now) ↔ ∃ g ∈ l, now < g.fin ∧ g.fin = x := (sortL_perm _).mem_iff.trans mem_ends
theorem sorted_before {S : List Int} (hs : S.Pairwise (fun x y => x ≤ y)) {k : Nat} {e f : Int} (he : S[k]? = some e) (hf : f ∈ S) (hlt : f < e) : ∃ j, j < k ∧ S[j]? = some f := by
  obtain ⟨j, hj, rfl⟩ := List.getElem_of_mem hf
  refine ⟨j, ?_, List.getElem?_eq_getElem hj⟩
  obtain ⟨hk, rfl⟩ := List.getElem?_eq_some_iff.1 he
  rcases Nat.lt_trichotomy j k with h | h | h
  · exact h
  · subst h; omega
  · have := (List.pairwise_iff_getElem.1 hs) k j hk hj h; omega
theorem end_hit {l : List Gr} {owner who p now e : Int} {k : Nat} (hm : mayB l owner who p now = true) (he : (sortL (endsL l now))[k]? = some e) (hf : mayB l owner who p e = false)
    (hno : ∀ j x, j < k → (sortL (endsL l now))[j]? = some x → mayB l owner who p x = true) : IsEnd l owner who p now e := by
  have hn := good_time (may_good hm)
  obtain ⟨g, hg, h1, h2⟩ := mem_sorted_ends.1 (List.mem_of_getElem? he)
  have hgr : grantB g = true := by
    have := may_good hm
    simp only [goodB, Bool.and_eq_true] at this
    obtain ⟨j, hj, rfl⟩ := List.getElem_of_mem hg
    exact grantsB_all this.1.1.1.1 (List.getElem?_eq_getElem hj)
  have hge := (grantB_facts hgr).2.2.2.2
  refine ⟨by omega, hf, fun t h3 h4 => ?_⟩
  cases ht : mayB l owner who p t
  · obtain ⟨n, hn2⟩ := Int.eq_ofNat_of_zero_le (show 0 ≤ t - now - 1 by omega)
    obtain ⟨g', hg', h5, h6, h7⟩ := fail_end hm n t (by omega) (by omega) ht
    obtain ⟨j, hj, hx⟩ := sorted_before (sortL_asc _) he (mem_sorted_ends.2 ⟨g', hg', h5, rfl⟩) (by omega)
    rw [hno j _ hj hx] at h7; cases h7
  · rfl
theorem end_none {l : List Gr} {owner who p now : Int} (hm : mayB l owner who p now = true) (hno : ∀ x ∈ sortL (endsL l now), mayB l owner who p x = true) : IsEnd l owner who p now 20001 := by
  have hn := good_time (may_good hm)
  refine ⟨by omega, may_late l owner who p (by omega), fun t h3 h4 => ?_⟩
  cases ht : mayB l owner who p t
  · obtain ⟨n, hn2⟩ := Int.eq_ofNat_of_zero_le (show 0 ≤ t - now - 1 by omega)
    obtain ⟨g', hg', h5, h6, h7⟩ := fail_end hm n t (by omega) (by omega) ht
    rw [hno _ (mem_sorted_ends.2 ⟨g', hg', h5, rfl⟩)] at h7; cases h7
  · rfl
/-- the model's search: all times from now up to x have the right -/
def SE (l : List Gr) (owner who p now x : Int) : Prop := now ≤ x ∧ x ≤ 20001 ∧ ∀ t, now ≤ t → t < x → mayB l owner who p t = true
/-- y is behind x, and no grant of these begins or ends between -/
def NX (l : List Gr) (x y : Int) : Prop := x < y ∧ y ≤ 20001 ∧ ∀ g ∈ l, (x < g.sta → y ≤ g.sta) ∧ (x < g.fin → y ≤ g.fin)
theorem se_start {l : List Gr} {owner who p now : Int} (hm : mayB l owner who p now = true) : SE l owner who p now now := by
  have := good_time (may_good hm); exact ⟨Int.le_refl _, by omega, fun t h1 h2 => by omega⟩
theorem se_next {l : List Gr} {owner who p now x y : Int} (h : SE l owner who p now x) (hm : mayB l owner who p x = true) (hy : NX l x y) : SE l owner who p now y := by
  have hx := good_time (may_good hm)
  have h1 := h.1
  have h2 := hy.1
  refine ⟨by omega, hy.2.1, fun t h3 h4 => ?_⟩
  rcases Int.lt_or_le t x with h5 | h5
  · exact h.2.2 t h3 h5
  · have h6 := hy.2.1
    exact may_app hm (by omega) fun g hg ha => by
      have h7 := hy.2.2 g hg
      rw [app_same (a := x) (by omega) (by omega) (by omega)]; exact ha
theorem se_end {l : List Gr} {owner who p now x : Int} (hm : mayB l owner who p now = true) (h : SE l owner who p now x) (hx : mayB l owner who p x = false) : IsEnd l owner who p now x := by
  have hne : x ≠ now := fun e => by rw [e, hm] at hx; cases hx
  have := h.1
  exact ⟨by omega, hx, fun t h1 h2 => h.2.2 t (by omega) h2⟩
theorem nx_start (l : List Gr) {x : Int} (hx : x ≤ 20000) : NX (l.take 0) x 20001 := ⟨by omega, by omega, by simp⟩
theorem nx_next {l : List Gr} {k : Nat} {g : Gr} {x y z : Int} (hg : l[k]? = some g) (h : NX (l.take k) x y) (h1 : x < z) (h2 : z ≤ y) (h3 : x < g.sta → z ≤ g.sta) (h4 : x < g.fin → z ≤ g.fin) : NX (l.take (k + 1)) x z := by
  refine ⟨h1, by have := h.2.1; omega, fun q hq => ?_⟩
  rw [List.take_add_one, hg] at hq
  rcases List.mem_append.1 hq with hq | hq
  · have := h.2.2 q hq; exact ⟨fun h5 => by have := this.1 h5; omega, fun h5 => by have := this.2 h5; omega⟩
  · obtain rfl : q = g := by simpa using hq
    exact ⟨h3, h4⟩
theorem ends_zero (l : List Gr) (now : Int) : endsL (l.take 0) now = [] := by simp [endsL]
theorem ends_hit {l : List Gr} {now : Int} {k : Nat} {x : Gr} (hx : l[k]? = some x) (h : now < x.fin) : endsL (l.take (k + 1)) now = endsL (l.take k) now ++ [x.fin] := by
  unfold endsL; rw [List.take_add_one, hx]; simp [h]
theorem ends_miss {l : List Gr} {now : Int} {k : Nat} {x : Gr} (hx : l[k]? = some x) (h : ¬ now < x.fin) : endsL (l.take (k + 1)) now = endsL (l.take k) now := by
  unfold endsL; rw [List.take_add_one, hx]; simp [h]
theorem ends_len (l : List Gr) (now : Int) : (endsL l now).length ≤ l.length := by unfold endsL; rw [List.length_map]; exact List.length_filter_le _ _
theorem ends_take (l : List Gr) (now : Int) (k : Nat) : (endsL (l.take k) now).length ≤ k := Nat.le_trans (ends_len _ _) (List.length_take_le _ _)
end Go.Proofs.Ytockjdaijhfgaaa
