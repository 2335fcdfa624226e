/- Chapter 5: a grant more, to a person whom no grant reaches: plain facts for the law FnGranting. -/
import Derived.Test.YtphdmpjmhocfhaaGraZ
namespace Go.Proofs.Ytphdmpjmhocfhaa
open Go.RowKit
set_option linter.unusedVariables false
theorem rh_more {l l' : List Gr} {p t sp who : Int} (hl : ∀ g ∈ l, g ∈ l') : ∀ (h : Nat) (x : Int), rhB l p t sp who h x = true → rhB l' p t sp who h x = true
  | 0, x, hr => hr
  | h + 1, x, hr => by
    obtain ⟨g, h1, h2, h3, h4, h5⟩ := rh_succ.1 hr
    exact rh_succ.2 ⟨g, hl g h1, h2, h3, h4, rh_more hl h _ h5⟩
theorem short_iff {l : List Gr} {p t sp who owner : Int} (h0 : 0 ≤ sp) : (shortB l p t sp who owner).isSome = true ↔ ∃ h, rhB l p t sp who h owner = true := by
  constructor
  · intro h
    obtain ⟨k, hk⟩ := Option.isSome_iff_exists.1 h
    exact ⟨k, ((find_range _ 7 k).1 hk).2.1⟩
  · rintro ⟨h, hr⟩
    have h6 := rh_le h0 hr
    cases hs : shortB l p t sp who owner with
    | some _ => rfl
    | none => unfold shortB at hs; rw [List.find?_eq_none] at hs; exact absurd hr (hs h (by simp; omega))
/-- no grant leads to a person beyond six -/
theorem rh_far {l : List Gr} {p t sp z : Int} (hl : ∀ g ∈ l, g.to ≤ 6) (hz : 6 < z) : ∀ (h : Nat) (x : Int), x ≤ 6 → rhB l p t sp z h x = false
  | 0, x, hx => by cases hr : rhB l p t sp z 0 x; rfl; rw [rh_zero] at hr; omega
  | h + 1, x, hx => by
    cases hr : rhB l p t sp z (h + 1) x
    · rfl
    · obtain ⟨g, h1, _, _, _, h5⟩ := rh_succ.1 hr
      rw [rh_far hl hz h g.to (hl g h1)] at h5; cases h5
section
variable {l : List Gr} {g : Gr} {p t sp : Int}
theorem rh_stuck {z who : Int} (hf : ∀ q ∈ l ++ [g], q.frm ≤ 6) (hz : 6 < z) : ∀ (h : Nat), rhB (l ++ [g]) p t sp who (h + 1) z = false := by
  intro h
  cases hr : rhB (l ++ [g]) p t sp who (h + 1) z
  · rfl
  · obtain ⟨q, h1, _, _, h4, _⟩ := rh_succ.1 hr
    have := hf q h1; omega
/-- the new person is reached by the new grant alone, from the one who grants it -/
theorem rh_new_to (hl : ∀ q ∈ l, q.frm ≤ 6 ∧ q.to ≤ 6) (hg : g.frm ≤ 6 ∧ 6 < g.to) : ∀ (h : Nat) (x : Int), x ≤ 6 → rhB (l ++ [g]) p t sp g.to h x = true → ∃ k, h = k + 1 ∧ sp ≤ g.dep ∧ appB p t g = true ∧ rhB l p t (sp + 1) g.frm k x = true
  | 0, x, hx, hr => by rw [rh_zero] at hr; omega
  | h + 1, x, hx, hr => by
    have hf : ∀ q ∈ l ++ [g], q.frm ≤ 6 := fun q hq => by
      rcases List.mem_append.1 hq with h1 | h1
      · exact (hl q h1).1
      · rw [List.mem_singleton] at h1; subst h1; exact hg.1
    obtain ⟨q, h1, h2, h3, h4, h5⟩ := rh_succ.1 hr
    rcases List.mem_append.1 h1 with h6 | h6
    · obtain ⟨k, rfl, h7, h8, h9⟩ := rh_new_to hl hg h q.to (hl q h6).2 h5
      exact ⟨k + 1, rfl, h7, h8, rh_succ.2 ⟨q, h6, h2, by omega, h4, h9⟩⟩
    · rw [List.mem_singleton] at h6; subst h6
      rcases h with _ | h
      · exact ⟨0, rfl, by omega, h2, by rw [rh_zero]; exact h4.symm⟩
      · rw [rh_stuck hf hg.2] at h5; cases h5
theorem rh_new_of (ha : appB p t g = true) (hd : sp ≤ g.dep) : ∀ (k : Nat) (x : Int), rhB l p t (sp + 1) g.frm k x = true → rhB (l ++ [g]) p t sp g.to (k + 1) x = true
  | 0, x, hr => by
    rw [rh_zero] at hr
    exact rh_succ.2 ⟨g, by simp, ha, by omega, hr.symm, rh_zero.2 rfl⟩
  | k + 1, x, hr => by
    obtain ⟨q, h1, h2, h3, h4, h5⟩ := rh_succ.1 hr
    exact rh_succ.2 ⟨q, List.mem_append_left _ h1, h2, by omega, h4, rh_new_of ha hd k _ h5⟩
theorem short_new {owner : Int} (hl : ∀ q ∈ l, q.frm ≤ 6 ∧ q.to ≤ 6) (hg : g.frm ≤ 6 ∧ 6 < g.to) (ha : appB p t g = true) (ho : owner ≤ 6) (r : Nat) : shortF (l ++ [g]) owner g.to p t r = (decide ((r : Int) ≤ g.dep) && shortF l owner g.frm p t (r + 1)) := by
  rw [Bool.eq_iff_iff, Bool.and_eq_true, decide_eq_true_eq]
  unfold shortF
  rw [short_iff (by omega), short_iff (by omega)]
  constructor
  · rintro ⟨h, hr⟩
    obtain ⟨k, _, h1, _, h2⟩ := rh_new_to hl hg h owner ho hr
    exact ⟨h1, k, by rw [show ((r + 1 : Nat) : Int) = (r : Int) + 1 by omega]; exact h2⟩
  · rintro ⟨h1, k, hr⟩
    rw [show ((r + 1 : Nat) : Int) = (r : Int) + 1 by omega] at hr
    exact ⟨k + 1, rh_new_of ha h1 k owner hr⟩
end
theorem shortF_mono {l : List Gr} {owner who p t : Int} {a b : Nat} (hab : a ≤ b) (h : shortF l owner who p t b = true) : shortF l owner who p t a = true := by
  unfold shortF at h ⊢; exact short_mono (by omega) h
/-- the spare depth as the last number that serves -/
theorem spareG_is {f : Nat → Bool} (hf : ∀ a b, a ≤ b → f b = true → f a = true) : ∀ (n : Nat), -1 ≤ spareG f n ∧ spareG f n < (n : Int) ∧ ∀ r : Nat, r < n → (f r = true ↔ (r : Int) ≤ spareG f n)
  | 0 => ⟨by simp [spareG], by simp [spareG], fun r hr => by omega⟩
  | n + 1 => by
    obtain ⟨h1, h2, h3⟩ := spareG_is hf n
    cases hn : f n
    · rw [spareG_no hn]
      refine ⟨h1, by omega, fun r hr => ?_⟩
      by_cases e : r = n
      · subst e; rw [hn]; constructor
        · intro h; cases h
        · intro h; omega
      · exact h3 r (by omega)
    · rw [spareG_yes hn]
      refine ⟨by omega, by omega, fun r hr => ⟨fun _ => by omega, fun _ => hf r n (by omega) hn⟩⟩
theorem spareG_eq {f : Nat → Bool} (hf : ∀ a b, a ≤ b → f b = true → f a = true) {n : Nat} {v : Int} (h0 : -1 ≤ v) (h1 : v < (n : Int)) (h : ∀ r : Nat, r < n → (f r = true ↔ (r : Int) ≤ v)) : spareG f n = v := by
  obtain ⟨h2, h3, h4⟩ := spareG_is hf n
  rcases Int.lt_trichotomy (spareG f n) v with h5 | h5 | h5
  · obtain ⟨r, hr⟩ := Int.eq_ofNat_of_zero_le (show 0 ≤ v by omega)
    have := (h4 r (by omega)).1 ((h r (by omega)).2 (by omega)); omega
  · exact h5
  · obtain ⟨r, hr⟩ := Int.eq_ofNat_of_zero_le (show 0 ≤ spareG f n by omega)
    have := (h r (by omega)).1 ((h4 r (by omega)).2 (by omega)); omega
section
variable {l : List Gr} {g : Gr} {owner p t : Int}
theorem spare_may {who : Int} (hg : goodB l owner who p t = true) : decide (0 ≤ spareV l owner who p t) = mayB l owner who p t := by
  rw [spareV_good hg]
  obtain ⟨h1, h2, h3⟩ := spareG_is (f := shortF l owner who p t) (fun a b hab h => shortF_mono hab h) 6
  have h4 := h3 0 (by omega)
  have h5 : mayB l owner who p t = shortF l owner who p t 0 := by unfold mayB shortF; rw [hg]; rfl
  rw [h5, Bool.eq_iff_iff, decide_eq_true_eq]; exact h4.symm
theorem spare_self (hg : goodB l owner owner p t = true) : spareV l owner owner p t = 5 := by
  rw [spareV_good hg]
  exact spareG_yes (n := 5) (by unfold shortF; rw [short_iff (by omega)]; exact ⟨0, rh_zero.2 rfl⟩)
theorem spare_new {d : Int} (hl : ∀ q ∈ l, q.frm ≤ 6 ∧ q.to ≤ 6) (hg : g.frm ≤ 6 ∧ 6 < g.to) (hd : g.dep = d) (hd2 : 0 ≤ d ∧ d ≤ 4) (ha : appB p t g = true) (ho : owner ≤ 6) (hw : goodB l owner g.frm p t = true) (hgood : goodB (l ++ [g]) owner g.to p t = true) :
    mayB (l ++ [g]) owner g.to p t = decide (1 ≤ spareV l owner g.frm p t) ∧ (1 ≤ spareV l owner g.frm p t → spareV (l ++ [g]) owner g.to p t = min d (spareV l owner g.frm p t - 1)) := by
  obtain ⟨h1, h2, h3⟩ := spareG_is (f := shortF l owner g.frm p t) (fun a b hab h => shortF_mono hab h) 6
  rw [spareV_good hw]
  refine ⟨?_, fun h => ?_⟩
  · have h5 : mayB (l ++ [g]) owner g.to p t = shortF (l ++ [g]) owner g.to p t 0 := by unfold mayB shortF; rw [hgood]; rfl
    rw [h5, short_new hl hg ha ho 0, Bool.eq_iff_iff, Bool.and_eq_true, decide_eq_true_eq, decide_eq_true_eq, h3 1 (by omega)]
    constructor
    · rintro ⟨_, h⟩; omega
    · intro h; exact ⟨by omega, by omega⟩
  · rw [spareV_good hgood]
    refine spareG_eq (fun a b hab h => shortF_mono hab h) (by omega) (by omega) fun r hr => ?_
    rw [short_new hl hg ha ho r, Bool.and_eq_true, decide_eq_true_eq, hd]
    by_cases h6 : r + 1 < 6
    · rw [h3 (r + 1) h6]; omega
    · constructor
      · rintro ⟨h7, _⟩; omega
      · intro h7; omega
end
theorem may_more {l l' : List Gr} {owner who p t : Int} (hl : ∀ g ∈ l, g ∈ l') (hg : grantsB l' = true) (h : mayB l owner who p t = true) : mayB l' owner who p t = true := by
  unfold mayB at h ⊢
  simp only [Bool.and_eq_true] at h ⊢
  refine ⟨?_, ?_⟩
  · have := h.1; unfold goodB at this ⊢; simp only [Bool.and_eq_true] at this ⊢; exact ⟨⟨⟨⟨hg, this.1.1.1.2⟩, this.1.1.2⟩, this.1.2⟩, this.2⟩
  · obtain ⟨k, hr⟩ := (short_iff (Int.le_refl 0)).1 h.2
    exact (short_iff (Int.le_refl 0)).2 ⟨k, rh_more hl k owner hr⟩
theorem may_far {l : List Gr} {owner p t z : Int} (hl : ∀ g ∈ l, g.to ≤ 6) (hz : 6 < z) (ho : owner ≤ 6) : mayB l owner z p t = false := by
  cases hm : mayB l owner z p t
  · rfl
  · unfold mayB at hm; simp only [Bool.and_eq_true] at hm
    obtain ⟨k, hr⟩ := (short_iff (Int.le_refl 0)).1 hm.2
    rw [rh_far hl hz k owner ho] at hr; cases hr
end Go.Proofs.Ytphdmpjmhocfhaa
