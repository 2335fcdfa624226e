/- Chapter 6, plain: what the laws on deadlines and fees ask. -/
import Derived.Test.YtpooffekjealhaaFeeD
import Derived.Test.YtpooffekjealhaaFeeV
import Derived.Test.YtpooffekjealhaaAfterPl
namespace Go.Proofs.Ytpooffekjealhaa
open Go.RowKit
set_option linter.unusedVariables false

theorem hours_mono {o c : List (Int × Int)} {a b d : Int} (hw : weekB o c = true) (h0 : 0 ≤ a) (h1 : a ≤ b) (h2 : b ≤ d) (h3 : d ≤ 20000) : hoursB o c a b ≤ hoursB o c a d := by
  rw [hours_add o c a b d hw h0 h1 h2 h3]
  have := hours_range o c b d
  omega
theorem hours_self {o c : List (Int × Int)} {a : Int} : hoursB o c a a = 0 := by
  unfold hoursB
  split
  · rw [show (a - a).toNat = 0 by omega]; rfl
  · rfl
theorem after_week {o c : List (Int × Int)} {a m x : Int} (h : afterB o c a m = some x) : weekB o c = true ∧ timeB a = true ∧ 0 ≤ m := by
  unfold afterB at h
  split at h
  · rename_i hc; exact hc
  · cases h
theorem dead_hours {o c : List (Int × Int)} {t : Tm} {a e y : Int} (h : deadB o c t a e = some y) : weekB o c = true ∧ hoursB o c a y = t.keep + t.longer * e := by
  have hr := dead_range h
  rw [deadB, if_pos ⟨hr.1, hr.2.1, hr.2.2.1⟩] at h
  obtain ⟨hw, ha, hm⟩ := after_week h
  exact ⟨hw, (after_law o c a _ y hw (by omega) (by omega) hm h).2.2.1⟩
theorem dead_first {o c : List (Int × Int)} {t : Tm} {a e y : Int} (h : deadB o c t a e = some y) : a < y := by
  have hr := dead_range h
  have hh := (dead_hours h).2
  have hl := long_bound hr.1 hr.2.1 hr.2.2.1
  have hk := ((terms_iff t).1 hr.1).1
  rcases Int.lt_or_le a y with h9 | h9
  · exact h9
  · obtain rfl : y = a := by omega
    rw [hours_self] at hh
    omega
theorem dead_next {o c : List (Int × Int)} {t : Tm} {a e y y' : Int} (h : deadB o c t a e = some y) (h' : deadB o c t a (e + 1) = some y') : y < y' := by
  have hr := dead_range h
  have hr' := dead_range h'
  obtain ⟨hw, hh⟩ := dead_hours h
  have hh' := (dead_hours h').2
  have hk := ((terms_iff t).1 hr.1).2.2.1
  rcases Int.lt_or_le y y' with h9 | h9
  · exact h9
  · have := hours_mono hw (by omega) (show a ≤ y' by omega) h9 (by omega)
    rw [Int.mul_add, Int.mul_one] at hh'
    omega
theorem over_at {o c : List (Int × Int)} {t : Tm} {a e y : Int} (h : deadB o c t a e = some y) (k : Int) : overB o c t a k e = (decide (y < k) && decide (k ≤ 20000)) := by rw [overB, h]
theorem over_same {o c : List (Int × Int)} {t : Tm} {a e y : Int} (h : deadB o c t a e = some y) : overB o c t a y e = false := by rw [over_at h]; simp
theorem over_past {o c : List (Int × Int)} {t : Tm} {a e y : Int} (h : deadB o c t a e = some y) (hy : y < 20000) : overB o c t a (y + 1) e = true := by
  rw [over_at h]; simp; omega
theorem ext_at {o c : List (Int × Int)} {t : Tm} {a e y : Int} (h : deadB o c t a e = some y) : extB o c t a y e = (deadB o c t a (e + 1)).isSome := by
  have hr := dead_range h
  rw [extB, h, over_same h, (in_iff y a 20000).2 (by omega)]
  simp
theorem ext_past {o c : List (Int × Int)} {t : Tm} {a e y : Int} (h : deadB o c t a e = some y) (hy : y < 20000) : extB o c t a (y + 1) e = false := by
  rw [extB, over_past h hy]; simp
theorem dead_far {o c : List (Int × Int)} {t : Tm} {a : Int} : deadB o c t a (t.most + 1) = none := by
  rw [deadB, if_neg (fun h => by omega)]

/-- what the law on fees knows of its arguments -/
structure FeeArg (o c : List (Int × Int)) (t : Tm) (z a b e : Int) : Prop where
  hw : weekB o c = true
  ht : termsB t = true
  z1 : 1 ≤ z
  z2 : z ≤ 24
  a0 : 0 ≤ a
  ab : a ≤ b
  b2 : b ≤ 20000
  e0 : 0 ≤ e
  em : e ≤ t.most
section
variable {o c : List (Int × Int)} {t : Tm} {z a b e : Int}
theorem FeeArg.ok (h : FeeArg o c t z a b e) : feeOk o c t z a b e := ⟨h.hw, h.ht, ⟨h.z1, h.z2⟩, (time_iff a).2 (by have := h.a0; have := h.ab; have := h.b2; omega), (time_iff b).2 (by have := h.a0; have := h.ab; have := h.b2; omega), h.ab, h.e0, h.em⟩
theorem FeeArg.is (h : FeeArg o c t z a b e) : feeB o c t z a b e = storB t z (hoursB o c a b) + t.price * e := by rw [feeB, if_pos h.ok]
theorem FeeArg.at (h : FeeArg o c t z a b e) {d : Int} (h1 : a ≤ d) (h2 : d ≤ 20000) : FeeArg o c t z a d e := ⟨h.hw, h.ht, h.z1, h.z2, h.a0, h1, h2, h.e0, h.em⟩
theorem stor_up (ht : termsB t = true) (hz : 0 ≤ z) {x y : Int} (h : x ≤ y) : storB t z x ≤ storB t z y := by
  obtain ⟨h1, h2, h3, h4, h5, _⟩ := (terms_iff t).1 ht
  have := stor_mono h2.1 h5.1 hz (steps_mono h2.1 h)
  unfold storB
  omega
theorem FeeArg.later (h : FeeArg o c t z a b e) {d : Int} (h1 : b ≤ d) (h2 : d ≤ 20000) : feeB o c t z a b e ≤ feeB o c t z a d e := by
  have hab := h.ab
  rw [h.is, (h.at (by omega) h2).is]
  have := stor_up h.ht (show 0 ≤ z by have := h.z1; omega) (hours_mono h.hw h.a0 h.ab h1 h2)
  omega
theorem FeeArg.back (h : FeeArg o c t z a b e) : feeB o c t z a (a - 1) e = -1 := by
  rw [feeB, if_neg (fun hx => by have := hx.2.2.2.2.2.1; omega)]
theorem free_law (h : FeeArg o c t z a b e) : ∃ u, freeB o c t a = some u ∧ a ≤ u ∧ u ≤ 20000 ∧ (b ≤ u → feeB o c t z a b e = t.price * e) ∧ (u < 20000 → 0 < t.rate → 0 < t.cap → t.price * e < feeB o c t z a (u + 1) e) := by
  obtain ⟨h1, h2, h3, h4, h5, h6, _⟩ := (terms_iff t).1 h.ht
  have hab := h.ab; have hb2 := h.b2; have hz1 := h.z1
  obtain ⟨u, e1, _, u0, u1, u2, u3⟩ := before_law o c a t.free h.hw h.a0 (by omega) h4.1
  refine ⟨u, by rw [freeB, if_pos h.ht]; exact e1, u0, u1, fun hbu => ?_, fun hu hr hc => ?_⟩
  · have hm := hours_mono h.hw h.a0 h.ab hbu u1
    have hs : stepsB t (hoursB o c a b) ≤ 0 := (steps_le h2.1).2 (by omega)
    have hs0 := steps_nonneg h2.1 (hoursB o c a b)
    have e0 : stepsB t (hoursB o c a b) = 0 := by omega
    rw [h.is, storB, e0]
    simp
    omega
  · have hh := u3 hu
    have hs : ¬ stepsB t (hoursB o c a (u + 1)) ≤ 0 := fun hx => by
      have := (steps_le h2.1).1 hx
      omega
    rw [(h.at (show a ≤ u + 1 by omega) (by omega)).is]
    have p := Int.mul_pos (Int.mul_pos (show 0 < stepsB t (hoursB o c a (u + 1)) by omega) hr) (show 0 < z by omega)
    unfold storB
    omega
theorem next_none6 (h : FeeArg o c t z a b e) (hn : nextB o c t z a b e = none) : feeB o c t z a 20000 e = feeB o c t z a b e := by
  have hab := h.ab; have hb2 := h.b2; have hz1 := h.z1
  rw [next_is h.ok] at hn
  rw [h.is, (h.at (show a ≤ 20000 by omega) (Int.le_refl _)).is]
  have hm := hours_mono h.hw h.a0 h.ab hb2 (Int.le_refl _)
  split at hn
  · rename_i hs
    rw [stor_same h.ht (by omega) hs hm]
  · rename_i hs
    have hat := at_range h.ht (hours_range o c a b).1 (hours_range o c a b).2
    have hlt := after_none o c a _ h.hw h.a0 (by omega) (by omega) hn
    have hr := (stor_rise h.ht (show 0 ≤ z by omega) hs hm)
    have up := stor_up h.ht (show 0 ≤ z by omega) hm
    omega
theorem next_some6 (h : FeeArg o c t z a b e) {y : Int} (hn : nextB o c t z a b e = some y) : b < y ∧ y ≤ 20000 ∧ feeB o c t z a b e < feeB o c t z a y e ∧ feeB o c t z a (y - 1) e = feeB o c t z a b e := by
  have ha0 := h.a0; have hab := h.ab; have hb2 := h.b2; have hz1 := h.z1
  rw [next_is h.ok] at hn
  split at hn
  · cases hn
  · rename_i hs
    have hat := at_range h.ht (hours_range o c a b).1 (hours_range o c a b).2
    have hup := at_above h.ht (hoursB o c a b)
    obtain ⟨y0, _, y2, y3, y4⟩ := after_law o c a _ y h.hw h.a0 (by omega) (by omega) hn
    have hby : b < y := by
      rcases Int.lt_or_le b y with h9 | h9
      · exact h9
      · have := hours_mono h.hw h.a0 y0 h9 hb2
        omega
    rcases y4 with ⟨y4, _⟩ | ⟨_, y4⟩
    · omega
    · have hm := hours_mono h.hw h.a0 h.ab (show b ≤ y by omega) y3
      have hm1 := hours_mono h.hw h.a0 h.ab (show b ≤ y - 1 by omega) (by omega)
      have hop : openB o c (y - 1) = true := by rw [← isOpen_in o c (y - 1) h.hw (by omega) (by omega)]; exact y4
      have hone : hoursB o c (y - 1) y = 1 := by
        rw [hours_eq o c (y - 1) y h.hw (by omega) (by omega) y3, show (y - (y - 1)).toNat = 0 + 1 by omega, cnt_yes o c (y - 1) 0 (by rw [show y - 1 + ((0 : Nat) : Int) = y - 1 by omega]; exact hop)]
        rfl
      have hadd := hours_add o c a (y - 1) y h.hw h.a0 (by omega) (by omega) y3
      have r1 := (stor_rise h.ht (show 0 ≤ z by omega) hs hm).2 (by omega)
      have r2 := (stor_rise h.ht (show 0 ≤ z by omega) hs hm1)
      have up := stor_up h.ht (show 0 ≤ z by omega) hm1
      refine ⟨hby, y3, ?_, ?_⟩
      · rw [h.is, (h.at (show a ≤ y by omega) y3).is]; omega
      · rw [h.is, (h.at (show a ≤ y - 1 by omega) (by omega)).is]; omega
end
end Go.Proofs.Ytpooffekjealhaa
