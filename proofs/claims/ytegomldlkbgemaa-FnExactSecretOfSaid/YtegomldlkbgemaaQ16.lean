/- Chapter 6, plain: terms, deadlines, what storage costs, the next rise, the least number of extensions, bills. -/
import Derived.Test.YtegomldlkbgemaaQ15
namespace Go.Proofs.Ytegomldlkbgemaa
open Go.RowKit
set_option linter.unusedVariables false

structure Tm where
  keep : Int
  free : Int
  step : Int
  rate : Int
  cap : Int
  longer : Int
  price : Int
  most : Int
structure St where
  size : Int
  start : Int
  stop : Int
  ext : Int
def termsB (t : Tm) : Bool := inB t.keep 1 2000 && inB t.step 1 2000 && inB t.longer 1 2000 && inB t.free 0 2000 && inB t.rate 0 10000 && inB t.cap 0 1000000 && inB t.price 0 100000 && inB t.most 0 20
theorem in_iff (x a b : Int) : inB x a b = true ↔ a ≤ x ∧ x ≤ b := by simp [inB]
theorem terms_iff (t : Tm) : termsB t = true ↔ (1 ≤ t.keep ∧ t.keep ≤ 2000) ∧ (1 ≤ t.step ∧ t.step ≤ 2000) ∧ (1 ≤ t.longer ∧ t.longer ≤ 2000) ∧ (0 ≤ t.free ∧ t.free ≤ 2000) ∧ (0 ≤ t.rate ∧ t.rate ≤ 10000) ∧ (0 ≤ t.cap ∧ t.cap ≤ 1000000) ∧ (0 ≤ t.price ∧ t.price ≤ 100000) ∧ (0 ≤ t.most ∧ t.most ≤ 20) := by
  simp only [termsB, Bool.and_eq_true, in_iff, and_assoc]

/-- the deadline -/
def deadB (o c : List (Int × Int)) (t : Tm) (a e : Int) : Option Int := if termsB t = true ∧ 0 ≤ e ∧ e ≤ t.most then afterB o c a (t.keep + t.longer * e) else none

theorem aft_range (o c : List (Int × Int)) : ∀ (f : Nat) (t left x : Int), aftB o c f t left = some x → t ≤ x ∧ x ≤ t + f
  | 0, t, left, x, h => by
    by_cases h0 : left = 0
    · rw [aft_zero _ _ _ _ _ h0] at h; injection h with h; omega
    · rw [aft_end _ _ _ _ h0] at h; cases h
  | f + 1, t, left, x, h => by
    by_cases h0 : left = 0
    · rw [aft_zero _ _ _ _ _ h0] at h; injection h with h; omega
    · cases hop : openB o c t
      · rw [aft_no _ _ _ _ _ h0 hop] at h
        have := aft_range o c f (t + 1) left x h
        omega
      · rw [aft_yes _ _ _ _ _ h0 hop] at h
        have := aft_range o c f (t + 1) (left - 1) x h
        omega
theorem after_range {o c : List (Int × Int)} {a m x : Int} (h : afterB o c a m = some x) : 0 ≤ a ∧ a ≤ x ∧ x ≤ 20000 := by
  unfold afterB at h
  split at h
  · rename_i hc
    have ht := (time_iff a).1 hc.2.1
    have := aft_range o c _ _ _ _ h
    omega
  · cases h
theorem dead_range {o c : List (Int × Int)} {t : Tm} {a e x : Int} (h : deadB o c t a e = some x) : termsB t = true ∧ 0 ≤ e ∧ e ≤ t.most ∧ 0 ≤ a ∧ a ≤ x ∧ x ≤ 20000 := by
  unfold deadB at h
  split at h
  · rename_i hc
    exact ⟨hc.1, hc.2.1, hc.2.2, after_range h⟩
  · cases h
theorem aft_mono (o c : List (Int × Int)) : ∀ (f : Nat) (t m m' : Int), 0 ≤ m → m ≤ m' → aftB o c f t m = none → aftB o c f t m' = none
  | 0, t, m, m', h, hm, ha => by
    by_cases h0 : m = 0
    · rw [aft_zero _ _ _ _ _ h0] at ha; cases ha
    · exact aft_end _ _ _ _ (by omega)
  | f + 1, t, m, m', h, hm, ha => by
    by_cases h0 : m = 0
    · rw [aft_zero _ _ _ _ _ h0] at ha; cases ha
    · cases hop : openB o c t
      · rw [aft_no _ _ _ _ _ h0 hop] at ha
        rw [aft_no _ _ _ _ _ (by omega) hop]
        exact aft_mono o c f (t + 1) m m' h hm ha
      · rw [aft_yes _ _ _ _ _ h0 hop] at ha
        rw [aft_yes _ _ _ _ _ (by omega) hop]
        exact aft_mono o c f (t + 1) (m - 1) (m' - 1) (by omega) (by omega) ha
theorem after_mono {o c : List (Int × Int)} {a m m' : Int} (h0 : 0 ≤ m) (hm : m ≤ m') (h : afterB o c a m = none) : afterB o c a m' = none := by
  unfold afterB at h ⊢
  split at h
  · rename_i hc
    rw [if_pos ⟨hc.1, hc.2.1, by omega⟩]
    exact aft_mono o c _ a m m' h0 hm h
  · rename_i hc
    rw [if_neg (fun hx => hc ⟨hx.1, hx.2.1, h0⟩)]
theorem long_mono {t : Tm} (ht : termsB t = true) {e e' : Int} (h0 : 0 ≤ e) (he : e ≤ e') : 0 ≤ t.keep + t.longer * e ∧ t.keep + t.longer * e ≤ t.keep + t.longer * e' := by
  obtain ⟨h1, _, h3, _⟩ := (terms_iff t).1 ht
  have a := Int.mul_nonneg (show 0 ≤ t.longer by omega) h0
  have b := Int.mul_le_mul_of_nonneg_left he (show 0 ≤ t.longer by omega)
  omega
theorem long_bound {t : Tm} (ht : termsB t = true) {e : Int} (h0 : 0 ≤ e) (he : e ≤ t.most) : 0 ≤ t.longer * e ∧ t.longer * e ≤ 40000 := by
  obtain ⟨h1, _, h3, _, _, _, _, h8⟩ := (terms_iff t).1 ht
  have a := Int.mul_nonneg (show 0 ≤ t.longer by omega) h0
  have b := Int.mul_le_mul h3.2 (show e ≤ 20 by omega) h0 (by omega)
  omega
theorem dead_none {o c : List (Int × Int)} {t : Tm} {a e e' : Int} (h0 : 0 ≤ e) (he : e ≤ e') (h : deadB o c t a e = none) : deadB o c t a e' = none := by
  by_cases hc : termsB t = true ∧ 0 ≤ e' ∧ e' ≤ t.most
  · obtain ⟨ht, h1, h2⟩ := hc
    rw [deadB, if_pos ⟨ht, h0, by omega⟩] at h
    rw [deadB, if_pos ⟨ht, h1, h2⟩]
    have := long_mono ht h0 he
    exact after_mono this.1 this.2 h
  · rw [deadB, if_neg hc]

/-- the least number of extensions -/
def leastB (o c : List (Int × Int)) (t : Tm) (a u : Int) : Nat → Int → Option Int
  | 0, _ => none
  | f + 1, e => match deadB o c t a e with
    | some x => if u ≤ x then some e else leastB o c t a u f (e + 1)
    | none => leastB o c t a u f (e + 1)
theorem least_hit {o c : List (Int × Int)} {t : Tm} {a u : Int} (f : Nat) {e x : Int} (h : deadB o c t a e = some x) (hu : u ≤ x) : leastB o c t a u (f + 1) e = some e := by rw [leastB, h]; simp [hu]
theorem least_low {o c : List (Int × Int)} {t : Tm} {a u : Int} (f : Nat) {e x : Int} (h : deadB o c t a e = some x) (hu : ¬ u ≤ x) : leastB o c t a u (f + 1) e = leastB o c t a u f (e + 1) := by rw [leastB, h]; simp [hu]
theorem least_no {o c : List (Int × Int)} {t : Tm} {a u : Int} (f : Nat) {e : Int} (h : deadB o c t a e = none) : leastB o c t a u (f + 1) e = leastB o c t a u f (e + 1) := by rw [leastB, h]
theorem least_none {o c : List (Int × Int)} {t : Tm} {a u : Int} : ∀ (f : Nat) {e : Int}, 0 ≤ e → deadB o c t a e = none → leastB o c t a u f e = none
  | 0, e, _, _ => rfl
  | f + 1, e, h0, h => by rw [least_no f h]; exact least_none f (by omega) (dead_none h0 (by omega) h)
def lstB (o c : List (Int × Int)) (t : Tm) (a u : Int) : Option Int := if termsB t = true then leastB o c t a u (t.most + 1).toNat 0 else none

/-- overdue, and whether it can be extended -/
def overB (o c : List (Int × Int)) (t : Tm) (a n e : Int) : Bool := match deadB o c t a e with
  | some x => decide (x < n) && decide (n ≤ 20000)
  | none => false
def extB (o c : List (Int × Int)) (t : Tm) (a n e : Int) : Bool := (deadB o c t a e).isSome && (deadB o c t a (e + 1)).isSome && inB n a 20000 && !overB o c t a n e

/-- storage -/
def stepsB (t : Tm) (h : Int) : Int := (max (h - t.free) 0 + t.step - 1) / t.step
def storB (t : Tm) (z h : Int) : Int := min (stepsB t h * t.rate * z) t.cap
def feeOk (o c : List (Int × Int)) (t : Tm) (z a b e : Int) : Prop := weekB o c = true ∧ termsB t = true ∧ (1 ≤ z ∧ z ≤ 24) ∧ timeB a = true ∧ timeB b = true ∧ a ≤ b ∧ 0 ≤ e ∧ e ≤ t.most
instance feeOkDec (o c : List (Int × Int)) (t : Tm) (z a b e : Int) : Decidable (feeOk o c t z a b e) := by unfold feeOk; infer_instance
def feeB (o c : List (Int × Int)) (t : Tm) (z a b e : Int) : Int := if feeOk o c t z a b e then storB t z (hoursB o c a b) + t.price * e else -1
theorem steps_le {t : Tm} (hd : 1 ≤ t.step) {h s : Int} : stepsB t h ≤ s ↔ max (h - t.free) 0 ≤ s * t.step := by
  unfold stepsB
  have e : (s + 1) * t.step = s * t.step + t.step := by rw [Int.add_mul, Int.one_mul]
  constructor
  · intro hs
    have := (Int.ediv_lt_iff_lt_mul (show 0 < t.step by omega)).1 (show (max (h - t.free) 0 + t.step - 1) / t.step < s + 1 by omega)
    omega
  · intro hs
    have := (Int.ediv_lt_iff_lt_mul (show 0 < t.step by omega) (a := max (h - t.free) 0 + t.step - 1) (b := s + 1)).2 (by omega)
    omega
theorem steps_nonneg {t : Tm} (hd : 1 ≤ t.step) (h : Int) : 0 ≤ stepsB t h := by
  unfold stepsB
  exact Int.ediv_nonneg (by omega) (by omega)
theorem steps_mono {t : Tm} (hd : 1 ≤ t.step) {h h' : Int} (hh : h ≤ h') : stepsB t h ≤ stepsB t h' := by
  have := (steps_le hd (h := h') (s := stepsB t h')).1 (Int.le_refl _)
  exact (steps_le hd).2 (by omega)
theorem steps_bound {t : Tm} (hd : 1 ≤ t.step) {h : Int} (h0 : 0 ≤ t.free) (hh : h ≤ 50000) : stepsB t h ≤ 50000 := by
  refine (steps_le hd).2 ?_
  have : 50000 * 1 ≤ 50000 * t.step := Int.mul_le_mul_of_nonneg_left hd (by omega)
  omega
theorem stor_mono {t : Tm} (hd : 1 ≤ t.step) (hr : 0 ≤ t.rate) {z : Int} (hz : 0 ≤ z) {s s' : Int} (hs : s ≤ s') : s * t.rate * z ≤ s' * t.rate * z := Int.mul_le_mul_of_nonneg_right (Int.mul_le_mul_of_nonneg_right hs hr) hz
theorem stor_nonneg {t : Tm} (ht : termsB t = true) {z : Int} (hz : 0 ≤ z) (h : Int) : 0 ≤ storB t z h ∧ storB t z h ≤ 1000000 := by
  obtain ⟨h1, h2, h3, h4, h5, h6, _⟩ := (terms_iff t).1 ht
  have := Int.mul_nonneg (Int.mul_nonneg (steps_nonneg h2.1 h) h5.1) hz
  unfold storB
  omega
theorem prod_bound {s r z : Int} (h0 : 0 ≤ s) (h1 : s ≤ 50000) (h2 : 0 ≤ r) (h3 : r ≤ 10000) (h4 : 0 ≤ z) (h5 : z ≤ 24) : 0 ≤ s * r ∧ s * r ≤ 500000000 ∧ 0 ≤ s * r * z ∧ s * r * z ≤ 12000000000 := by
  have a := Int.mul_nonneg h0 h2
  have b := Int.mul_le_mul h1 h3 h2 (show (0 : Int) ≤ 50000 by omega)
  have d := Int.mul_nonneg a h4
  have e := Int.mul_le_mul (show s * r ≤ 500000000 by omega) h5 h4 (show (0 : Int) ≤ 500000000 by omega)
  omega
theorem price_bound {t : Tm} (ht : termsB t = true) {e : Int} (h0 : 0 ≤ e) (he : e ≤ t.most) : 0 ≤ t.price * e ∧ t.price * e ≤ 2000000 := by
  obtain ⟨_, _, _, _, _, _, h7, h8⟩ := (terms_iff t).1 ht
  have a := Int.mul_nonneg h7.1 h0
  have b := Int.mul_le_mul h7.2 (show e ≤ 20 by omega) h0 (by omega)
  omega
theorem hours_range (o c : List (Int × Int)) (a b : Int) : 0 ≤ hoursB o c a b ∧ hoursB o c a b ≤ 20000 := by
  unfold hoursB
  split
  · rename_i h
    have := cnt_bd o c a (b - a).toNat
    have h1 := (time_iff a).1 h.2.1
    have h2 := (time_iff b).1 h.2.2.1
    omega
  · omega
theorem fee_range (o c : List (Int × Int)) (t : Tm) (z a b e : Int) : (feeOk o c t z a b e ∧ 0 ≤ feeB o c t z a b e ∧ feeB o c t z a b e ≤ 3000000) ∨ (¬ feeOk o c t z a b e ∧ feeB o c t z a b e = -1) := by
  unfold feeB
  split
  · rename_i h
    have h1 := stor_nonneg h.2.1 (show 0 ≤ z by have := h.2.2.1; omega) (hoursB o c a b)
    have h2 := price_bound h.2.1 h.2.2.2.2.2.2.1 h.2.2.2.2.2.2.2
    exact .inl ⟨h, by omega, by omega⟩
  · rename_i h; exact .inr ⟨h, rfl⟩

/-- the next rise -/
def riseB (o c : List (Int × Int)) (t : Tm) (z s : Int) : Nat → Int → Int → Option Int
  | 0, _, _ => none
  | f + 1, x, h => if s < storB t z (h + (if openB o c (x - 1) = true then 1 else 0)) then some x else riseB o c t z s f (x + 1) (h + (if openB o c (x - 1) = true then 1 else 0))
def nextB (o c : List (Int × Int)) (t : Tm) (z a b e : Int) : Option Int := if feeOk o c t z a b e then riseB o c t z (storB t z (hoursB o c a b)) (20000 - b).toNat (b + 1) (hoursB o c a b) else none
/-- the hours at which the next step begins -/
def atB (t : Tm) (h : Int) : Int := t.free + stepsB t h * t.step + 1
theorem at_steps {t : Tm} (ht : termsB t = true) (h0 : Int) : stepsB t (atB t h0) = stepsB t h0 + 1 := by
  obtain ⟨h1, h2, h3, h4, h5, h6, _⟩ := (terms_iff t).1 ht
  have n := steps_nonneg h2.1 h0
  have p := Int.mul_nonneg n (show 0 ≤ t.step by omega)
  have a : stepsB t (atB t h0) ≤ stepsB t h0 + 1 := by
    refine (steps_le h2.1).2 ?_
    rw [Int.add_mul, Int.one_mul]
    unfold atB
    omega
  have b : ¬ stepsB t (atB t h0) ≤ stepsB t h0 := by
    intro hb
    have := (steps_le h2.1).1 hb
    unfold atB at this
    omega
  omega
theorem at_above {t : Tm} (ht : termsB t = true) (h0 : Int) : h0 < atB t h0 := by
  obtain ⟨h1, h2, _⟩ := (terms_iff t).1 ht
  have := (steps_le h2.1 (h := h0) (s := stepsB t h0)).1 (Int.le_refl _)
  unfold atB
  omega
theorem stor_same {t : Tm} (ht : termsB t = true) {z : Int} (hz : 0 ≤ z) {h0 : Int} (he : storB t z (atB t h0) = storB t z h0) {h : Int} (hh : h0 ≤ h) : storB t z h = storB t z h0 := by
  obtain ⟨h1, h2, h3, h4, h5, h6, _⟩ := (terms_iff t).1 ht
  unfold storB at he ⊢
  rw [at_steps ht] at he
  have m := stor_mono h2.1 h5.1 hz (steps_mono h2.1 hh)
  by_cases hc : t.cap ≤ stepsB t h0 * t.rate * z
  · omega
  · have hq : t.rate * z = 0 := by
      rw [Int.add_mul, Int.add_mul, Int.one_mul] at he
      omega
    rw [Int.mul_assoc, hq, Int.mul_assoc, hq]
    simp
theorem stor_rise {t : Tm} (ht : termsB t = true) {z : Int} (hz : 0 ≤ z) {h0 : Int} (he : storB t z (atB t h0) ≠ storB t z h0) {h : Int} (hh : h0 ≤ h) : storB t z h0 < storB t z h ↔ atB t h0 ≤ h := by
  obtain ⟨h1, h2, h3, h4, h5, h6, _⟩ := (terms_iff t).1 ht
  have up : storB t z h0 < storB t z (atB t h0) := by
    have := stor_mono h2.1 h5.1 hz (show stepsB t h0 ≤ stepsB t (atB t h0) by rw [at_steps ht]; omega)
    unfold storB at he ⊢
    omega
  constructor
  · intro hs
    apply Int.not_lt.1
    intro hn
    have e1 : stepsB t h ≤ stepsB t h0 := by
      refine (steps_le h2.1).2 ?_
      have n := Int.mul_nonneg (steps_nonneg h2.1 h0) (show 0 ≤ t.step by omega)
      unfold atB at hn
      omega
    have := stor_mono h2.1 h5.1 hz e1
    unfold storB at hs
    omega
  · intro hn
    have := stor_mono h2.1 h5.1 hz (steps_mono h2.1 hn)
    unfold storB at up ⊢
    omega
theorem rise_no {o c : List (Int × Int)} {t : Tm} {z h0 : Int} (hs : ∀ h, h0 ≤ h → storB t z h = storB t z h0) : ∀ (f : Nat) (x h : Int), h0 ≤ h → riseB o c t z (storB t z h0) f x h = none
  | 0, _, _, _ => rfl
  | f + 1, x, h, hh => by
    have h2 : h0 ≤ h + (if openB o c (x - 1) = true then 1 else 0) := by split <;> omega
    rw [riseB, if_neg (by rw [hs _ h2]; omega)]
    exact rise_no hs f (x + 1) _ h2
theorem rise_at {o c : List (Int × Int)} {t : Tm} {z h0 n : Int} (hs : ∀ h, h0 ≤ h → (storB t z h0 < storB t z h ↔ n ≤ h)) : ∀ (f : Nat) (x h : Int), h0 ≤ h → h < n → riseB o c t z (storB t z h0) f x h = aftB o c f (x - 1) (n - h)
  | 0, x, h, hh, hn => by rw [aft_end _ _ _ _ (by omega)]; rfl
  | f + 1, x, h, hh, hn => by
    cases hop : openB o c (x - 1)
    · have e : h + (if openB o c (x - 1) = true then 1 else 0) = h := by rw [hop]; simp
      rw [riseB, e, if_neg (by rw [hs h hh]; omega), aft_no _ _ _ _ _ (by omega) hop, rise_at hs f (x + 1) h hh hn]
      congr 1; omega
    · have e : h + (if openB o c (x - 1) = true then 1 else 0) = h + 1 := by rw [hop]; simp
      rw [riseB, e, aft_yes _ _ _ _ _ (by omega) hop]
      by_cases hc : n ≤ h + 1
      · rw [if_pos ((hs _ (by omega)).2 hc), aft_zero _ _ _ _ _ (by omega)]
        congr 1; omega
      · rw [if_neg (by rw [hs _ (by omega)]; omega), rise_at hs f (x + 1) (h + 1) (by omega) (by omega)]
        congr 1 <;> omega
theorem cnt_shift6 (o c : List (Int × Int)) (t : Int) : ∀ k : Nat, cntB o c t (k + 1) = (if openB o c t = true then 1 else 0) + cntB o c (t + 1) k
  | 0 => by
    show cntB o c t 0 + (if openB o c (t + ((0 : Nat) : Int)) = true then 1 else 0) = _ + 0
    rw [show t + ((0 : Nat) : Int) = t by omega]
    show (0 : Int) + _ = _
    omega
  | k + 1 => by
    have ih := cnt_shift6 o c t k
    show cntB o c t (k + 1) + (if openB o c (t + ((k + 1 : Nat) : Int)) = true then 1 else 0) = _ + (cntB o c (t + 1) k + (if openB o c (t + 1 + (k : Int)) = true then 1 else 0))
    rw [ih, show t + ((k + 1 : Nat) : Int) = t + 1 + (k : Int) by omega]
    omega
theorem aft_skip (o c : List (Int × Int)) : ∀ (k f : Nat) (a m : Int), cntB o c a k < m → aftB o c (k + f) a m = aftB o c f (a + k) (m - cntB o c a k)
  | 0, f, a, m, h => by
    rw [show cntB o c a 0 = 0 from rfl, Nat.zero_add]
    congr 1 <;> omega
  | k + 1, f, a, m, h => by
    rw [cnt_shift6] at h ⊢
    have hb := cnt_bd o c (a + 1) k
    rw [show k + 1 + f = (k + f) + 1 by omega]
    cases hop : openB o c a
    · rw [hop] at h
      simp only [Bool.false_eq_true, if_false] at h ⊢
      rw [aft_no _ _ _ _ _ (by omega) hop, aft_skip o c k f (a + 1) m (by omega)]
      congr 1 <;> omega
    · rw [hop] at h
      simp only [if_true] at h ⊢
      rw [aft_yes _ _ _ _ _ (by omega) hop, aft_skip o c k f (a + 1) (m - 1) (by omega)]
      congr 1 <;> omega
theorem hours_is {o c : List (Int × Int)} {a b : Int} (hw : weekB o c = true) (ha : timeB a = true) (hb : timeB b = true) (h : a ≤ b) : hoursB o c a b = cntB o c a (b - a).toNat := by rw [hoursB, if_pos ⟨hw, ha, hb, h⟩]
/-- the next rise in the program's words -/
theorem next_is {o c : List (Int × Int)} {t : Tm} {z a b e : Int} (h : feeOk o c t z a b e) :
    nextB o c t z a b e = if storB t z (atB t (hoursB o c a b)) = storB t z (hoursB o c a b) then none else afterB o c a (atB t (hoursB o c a b)) := by
  obtain ⟨hw, ht, hz, ha, hb, hab, he0, he1⟩ := id h
  rw [nextB, if_pos h]
  have hz0 : 0 ≤ z := by omega
  split
  · rename_i hs
    exact rise_no (fun x hx => stor_same ht hz0 hs hx) _ _ _ (Int.le_refl _)
  · rename_i hs
    have hn := at_above ht (hoursB o c a b)
    have hr := hours_range o c a b
    rw [rise_at (fun x hx => stor_rise ht hz0 hs hx) _ _ _ (Int.le_refl _) hn]
    have t1 := (time_iff a).1 ha
    have t2 := (time_iff b).1 hb
    rw [afterB, if_pos ⟨hw, ha, by omega⟩]
    have hc : hoursB o c a b = cntB o c a (b - a).toNat := hours_is hw ha hb hab
    have := aft_skip o c (b - a).toNat (20000 - b).toNat a (atB t (hoursB o c a b)) (by omega)
    rw [show (20000 - a).toNat = (b - a).toNat + (20000 - b).toNat by omega, this, ← hc]
    congr 1 <;> omega
theorem at_range {t : Tm} (ht : termsB t = true) {h : Int} (h0 : 0 ≤ h) (hh : h ≤ 20000) : 0 ≤ stepsB t h * t.step ∧ stepsB t h * t.step ≤ 22000 ∧ 1 ≤ atB t h ∧ atB t h ≤ 24001 := by
  obtain ⟨h1, h2, h3, h4, h5, h6, _⟩ := (terms_iff t).1 ht
  have n := Int.mul_nonneg (steps_nonneg h2.1 h) (show 0 ≤ t.step by omega)
  have b : stepsB t h * t.step ≤ max (h - t.free) 0 + t.step - 1 := Int.ediv_mul_le _ (by omega)
  unfold atB
  omega

/-- bills -/
def sumB (o c : List (Int × Int)) (t : Tm) : List St → Int → Option Int
  | [], s => some s
  | x :: r, s => if feeB o c t x.size x.start x.stop x.ext = -1 then none else sumB o c t r (s + feeB o c t x.size x.start x.stop x.ext)
def billB (o c : List (Int × Int)) (t : Tm) (l : List St) : Option Int := if weekB o c = true ∧ termsB t = true ∧ (l.length : Int) ≤ 20 then sumB o c t l 0 else none
theorem drop_at {α : Type} {l : List α} {k : Nat} {x : α} (h : l[k]? = some x) : l.drop k = x :: l.drop (k + 1) := by
  obtain ⟨hk, rfl⟩ := List.getElem?_eq_some_iff.1 h
  exact List.drop_eq_getElem_cons hk
theorem sum_no {o c : List (Int × Int)} {t : Tm} {l : List St} {k : Nat} {x : St} (hx : l[k]? = some x) (s : Int) (h : feeB o c t x.size x.start x.stop x.ext = -1) : sumB o c t (l.drop k) s = none := by
  rw [drop_at hx, sumB, if_pos h]
theorem sum_yes {o c : List (Int × Int)} {t : Tm} {l : List St} {k : Nat} {x : St} (hx : l[k]? = some x) (s : Int) (h : feeB o c t x.size x.start x.stop x.ext ≠ -1) : sumB o c t (l.drop k) s = sumB o c t (l.drop (k + 1)) (s + feeB o c t x.size x.start x.stop x.ext) := by
  rw [drop_at hx, sumB, if_neg h]
theorem sum_end {o c : List (Int × Int)} {t : Tm} {l : List St} {k : Nat} (hk : l.length ≤ k) (s : Int) : sumB o c t (l.drop k) s = some s := by
  rw [List.drop_eq_nil_of_le hk]; rfl
theorem sum_range {o c : List (Int × Int)} {t : Tm} : ∀ {l : List St} {s x : Int}, sumB o c t l s = some x → s ≤ x ∧ x ≤ s + 3000000 * l.length
  | [], s, x, h => by simp only [sumB, Option.some.injEq] at h; subst h; simp
  | y :: r, s, x, h => by
    rw [sumB] at h
    split at h
    · cases h
    · have ih := sum_range h
      rcases fee_range o c t y.size y.start y.stop y.ext with ⟨_, h1, h2⟩ | ⟨_, h1⟩
      · simp only [List.length_cons]; omega
      · simp only [List.length_cons]; omega
theorem bill_range {o c : List (Int × Int)} {t : Tm} {l : List St} {x : Int} (h : billB o c t l = some x) : 0 ≤ x ∧ x ≤ 60000000 := by
  unfold billB at h
  split at h
  · rename_i hc
    have := sum_range h
    omega
  · cases h
/-- the cheapest terms -/
def cheapB (o c : List (Int × Int)) (l : List St) : List Tm → Int → Int → Int → Int
  | [], _, best, _ => best
  | t :: r, i, best, least => match billB o c t l with
    | some x => if best < 0 ∨ x < least then cheapB o c l r (i + 1) i x else cheapB o c l r (i + 1) best least
    | none => cheapB o c l r (i + 1) best least
def bestB (o c : List (Int × Int)) (ts : List Tm) (l : List St) : Int := if (ts.length : Int) ≤ 20 then cheapB o c l ts 0 (-1) 0 else -1
theorem cheap_no {o c : List (Int × Int)} {l : List St} {ts : List Tm} {k : Nat} {t : Tm} (hx : ts[k]? = some t) (i b m : Int) (h : billB o c t l = none) : cheapB o c l (ts.drop k) i b m = cheapB o c l (ts.drop (k + 1)) (i + 1) b m := by
  rw [drop_at hx, cheapB, h]
theorem cheap_put {o c : List (Int × Int)} {l : List St} {ts : List Tm} {k : Nat} {t : Tm} (hx : ts[k]? = some t) (i b m : Int) {x : Int} (h : billB o c t l = some x) (hc : b < 0 ∨ x < m) : cheapB o c l (ts.drop k) i b m = cheapB o c l (ts.drop (k + 1)) (i + 1) i x := by
  rw [drop_at hx, cheapB, h]; simp only [if_pos hc]
theorem cheap_keep {o c : List (Int × Int)} {l : List St} {ts : List Tm} {k : Nat} {t : Tm} (hx : ts[k]? = some t) (i b m : Int) {x : Int} (h : billB o c t l = some x) (hc : ¬ (b < 0 ∨ x < m)) : cheapB o c l (ts.drop k) i b m = cheapB o c l (ts.drop (k + 1)) (i + 1) b m := by
  rw [drop_at hx, cheapB, h]; simp only [if_neg hc]
theorem cheap_end {o c : List (Int × Int)} {l : List St} {ts : List Tm} {k : Nat} (hk : ts.length ≤ k) (i b m : Int) : cheapB o c l (ts.drop k) i b m = b := by
  rw [List.drop_eq_nil_of_le hk]; rfl
end Go.Proofs.Ytegomldlkbgemaa
